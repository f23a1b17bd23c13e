/- Part 3 of the walk. -/
import Derived.Great.BuildSlice
import Derived.Test.YtcjcngceghfoeaaGreatDoorZ2
set_option maxRecDepth 100000
set_option maxHeartbeats 4000000
open Go.Proofs.Tryz
set_option linter.unusedVariables false
namespace Go.Proofs.YtcjcngceghfoeaaGreatDoor
section
section
structure Bal where
 r:Int
 n:Int
theorem Bal.eq_iff(a b:Bal):(a.r=b.r/\a.n=b.n)↔a=b:=by
 cases a;cases b;simp
instance:DecidableEq Bal:=λa b=>decidable_of_iff _ (Bal.eq_iff a b)
structure Cmd where
 k:Int
 c:Int
 s:Int
 n:Int
 v:Int
theorem Cmd.eq_iff(a b:Cmd):(a.k=b.k/\a.c=b.c/\a.s=b.s/\a.n=b.n/\a.v=b.v)↔a=b:=by
 cases a;cases b;simp
instance:DecidableEq Cmd:=λa b=>decidable_of_iff _ (Cmd.eq_iff a b)
structure Vt where
 bu:Int
 b:Bal
 w:Cmd
theorem Vt.eq_iff(a b:Vt):(a.bu=b.bu/\a.b=b.b/\a.w=b.w)↔a=b:=by
 cases a;cases b;simp
instance:DecidableEq Vt:=λa b=>decidable_of_iff _ (Vt.eq_iff a b)
instance:Inhabited Vt:=⟨⟨0,⟨0,0⟩,⟨0,0,0,0,0⟩⟩⟩
structure Acc where
 p:Bal
 vs:List Vt
def Bal.lt(a b:Bal):Prop:=a.r<b.r\/(a.r=b.r/\a.n<b.n)
instance (a b:Bal):Decidable (a.lt b):=by unfold Bal.lt;exact inferInstance
def Bal.key(a:Bal):Int:=5*a.r+a.n
def Ac(a:Bal):Prop:=(1<=a.r/\a.r<=65536)/\0<=a.n/\a.n<=4
instance (a:Bal):Decidable (Ac a):=by unfold Ac;exact inferInstance
def Cmd.e(c:Cmd):Int:=Bi c.k c.c c.s c.n c.v
def Ah(v:Vt):Prop:=(0<=v.bu/\v.bu<=39)/\Ac v.b/\v.w.e=0
instance (v:Vt):Decidable (Ah v):=by unfold Ah;exact inferInstance
def Ao(a:Bal):Prop:=Ac a\/(a.r=0/\a.n=0)
instance (a:Bal):Decidable (Ao a):=by unfold Ao;exact inferInstance
def BL:List Vt->Prop
 | []=>True
 | u::us=>(∀ v∈us,u.bu<v.bu)/\BL us
def UA:(l:List Vt)->Decidable (BL l)
 | []=>isTrue trivial
 | u::us=>@instDecidableAnd _ _ inferInstance (UA us)
instance (l:List Vt):Decidable (BL l):=UA l
def Ag(a:Acc):Prop:=Ao a.p/\(∀ v∈a.vs,Ah v/\¬ a.p.lt v.b)/\BL a.vs
instance (a:Acc):Decidable (Ag a):=by unfold Ag;exact inferInstance
variable{a b:Bal}{l:List Vt}{v:Vt}
theorem EV(c:Ao a)(d:Ao b):a.lt b↔a.key<b.key:=by
 unfold Ao Ac at c d;unfold Bal.lt Bal.key;omega
theorem DE(c:Ao a)(d:Ao b)(h:a.key=b.key):a=b:=by
 unfold Ao Ac at c d;unfold Bal.key at h;exact(Bal.eq_iff a b).1 (by omega)
theorem Ac.pr(h:Ac a):Ao a:=.inl h
theorem Ac.pos(h:Ac a):5<=a.key:=by unfold Ac at h;unfold Bal.key;omega
def Fu(a:Acc):Int:=if Ag a then 0 else 5
def Cf(a:Acc)(b:Bal):Int:=if ¬ Ag a then 5 else if ¬ Ac b then 2 else if b.lt a.p then 7 else 0
def AY(a:Acc)(v:Vt):Int:=if ¬ Ag a then 5 else if ¬ Ah v then 2 else if v.b.lt a.p then 7 else 0
def Bn:List Vt->Vt->List Vt
 | [],v=>[v]
 | u::us,v=>if u.bu<v.bu then u::Bn us v else if u.bu=v.bu then v::us else v::u::us
theorem BB{u:Vt}(h:BL l):u∈Bn l v↔u=v\/(u∈l/\u.bu≠v.bu):=by
 induction l with
 | nil=>simp[Bn]
 | cons x xs b =>
  obtain⟨c,a⟩:=h;have b:=b a;rw[Bn];split
  .rename_i h1
   rw[mG,b];constructor
   .rintro(rfl|rfl|⟨h2,h3⟩)
    .exact .inr ⟨O',by omega⟩
    .exact .inl rfl
    .exact .inr ⟨I' _ h2,h3⟩
   .rintro(rfl|⟨h2,h3⟩)
    .exact .inr (.inl rfl)
    .rcases mG.1 h2 with rfl|h2
     .exact .inl rfl
     .exact .inr (.inr ⟨h2,h3⟩)
  .split
   .rename_i h1 h2
    rw[mG];constructor
    .rintro(rfl|h3)
     .exact .inl rfl
     .have:=c u h3;exact .inr ⟨I' _ h3,by omega⟩
    .rintro(rfl|⟨h3,h4⟩)
     .exact .inl rfl
     .rcases mG.1 h3 with rfl|h3
      .exact absurd h2 h4
      .exact .inr h3
   .rename_i h1 h2
    rw[mG];constructor
    .rintro(rfl|h3)
     .exact .inl rfl
     .rcases mG.1 h3 with rfl|h4
      .exact .inr ⟨h3,h2⟩
      .have:=c u h4;exact .inr ⟨h3,by omega⟩
    .rintro(rfl|⟨h3,h4⟩)
     .exact .inl rfl
     .exact .inr h3
theorem Ji(v:Vt)(h:BL l):BL (Bn l v):=by
 induction l with
 | nil=>exact⟨λu b=>(Q' b).elim,trivial⟩
 | cons x xs ih =>
  obtain⟨c,a⟩:=h;rw[Bn];split
  .rename_i h1
   refine⟨λu b=>?_,ih a⟩;rcases(BB a).1 b with rfl|⟨h2,_⟩
   .exact h1
   .exact c u h2
  .split
   .rename_i h1 h2
    exact⟨λu b=>by have:=c u b;omega,a⟩
   .rename_i h1 h2
    refine⟨λu b=>?_,c,a⟩;rcases mG.1 b with rfl|h3
    .omega
    .have:=c u h3;omega
def BQ:List Vt->Option Vt->Option Vt
 | [],o=>o
 | v::l,none=>BQ l (some v)
 | v::l,some u=>if u.b.lt v.b then BQ l (some v)else BQ l (some u)
theorem R7(l:List Vt)(u:Vt)(k:∀ v∈l,Ao v.b)(f:Ao u.b):∃ x,BQ l (some u)=some x/\(x=u\/x∈l)/\u.b.key<=x.b.key/\∀ v∈l,v.b.key<=x.b.key:=by
 induction l generalizing u with
 | nil=>exact⟨u,rfl,.inl rfl,mx _,λ_ h=>by cases h⟩
 | cons v l ih =>
  have i:=k v O';have j:∀ x∈l,Ao x.b:=λx hx=>k x (I' _ hx);rw[BQ];split
  .rename_i h1
   have a:=(EV f i).1 h1;obtain⟨x,e,hx,c,d⟩:=ih v j i;refine⟨x,e,?_,by omega,?_⟩
   .rcases hx with rfl|hx
    .exact .inr O'
    .exact .inr (I' _ hx)
   .intro y hy;rcases mG.1 hy with rfl|hy
    .exact c
    .exact d y hy
  .rename_i h1
   have a:¬ u.b.key<v.b.key:=λg=>h1 ((EV f i).2 g);obtain⟨x,e,hx,c,d⟩:=ih u j f;refine⟨x,e,?_,c,?_⟩
   .rcases hx with rfl|hx
    .exact .inl rfl
    .exact .inr (I' _ hx)
   .intro y hy;rcases mG.1 hy with rfl|hy
    .omega
    .exact d y hy
theorem R5(l:List Vt)(a:∀ v∈l,Ao v.b):(l=[]/\BQ l none=none)\/∃ x,BQ l none=some x/\x∈l/\∀ v∈l,v.b.key<=x.b.key:=by
 cases l with
 | nil=>exact .inl ⟨rfl,rfl⟩
 | cons v l =>
  right;obtain⟨x,e,hx,c,d⟩:=R7 l v (λx hx=>a x (I' _ hx)) (a v O');refine⟨x,e,?_,?_⟩
  .rcases hx with rfl|hx
   .exact O'
   .exact I' _ hx
  .intro y hy;rcases mG.1 hy with rfl|hy
   .exact c
   .exact d y hy
def Ae(l:List Vt)(s:Int):List Vt:=l.filter λv=>decide (v.bu=s)
theorem Be{s:Int}:v∈Ae l s↔v∈l/\v.bu=s:=by simp[Ae]
def Ce(ls:List (List Vt))(s:Int):Int:=if ¬ (0<=s/\s<=39)then 2 else if ∀ l∈ls,∀ v∈l,Ah v then 0 else 5
def FY(ls:List (List Vt))(s:Int):Option Vt:=BQ (Ae ls.flatten s) none
def BJ(l:List Vt)(v:Vt):Nat:=l.countP λu=>decide (u=v)
def Ha(l:List Vt)(m:Nat):Option Vt:=l.find? λv=>decide (m<2*BJ l v)
end
end
section
open Go.RowKit
section
def vtC(v:Vt):List Value:=[.int .i64 v.bu,.int .i64 v.b.r,.int .i64 v.b.n,.int .i64 v.w.k,.int .i64 v.w.c,.int .i64 v.w.s,.int .i64 v.w.n,.int .i64 v.w.v]
def vtA(v:Vt):Array Value:=(vtC v).toArray
theorem CA(v:Vt):(vtC v).length=8:=rfl
theorem fi(v:Vt):∀ u∈vtC v,u.oneCell'=true:=by
 intro u a;simp only[vtC,mG,Q',or_false]at a;rcases a with rfl|rfl|rfl|rfl|rfl|rfl|rfl|rfl<;>rfl
def vtL(l:List Vt):List Value:=l.flatMap vtC
theorem Mz(v:Vt)(l:List Vt):vtL (v::l)=vtC v++vtL l:=rfl
theorem TH(l m:List Vt):vtL (l++m)=vtL l++vtL m:=by simp[vtL]
theorem Da(l:List Vt):(vtL l).length=l.length*8:=by
 induction l with
 | nil=>rfl
 | cons v l ih=>rw[Mz,H',ih,CA,mY];omega
theorem US(l:List Vt):∀ u∈vtL l,u.oneCell'=true:=by
 intro u a;obtain⟨v,_,b⟩:=pg.1 a;exact fi v u b
theorem fm(l:List Vt)(i:Nat)(v:Vt)(h:l[i]?=some v)(j:Nat)(u:Value)(a:(vtC v)[j]?=some u):(vtL l)[8*i+j]?=some u:=by
 induction l generalizing i with
 | nil=>simp at h
 | cons x l ih =>
  have b:j<8:=by have:=(V'.1 a).1;rwa [CA]at this
  rw[Mz];cases i with
  | zero =>
   simp at h;subst h;rw[mK (by rw[CA];omega)];simpa using a
  | succ i =>
   rw[mM (by rw[CA];omega),CA,show 8*(i+1)+j-8=8*i+j by omega];exact ih i (by simpa using h)
theorem bk(l:List Vt)(m:Nat)(u:Value)(h:(vtL l)[m]?=some u):∃ v,l[m/8]?=some v/\(vtC v)[m%8]?=some u:=by
 induction l generalizing m with
 | nil=>simp[vtL]at h
 | cons x l ih =>
  rw[Mz]at h
  rcases nt m 8 with hm|hm
  .rw[mK (by rw[CA];omega)]at h
   exact⟨x,by rw[Nat.div_eq_of_lt hm];rfl,by rwa [pT hm]⟩
  .rw[mM (by rw[CA];omega),CA]at h
   obtain⟨v,a,b⟩:=ih (m-8) h;refine⟨v,?_,?_⟩
   .rw[show m/8=(m-8)/8+1 by omega];simpa using a
   .rw[show m%8=(m-8)%8 by omega];exact b
structure Sv(w:World)(x:Value)(l:List Vt):Prop where
 ex:∃ a cap,x=.slice a l.length cap/\l.length<=cap/\(a=none->cap=0)/\(l=[]\/∃ b off,a=some ⟨b,off,none⟩/\b<w.heap.size/\∀ i v,l[i]?=some v->w.rangeAt b (off+8*i) (vtC v))
 len:l.length<=2199023255488
variable{B base e n:Nat}{P:Program}{Q:Exit->Act->World->Prop}{a:Act}{l:List Vt}{ops:Array Oper}{w w':World}{x:Value}
theorem Sv.af(h:Sv w x l)(e:Bw w w'):Sv w' x l:=by
 obtain⟨⟨a,c,rfl,g,n,d⟩,f⟩:=h;refine⟨⟨a,c,rfl,g,n,?_⟩,f⟩;rcases d with d|⟨b,off,ha,hbs,hcell⟩
 .exact .inl d
 .exact .inr ⟨b,off,ha,Z' hbs e.size,λi v k j u m=>(e.cell (p:=⟨b,off+8*i+j,none⟩) hbs).trans (hcell i v k j u m)⟩
theorem Sv.nil(w:World):Sv w (.slice none 0 0) []:=⟨⟨none,0,rfl,by simp,by simp,.inl rfl⟩,by simp⟩
theorem Sv.shape(h:Sv w x l):∃ a cap,x=.slice a l.length cap:=by
 obtain⟨⟨a,cap,e,_⟩,_⟩:=h;exact⟨a,cap,e⟩
theorem Sv.spot{a:Option Addr}{c:Nat}(h:Sv w (.slice a n c) l)(i:Nat)(v:Vt)(f:l[i]?=some v):∃ b off,a=some ⟨b,off,none⟩/\b<w.heap.size/\w.rangeAt b (off+8*i) (vtC v):=by
 obtain⟨⟨j,d,e,k,m,g⟩,_⟩:=h;simp only[Value.slice.injEq]at e;obtain⟨rfl,rfl,rfl⟩:=e;rcases g with rfl|⟨b,off,rfl,hb,hcell⟩
 .simp at f
 .exact⟨b,off,rfl,hb,hcell i v f⟩
theorem Sv.nn(h:w.ownsRow base e 8 x l.length (vtL l))(f:l.length<=2199023255488):Sv w x l:=by
 refine⟨?_,f⟩;rcases h.2 with⟨rfl,h0⟩|⟨g,cap,cur,rfl,_,hg,hn,_,hcs,ht⟩
 .exact⟨none,0,by rw[h0],by omega,λ_=>rfl,.inl (j' h0)⟩
 .refine⟨_,cap,rfl,hn,by simp,.inr ⟨g,0,rfl,(U'.1 hg).1,λi v c j u d=>?_⟩⟩;have b:=h.cells (g:=g) rfl (8*i+j) u (fm l i v c j u d);have a:(⟨g,0,none⟩:Addr).add (8*i+j)=⟨g,8*i+j,none⟩:=by unfold Addr.add;split<;>simp_all
  rw[a]at b
  rw[na];exact b
theorem Nh(w:World)(c t s e:Nat)(z:Value)(C:P.underlying t=some (.slice e))(h:(P.info? e).map (λi=>(i.zero,i.size,i.bytes))=some (some z,8,64))(r:z.cells.size=8)(x:Value)(l:List Vt)(d:w.ownsRow c e 8 x l.length (vtL l))(u:Value)(m:List Vt)(M:Sv w u m)(B:l.length+m.length<=2199023255552)(g:c<=w.heap.size) :
  ∃ v' w',(Builtin.append_ #[t,t] s #[x,u]).run P w=.ok v' w'/\w'.ownsRow c e 8 v' (l++m).length (vtL (l++m))/\w.grownBy w' x.ownBlock:=by
 obtain⟨i,y,N,q,o⟩:=info_parts h;obtain⟨⟨a,n,rfl,O,J,D⟩,_⟩:=M;cases a with
 | none =>
  have p:=J rfl;subst p;have I:m=[]:=j' (by omega);subst I;refine⟨x,w,?_,by simpa using d,⟨rfl,rfl,rfl,A' _,λ_ _ _=>rfl⟩⟩;exact run_append_owned_none (P:=P) (w:=w) c t s e i 8 C y x l.length _ d
 | some ad =>
  have f:∀ j u,(vtL m)[j]?=some u->w.cell? (ad.add j)=some u:=by
   intro j u A;rcases D with rfl|⟨b,off,hab,_,hcell⟩
   .simp[vtL]at A
   .obtain rfl:ad=⟨b,off,none⟩:=by simpa using hab
    obtain⟨v,E,F⟩:=bk m j u A;have k:(⟨b,off,none⟩:Addr).add j=⟨b,off+j,none⟩:=by unfold Addr.add;split<;>simp_all
    rw[k];have G:=hcell (j/8) v E (j%8) u F
    rwa [show off+8*(j/8)+j%8=off+j by omega]at G
  obtain⟨v',w',L,K,H,_⟩:=run_append_own (P:=P) w c t s e i z 8 64 C y N q o r (by decide) x l.length _ d ad m.length n (vtL m) (Da m) f (US m)
   (by unfold maxLen;omega) (by omega) g
  exact⟨v',w',L,by rw[TH,H'];exact K,H⟩
theorem B3(w:World){n:Array Oper}{c:List Oper}{o:Oper}{a:Act}{Q:Exit->Act->World->Prop}(p:o.guard=none)(s x:Operand)(t:TypeId)(y:o.op=.call { callee:=.builtin .append,args:=#[s,x],argTypes:=#[t,t] })(b e:Nat)(z:Value)(B:P.underlying t=some (.slice e))(f:(P.info? e).map (λi=>(i.zero,i.size,i.bytes))=some (some z,8,64))(q:z.cells.size=8)(v u:Value)(A:a.eval s=v)(D:a.eval x=u)(l m:List Vt)(j:w.ownsRow b e 8 v l.length (vtL l))(C:Sv w u m)(g:l.length+m.length<=2199023255552)(d:b<=w.heap.size)(h:∀ v' w',w'.ownsRow b e 8 v' (l++m).length (vtL (l++m))->w.grownBy w' v.ownBlock->wpList P n Q c (a.put o.dst v') w'):wpList P n Q (o::c) a w:=by
 refine wpList_plain p λK r=>?_;obtain⟨v',w',k,E,F⟩:=Nh (P:=P) w b t o.type e z B f q v l j u m C g d;unfold Oper.wp execOp;simp only[y,resolve,invoke,builtin,Sem.run_bind,Sem.run_pure,Result.andThen_ok,pf,m9,nQ,A,D,k];exact r _ _ (h v' w' E F)
theorem Sv.one(w:World)(v:Vt)(e:TypeId){g:Nat}(b:g=w.heap.size):Sv (w.alloc (.cells (vtA v) e)) (.slice (some ⟨g,0,none⟩) 1 1) [v]:=by
 subst b;refine⟨⟨_,1,rfl,A' _,by simp,.inr ⟨w.heap.size,0,rfl,by simp,λi u a j x c=>?_⟩⟩,by simp⟩;cases i with
 | zero =>
  simp at a;subst a;rw[cell_of_row _ _ (0+8*0+j) _ _ _ (heap_alloc_new w (.cells (vtA v) e))];simpa[vtA]using c
 | succ i=>simp at a
def zVt:Value:=.agg zV8
theorem EU:(prog.info? 156).map (λi=>(i.zero,i.size,i.bytes))=some (some zVt,8,64):=by kernel_rfl
theorem ZY(v:Vt):(prog.info? 156).map (·.size)=some (vtC v).length:=by show _=some 8;kernel_rfl
theorem RW:prog.elem 97=156:=by kernel_rfl
theorem Tz(w:World):(Go.sizeOf 156).run prog w=.ok 8 w:=by
 obtain⟨i,b,_,a,_⟩:=info_parts EU;simp[sizeOf,typeInfo,b,a]
theorem Jt(b o n c:Nat)(i:Nat)(a:i<n)(w:World):(Instr.indexAt 97 (.slice (some ⟨b,o,none⟩) n c) (.int .i64 (i:Int))).run prog w=.ok (.pointer (some ⟨b,o+8*i,none⟩)) w:=by
 rw[run_indexAt_slice (P:=prog) w 97 _ n c .i64 _ underlying97,if_pos ⟨by omega,by omega⟩,RW,Tz];simp[Result.andThen,Addr.add_mid,Nat.mul_comm]
theorem CW{l:List Oper}(h:wpList P ops Q l a w):wpList P ops Q l a w:=h
theorem FT(l:List Vt)(k:Nat)(v:Vt)(h:l[k]?=some v):l.take (k+1)=l.take k++[v]:=by
 obtain⟨a,e⟩:=V'.1 h;rw[mN a,e]
def acA(p:Bal)(x:Value):Array Value:=#[.int .i64 p.r,.int .i64 p.n,x]
theorem Xq:(prog.info? 96).map (·.size)=some 2:=by kernel_rfl
theorem Td(h:Below B w w'){b o:Nat}{a:List Value}(c:b<B)(d:w.rangeAt b o a):w'.rangeAt b o a :=
 λj v e=>(h.cell (p:=⟨b,o+j,none⟩) c).trans (d j v e)
theorem EF{a:World}(h:Below B a w){g:Nat}(c:B<=g)(b:Array Value):Below B a (w.setRow g b) :=
 h.trans ⟨rfl,rfl,rfl,by simp,λk d=>setRow_other w g k b (by omega)⟩
theorem fA{S:World->Prop}{op:Oper}(e:Region.wanted op (yielded ops a.tmps)=true)(x:Operand)(d:op.op=.load 156 x)(g:Nat)(f:a.eval x=.pointer (some ⟨g,0,none⟩))(v:Vt)(c:∀ w,S w->w.heap[g]?=some (.cells (vtA v) 156)):YieldsIf prog ops S op (.agg (vtA v)) a :=
 .inl ⟨e,λw b=>by
  unfold execOp;simp only[d,f,Instr.loadAt,Instr.sureAddr,Sem.run_bind,Sem.run_pure,Result.andThen_ok,run_loadVar_row w g 156 156 _ (0,0) _ (c w b) underlying156 rfl (show _=some (vtA v).size from ZY v)]⟩
theorem kq{P:Program}{f:Func}{p u v:Tmp}{c:TypeId}(h:f.results=#[.cell p c,.tmp u,.tmp v])(a:Array Value)(w:World)(g:Nat)(t:TypeId)(b:Array Value)(i:Nat × Nat)(d:TypeDesc)(m:a.getD p undef=.pointer (some ⟨g,0,none⟩))(k:w.heap[g]?=some (.cells b t i))(n:P.underlying c=some d)(j:(match d with|.struct _|.array _ _=>true|_=>false)=true)(l:(P.info? c).map (·.size)=some b.size) :
  (results f a).run P w=.ok (.tuple #[.agg b,a.getD u undef,a.getD v undef]) w:=by
 have e:a[p]?.getD undef=.pointer (some ⟨g,0,none⟩):=by simpa using m
 simp[results,h,e,asAddr,run_loadVar_row w g t c b i d k n j l]
theorem SZ{a:Nat}{v:Value}{b:List Value}(h:w.ownsRow base e a v n b)(c:∀ k,v.ownBlock=some k->w'.heap[k]?=w.heap[k]?):w'.ownsRow base e a v n b:=by
 refine⟨h.1,?_⟩;rcases h.2 with h2|⟨g,cap,cur,hv,hb,hg,hr⟩
 .exact .inl h2
 .exact .inr ⟨g,cap,cur,hv,hb,(c g (by rw[hv];rfl)).trans hg,hr⟩
theorem jw(v:Vt):(prog.info? 156).map (·.size)=some (vtA v).size:=by show _=some 8;kernel_rfl
theorem fM{P:Program}{f:Func}{p u:Tmp}{c:TypeId}(h:f.results=#[.cell p c,.tmp u])(a:Array Value)(w:World)(g:Nat)(t:TypeId)(b:Array Value)(i:Nat × Nat)(d:TypeDesc)(m:a.getD p undef=.pointer (some ⟨g,0,none⟩))(k:w.heap[g]?=some (.cells b t i))(n:P.underlying c=some d)(j:(match d with|.struct _|.array _ _=>true|_=>false)=true)(l:(P.info? c).map (·.size)=some b.size) :
  (results f a).run P w=.ok (.tuple #[.agg b,a.getD u undef]) w:=by
 have e:a[p]?.getD undef=.pointer (some ⟨g,0,none⟩):=by simpa using m
 simp[results,h,e,asAddr,run_loadVar_row w g t c b i d k n j l]
def cmC(c:Cmd):Array Value:=cmA c.k c.c c.s c.n c.v
theorem cD(a b c d:Int):∀ w,(binOp .eql 96 (.agg #[.int .i64 a,.int .i64 b]) (.agg #[.int .i64 c,.int .i64 d])).run prog w=.ok (.bool (decide (a=c/\b=d))) w:=by
 intro w;rw[run_eql_struct,run_equalIn_agg w 9999 _ _ _ (by kernel_rfl) (by kernel_rfl)];unfold Program.fieldsOf;rw[underlying96];have e:=underlying3;simp[Op.eqFields,go_sem,e]
 repeat' split
 all_goals simp_all
theorem Ya(a b c d e f g h i j k l m n o p:Int):∀ w,(binOp .eql 156 (.agg #[.int .i64 a,.int .i64 b,.int .i64 c,.int .i64 d,.int .i64 e,.int .i64 f,.int .i64 g,.int .i64 h]) (.agg #[.int .i64 i,.int .i64 j,.int .i64 k,.int .i64 l,.int .i64 m,.int .i64 n,.int .i64 o,.int .i64 p])).run prog w=.ok (.bool (decide (a=i/\b=j/\c=k/\d=l/\e=m/\f=n/\g=o/\h=p))) w:=by
 intro w;rw[run_eql_struct,run_equalIn_agg w 9999 _ _ _ (by kernel_rfl) (by kernel_rfl)];unfold Program.fieldsOf;rw[underlying156];have q:=underlying3;have r:=underlying96;have s:=underlying51;simp[Op.eqFields,go_sem,q,r,s]
 repeat' split
 all_goals simp_all
end
end
section
section
def MQ(l:List Vt)(v:Vt):Nat->List Vt
 | 0=>[]
 | k+1=>MQ l v k++(if(k:Int)=v.bu then[v]else Ae l k)
variable{a b l:List Vt}{v:Vt}
theorem QO(c:BL a)(d:BL b)(h:∀ x∈a,∀ y∈b,x.bu<y.bu):BL (a++b):=by
 induction a with
 | nil=>exact d
 | cons x xs ih =>
  refine⟨λu hu=>?_,ih c.2 (λy e=>h y (I' _ e))⟩;rcases P'.1 hu with hu|hu
  .exact c.1 u hu
  .exact h x O' u hu
theorem JY(h:BL l)(q:Vt->Bool):BL (l.filter q):=by
 induction l with
 | nil=>trivial
 | cons x xs ih =>
  rw[List.filter_cons];split
  .exact⟨λu a=>h.1 u (pC.1 a).1,ih h.2⟩
  .exact ih h.2
theorem ZE(c:BL a)(d:BL b)(h:∀ u,u∈a↔u∈b):a=b:=by
 induction a generalizing b with
 | nil =>
  cases b with
  | nil=>rfl
  | cons y ys=>exact absurd ((h y).2 O') (Q')
 | cons x xs ih =>
  cases b with
  | nil=>exact absurd ((h x).1 O') (Q')
  | cons y ys =>
   have f:x=y:=by
    rcases mG.1 ((h x).1 O')with e|e
    .exact e
    .rcases mG.1 ((h y).2 O')with e'|e'
     .exact e'.symm
     .have:=c.1 y e';have:=d.1 x e;omega
   subst f;rw[ih c.2 d.2 (λu=>?_)];constructor
   .intro hu;rcases mG.1 ((h u).1 (I' _ hu))with rfl|e
    .have:=c.1 u hu;omega
    .exact e
   .intro hu;rcases mG.1 ((h u).2 (I' _ hu))with rfl|e
    .have:=d.1 u hu;omega
    .exact e
theorem Qg(k:Nat)(u:Vt):u∈MQ l v k↔(0<=u.bu/\u.bu<k)/\(u=v\/(u∈l/\u.bu≠v.bu)):=by
 induction k with
 | zero=>simp[MQ];omega
 | succ k ih =>
  rw[MQ,P',ih];by_cases a:(k:Int)=v.bu
  .rw[if_pos a,D'];constructor
   .rintro(⟨h1,h2⟩|rfl)
    .exact⟨by omega,h2⟩
    .exact⟨by omega,.inl rfl⟩
   .rintro⟨h1,rfl|⟨h2,h3⟩⟩
    .exact .inr rfl
    .exact .inl ⟨by omega,.inr ⟨h2,h3⟩⟩
  .rw[if_neg a,Be];constructor
   .rintro(⟨h1,h2⟩|⟨h1,h2⟩)
    .exact⟨by omega,h2⟩
    .exact⟨by omega,.inr ⟨h1,by omega⟩⟩
   .rintro⟨h1,rfl|⟨h2,h3⟩⟩
    .exact .inl ⟨by omega,.inl rfl⟩
    .by_cases h4:u.bu=k
     .exact .inr ⟨h2,h4⟩
     .exact .inl ⟨by omega,.inr ⟨h2,h3⟩⟩
theorem Jp(h:BL l)(s:Int):(Ae l s).length<=1:=by
 match e:Ae l s with
 | []=>simp
 | [_]=>simp
 | x::y::r =>
  have a:BL (Ae l s):=JY h _;have b:=(Be.1 (show x∈Ae l s by rw[e];simp)).2;have c:=(Be.1 (show y∈Ae l s by rw[e];simp)).2;rw[e]at a
  have:=a.1 y O';omega
theorem Yo(v:Vt)(h:BL l)(k:Nat):(MQ l v k).length<=k:=by
 induction k with
 | zero=>simp[MQ]
 | succ k ih =>
  rw[MQ,H'];have:=Jp h k;split
  .simp;omega
  .omega
theorem V1(v:Vt)(h:BL l)(k:Nat):BL (MQ l v k):=by
 induction k with
 | zero=>trivial
 | succ k ih =>
  rw[MQ];refine QO ih ?_ ?_
  .split
   .exact⟨λu a=>(Q' a).elim,trivial⟩
   .exact JY h _
  .intro x hx y hy;have b:=((Qg k x).1 hx).1;split at hy
   .obtain rfl:y=v:=by simpa using hy
    omega
   .have:=(Be.1 hy).2;omega
theorem cT(k:Nat)(h:BL l)(b:∀ u∈l,0<=u.bu/\u.bu<k)(c:0<=v.bu/\v.bu<k):MQ l v k=Bn l v:=by
 refine ZE (V1 v h k) (Ji v h) λu=>?_;rw[Qg,BB h];constructor
 .exact λa=>a.2
 .rintro(rfl|⟨h1,h2⟩)
  .exact⟨c,.inl rfl⟩
  .exact⟨b u h1,.inr ⟨h1,h2⟩⟩
theorem JO(l:List Vt)(u:Vt)(s:Int):Ae (l++[u]) s=Ae l s++(if u.bu=s then[u]else[]):=by
 unfold Ae;rw[oc];by_cases h:u.bu=s<;>simp[h]
theorem WJ(a:List (List Vt))(j:Nat)(l:List Vt)(h:a[j]?=some l):(a.take (j+1)).flatten=(a.take j).flatten++l:=by
 obtain⟨b,e⟩:=V'.1 h;rw[mN b,e];simp
theorem DG(a b:List Vt)(s:Int):Ae (a++b) s=Ae a s++Ae b s:=by unfold Ae;rw[oc]
end
end
section
open Go.RowKit
section
structure Sac(w:World)(x:Value)(ac:List Acc):Prop where
 ex:∃ a cap,x=.slice a ac.length cap/\(ac=[]\/∃ b off,a=some ⟨b,off,none⟩/\b<w.heap.size/\∀ (i:Nat) (A:Acc),ac[i]?=some A->∃ y,w.rangeAt b (off+3*i) [.int .i64 A.p.r,.int .i64 A.p.n,y]/\Sv w y A.vs)
 len:ac.length<=3518437208780
variable{ac:List Acc}{s:Int}{w:World}{x:Value}
theorem Sac.af{f:World}(h:Sac w x ac)(e:Bw w f):Sac f x ac:=by
 obtain⟨⟨a,c,rfl,d⟩,g⟩:=h;refine⟨⟨a,c,rfl,?_⟩,g⟩;rcases d with d|⟨b,off,ha,hbs,hc⟩
 .exact .inl d
 .refine .inr ⟨b,off,ha,Z' hbs e.size,λi A l=>?_⟩;obtain⟨y,j,k⟩:=hc i A l;exact⟨y,Td e hbs j,k.af e⟩
theorem Sac.shape(h:Sac w x ac):∃ a cap,x=.slice a ac.length cap:=by
 obtain⟨⟨a,cap,e,_⟩,_⟩:=h;exact⟨a,cap,e⟩
theorem Sac.spot{a:Option Addr}{n c:Nat}(h:Sac w (.slice a n c) ac)(i:Nat)(A:Acc)(f:ac[i]?=some A):∃ b off y,a=some ⟨b,off,none⟩/\b<w.heap.size/\w.rangeAt b (off+3*i) [.int .i64 A.p.r,.int .i64 A.p.n,y]/\Sv w y A.vs:=by
 obtain⟨⟨j,d,e,g⟩,_⟩:=h;simp only[Value.slice.injEq]at e;obtain⟨rfl,rfl,rfl⟩:=e;rcases g with rfl|⟨b,off,rfl,hb,hc⟩
 .simp at f
 .obtain⟨y,h3,h4⟩:=hc i A f;exact⟨b,off,y,rfl,hb,h3,h4⟩
theorem gW:prog.elem 220=99:=by kernel_rfl
theorem jd(w:World):(Go.sizeOf 99).run prog w=.ok 3 w:=by
 have h:(prog.info? 99).map (·.size)=some 3:=by kernel_rfl
 cases hi:prog.info? 99 with
 | none=>rw[hi]at h;cases h
 | some i =>
  rw[hi]at h
  simp at h;simp[sizeOf,typeInfo,hi,h]
theorem Ws(b o n c:Nat)(i:Nat)(a:i<n)(w:World):(Instr.indexAt 220 (.slice (some ⟨b,o,none⟩) n c) (.int .i64 (i:Int))).run prog w=.ok (.pointer (some ⟨b,o+3*i,none⟩)) w:=by
 rw[run_indexAt_slice (P:=prog) w 220 _ n c .i64 _ underlying220,if_pos ⟨by omega,by omega⟩,gW,jd];simp[Result.andThen,Addr.add_mid,Nat.mul_comm]
def Dz(ac:List Acc)(s:Int):List Vt:=Ae (ac.map (·.vs)).flatten s
def CU(ac:List Acc)(s:Int):Int:=if ¬ ((0<=s/\s<=39)/\(1<=(ac.length:Int)/\(ac.length:Int)<=5))then 2 else if ¬ ∀ a∈ac,Ag a then 5 else if(Ha (Dz ac s) ac.length).isSome then 0 else 9
def CN(ac:List Acc)(s:Int):Cmd:=if CU ac s=0 then((Ha (Dz ac s) ac.length).map (·.w)).getD ⟨0,0,0,0,0⟩else⟨0,0,0,0,0⟩
theorem D3(h:¬ ((0<=s/\s<=39)/\(1<=(ac.length:Int)/\(ac.length:Int)<=5))):CN ac s=⟨0,0,0,0,0⟩/\CU ac s=2:=by
 have e:CU ac s=2:=if_pos h;exact⟨if_neg (by rw[e];decide),e⟩
theorem Vi(h:(0<=s/\s<=39)/\(1<=(ac.length:Int)/\(ac.length:Int)<=5))(b:¬ ∀ a∈ac,Ag a):CN ac s=⟨0,0,0,0,0⟩/\CU ac s=5:=by
 have e:CU ac s=5:=by unfold CU;rw[if_neg (λg=>g h),if_pos b]
 exact⟨if_neg (by rw[e];decide),e⟩
theorem X8(h:(0<=s/\s<=39)/\(1<=(ac.length:Int)/\(ac.length:Int)<=5))(b:∀ a∈ac,Ag a)(c:Ha (Dz ac s) ac.length=none):CN ac s=⟨0,0,0,0,0⟩/\CU ac s=9:=by
 have e:CU ac s=9:=by unfold CU;rw[if_neg (λg=>g h),if_neg (λg=>g b),c];rfl
 exact⟨if_neg (by rw[e];decide),e⟩
theorem X9(h:(0<=s/\s<=39)/\(1<=(ac.length:Int)/\(ac.length:Int)<=5))(c:∀ a∈ac,Ag a){x:Vt}(b:Ha (Dz ac s) ac.length=some x):CN ac s=x.w/\CU ac s=0:=by
 have e:CU ac s=0:=by unfold CU;rw[if_neg (λg=>g h),if_neg (λg=>g c),b];rfl
 exact⟨by unfold CN;rw[if_pos e,b];rfl,e⟩
theorem gJ{c:List Acc}(h:∀ a∈c,Ag a)(s:Int):(Ae (c.map (·.vs)).flatten s).length<=c.length:=by
 induction c with
 | nil=>simp[Ae]
 | cons a c ih =>
  have e:=Jp (h a O').2.2 s;have f:=ih (λb d=>h b (I' _ d));simp only[m9,List.flatten_cons,mY];rw[DG,H'];omega
theorem T9(ac:List Acc)(j:Nat)(a:Acc)(h:ac[j]?=some a):((ac.take (j+1)).map (·.vs)).flatten=((ac.take j).map (·.vs)).flatten++a.vs:=by
 obtain⟨b,e⟩:=V'.1 h;rw[mN b,e];simp
end
end
section
end
section
open Go.RowKit
section
def baA(b:Bal):Array Value:=#[.int .i64 b.r,.int .i64 b.n]
theorem Og(l:List Vt)(v:Vt):BL (l++[v])↔BL l/\∀ u∈l,u.bu<v.bu:=by
 induction l with
 | nil=>exact⟨λ_=>⟨trivial,λu hu=>(Q' hu).elim⟩,λ_=>⟨λu hu=>(Q' hu).elim,trivial⟩⟩
 | cons x xs ih =>
  show((∀ u∈xs++[v],x.bu<u.bu)/\BL (xs++[v]))↔((∀ u∈xs,x.bu<u.bu)/\BL xs)/\∀ u∈x::xs,u.bu<v.bu;rw[ih];constructor
  .rintro⟨h1,h2,h3⟩;refine⟨⟨λu hu=>h1 u (mD _ hu),h2⟩,λu hu=>?_⟩;rcases mG.1 hu with rfl|hu
   .exact h1 v (mB _ O')
   .exact h3 u hu
  .rintro⟨⟨h1,h2⟩,h3⟩;refine⟨λu hu=>?_,h2,λu hu=>h3 u (I' _ hu)⟩;rcases P'.1 hu with hu|hu
   .exact h1 u hu
   .obtain rfl:u=v:=by simpa using hu
    exact h3 x O'
def Fk(a:Acc)(b:Bal):Bal:=if Cf a b=0 then b else⟨0,0⟩
def DP(a:Acc)(b:Bal):List Vt:=if Cf a b=0 then a.vs else[]
def BG(a:Acc)(v:Vt):Bal:=if AY a v=0 then v.b else⟨0,0⟩
def Br(a:Acc)(v:Vt):List Vt:=if AY a v=0 then Bn a.vs v else[]
def Hm(ls:List (List Vt))(s:Int):Cmd:=if Ce ls s=0 then((FY ls s).map (·.w)).getD ⟨0,0,0,0,0⟩else⟨0,0,0,0,0⟩
def DX(ls:List (List Vt))(s:Int):Bool:=if Ce ls s=0 then(FY ls s).isSome else false
variable{l:List Vt}{ls:List (List Vt)}{s:Int}
theorem LI(h:¬ (0<=s/\s<=39)):Hm ls s=⟨0,0,0,0,0⟩/\DX ls s=false/\Ce ls s=2:=by
 have e:Ce ls s=2:=if_pos h;exact⟨if_neg (by rw[e];decide),if_neg (by rw[e];decide),e⟩
theorem Tk(h:0<=s/\s<=39)(a:¬ ∀ l∈ls,∀ v∈l,Ah v):Hm ls s=⟨0,0,0,0,0⟩/\DX ls s=false/\Ce ls s=5:=by
 have e:Ce ls s=5:=by unfold Ce;rw[if_neg (λg=>g h),if_neg a]
 exact⟨if_neg (by rw[e];decide),if_neg (by rw[e];decide),e⟩
theorem aL{j:Nat}(h:ls[j]?=some l)(b:∀ l∈ls.take j,∀ v∈l,Ah v)(c:∀ v∈l,Ah v):∀ l∈ls.take (j+1),∀ v∈l,Ah v:=by
 obtain⟨d,e⟩:=V'.1 h;rw[mN d,e];intro l' a;rcases P'.1 a with g|g
 .exact b l' g
 .obtain rfl:l'=l:=by simpa using g
  exact c
theorem aM{k:Nat}{u:Vt}(h:l[k]?=some u)(a:∀ v∈l.take k,Ah v)(b:Ah u):∀ v∈l.take (k+1),Ah v:=by
 rw[FT l k u h];intro v c;rcases P'.1 c with g|g
 .exact a v g
 .obtain rfl:v=u:=by simpa using g
  exact b
def AR(d:List Int)(s:Int):Prop:=d.length<=100000/\0<=s/\s<=(d.length:Int)
instance (d:List Int) (s:Int):Decidable (AR d s):=by unfold AR;exact inferInstance
def CX(d:List Int)(s:Int):Int:=if AR d s then 0 else 5
def Hf(d:List Int)(s:Int):List Int:=if AR d s then d else[]
def If(d:List Int)(s:Int):Int:=if AR d s then(d.length:Int)else 0
def Gl(d:List Int)(s k:Int):Int:=if k<(d.length:Int)-s then s+k else(d.length:Int)
def Gk(d:List Int)(s k:Int):Int:=if ¬ AR d s then 5 else if k<0 then 2 else 0
def Ki(d:List Int)(s k:Int):List Int:=if Gk d s k=0 then d.take (Gl d s k).toNat else[]
def Kj(d:List Int)(s k:Int):Int:=if Gk d s k=0 then Gl d s k else 0
def tpA(x:Value)(s:Int):Array Value:=#[x,.int .i64 s]
theorem Mt:(prog.info? 109).map (·.size)=some 2:=by kernel_rfl
theorem aV(x:Option Addr)(n c:Nat)(s:Int):(#[.slice x n c,.int .i64 s]:Array Value).all (·.oneCell')=true:=by simp[Value.oneCell']
end
end
section
section
def DW(b:List Int):List Int:=(b.length:Int)::b
def AM(b:List Int):List Int:=DW b++(dig (DW b)).take 4
theorem CD(b:List Int):(DW b).length=b.length+1:=rfl
theorem Bg(b:List Int):(AM b).length=b.length+5:=by
 unfold AM;rw[H',CD,X',As];omega
def Bu(b:Bal):List Int:=1::(Ab b.r++Ab b.n)
def Bj(v:Vt):List Int:=2::(Ab v.bu++(Ab v.b.r++(Ab v.b.n++Dm v.w.k v.w.c v.w.s v.w.n v.w.v)))
theorem JR(b:Bal):(Bu b).length=9:=rfl
theorem GD(v:Vt):(Bj v).length=33:=rfl
theorem We(b:Bal):∀ x∈Bu b,0<=x/\x<256:=by
 intro x hx;rcases mG.1 hx with rfl|hx
 .omega
 .rcases P'.1 hx with hx|hx
  .exact Av _ x hx
  .exact Av _ x hx
theorem WU(v:Vt):∀ x∈Bj v,0<=x/\x<256:=by
 intro x hx;rcases mG.1 hx with rfl|hx
 .omega
 .rcases P'.1 hx with hx|hx
  .exact Av _ x hx
  .rcases P'.1 hx with hx|hx
   .exact Av _ x hx
   .rcases P'.1 hx with hx|hx
    .exact Av _ x hx
    .exact GN _ _ _ _ _ x hx
variable{N k m n:Nat}{a b c:Acc}{all:List Acc}{bs:List (List Int)}{r:List Int}
theorem Lv{b:List Int}(a:∀ x∈b,0<=x/\x<256)(c:b.length<=255):∀ x∈DW b,0<=x/\x<256:=by
 intro x hx;rcases mG.1 hx with rfl|hx
 .omega
 .exact a x hx
theorem LS{b:List Int}(a:∀ x∈b,0<=x/\x<256)(c:b.length<=255):∀ x∈AM b,0<=x/\x<256:=by
 intro x hx;rcases P'.1 hx with hx|hx
 .exact Lv a c x hx
 .exact Dn _ x (mL hx)
def bZ(l:List Int):Cmd:=⟨Ad l 0,Ad l 4,Ad l 8,Ad l 12,Ad l 16⟩
def Gg(b:List Int):Bal:=⟨Ad b 1,Ad b 5⟩
def FV(b:List Int):Vt:=⟨Ad b 1,⟨Ad b 5,Ad b 9⟩,bZ (b.drop 13)⟩
def DK(a:Acc)(b:List Int):Option Acc :=
 if b.length=9/\b.getD 0 0=1 then(if Cf a (Gg b)=0 then some ⟨Gg b,a.vs⟩else none)
 else if b.length=33/\b.getD 0 0=2 then(if Cq (b.drop 13)=0 then(if AY a (FV b)=0 then some ⟨(FV b).b,Bn a.vs (FV b)⟩else none)else none)
 else none
def BY(r:List Int)(a:Acc):Option (Acc × Nat) :=
 if r=[]then none
 else if r.length<(r.getD 0 0).toNat+5 then none
 else if(dig (r.take ((r.getD 0 0).toNat+1))).take 4≠(r.drop ((r.getD 0 0).toNat+1)).take 4 then none
 else(DK a ((r.take ((r.getD 0 0).toNat+1)).drop 1)).map λx=>(x,(r.getD 0 0).toNat+5)
def a0:Acc:=⟨⟨0,0⟩,[]⟩
def JL(r:List Int)(p:Nat × Acc):Nat × Acc:=match BY (r.drop p.1) p.2 with
 | none=>p
 | some (c,m)=>(p.1+m,c)
def itR(r:List Int):Nat->Nat × Acc
 | 0=>(0,a0)
 | k+1=>JL r (itR r k)
def Ef(r:List Int):Nat × Acc:=itR r r.length
theorem Mf(h:BY r a=some (c,m)):5<=m/\m<=r.length:=by
 unfold BY at h;split at h
 .cases h
 .split at h
  .cases h
  .split at h
   .cases h
   .obtain⟨x,_,e⟩:=nS.1 h;injection e with e1 e2
    omega
theorem H6{p:Nat × Acc}(h:BY (r.drop p.1) p.2=none):JL r p=p:=by
 unfold JL;rw[h]
theorem FG(h:BY (r.drop n) b=some (c,m)):JL r (n,b)=(n+m,c):=by
 unfold JL;rw[show BY (r.drop (n,b).1) (n,b).2=some (c,m)from h]
theorem VB(h:itR r k=(n,b))(a:BY (r.drop n) b=none)(j:Nat):itR r (k+j)=(n,b):=by
 induction j with
 | zero=>exact h
 | succ j ih =>
  rw[<- nB,itR,ih];exact H6 a
theorem Pf(h:itR r k=(n,b))(c:k<=r.length)(a:BY (r.drop n) b=none):Ef r=(n,b):=by
 have:=VB h a (r.length-k);rw[show k+(r.length-k)=r.length by omega]at this
 exact this
theorem Y1(r:List Int)(k:Nat):(itR r k).1<=r.length:=by
 induction k with
 | zero=>exact mV _
 | succ k ih =>
  rw[itR];unfold JL;split
  .exact ih
  .rename_i c m h
   have:=(Mf h).2;rw[mF]at this
   show(itR r k).1+m<=r.length;omega
theorem Om{r':List Int}(h:BY r a=some (c,m))(b:r'.take m=r.take m):BY r' a=some (c,m):=by
 have s:=Mf h;have d:m<=r'.length:=by
  have e:=congrArg List.length b;rw[X',X']at e
  omega
 unfold BY at h;split at h
 .cases h
 rename_i p
 split at h
 .cases h
 rename_i q
 split at h
 .cases h
 rename_i f
 obtain⟨x,o,e⟩:=nS.1 h;injection e with e1 e2
 have i:r'.getD 0 0=r.getD 0 0:=by
  have e:=congrArg (λl=>l.getD 0 0) b;simp only[mU,nz]at e ⊢;rw[if_pos (by omega),if_pos (by omega)]at e
  exact e
 have n:∀ k,k<=m->r'.take k=r.take k:=λk j=>by
  have e:=congrArg (List.take k) b;rw[oV,oV,nH j]at e
  exact e
 have g:(r'.drop ((r.getD 0 0).toNat+1)).take 4=(r.drop ((r.getD 0 0).toNat+1)).take 4:=by
  have e:=congrArg (List.drop ((r.getD 0 0).toNat+1)) b;rw[pM,pM,show m-((r.getD 0 0).toNat+1)=4 by omega]at e
  exact e
 unfold BY;rw[i,if_neg (by rintro rfl;simp at d;omega),if_neg (by omega),n _ (by omega),g,if_neg f,o,nm,e1,e2]
theorem Gp(r:List Int){N n m:Nat}(h:n+m<=N):((r.take N).drop n).take m=(r.drop n).take m:=by
 rw[pM,oV,nH (by omega)]
theorem Y2(r:List Int)(k:Nat):(itR r k).1<=(itR r (k+1)).1:=by
 rw[itR];unfold JL;split
 .exact A' _
 .show(itR r k).1<=(itR r k).1+_;omega
theorem Y3(h:(itR r k).1<=N):itR (r.take N) k=itR r k:=by
 induction k with
 | zero=>rfl
 | succ k b =>
  have i:=Y2 r k;have b:=b (by omega);rw[itR,b];cases e:BY (r.drop (itR r k).1) (itR r k).2 with
  | none =>
   have a:BY ((r.take N).drop (itR r k).1) (itR r k).2=none:=by
    cases e3:BY ((r.take N).drop (itR r k).1) (itR r k).2 with
    | none=>rfl
    | some x =>
     obtain⟨c,m⟩:=x;have g:=(Mf e3).2;rw[mF,X']at g
     have:=Om (r':=r.drop (itR r k).1) e3 (Gp r (by omega)).symm;rw[e]at this
     cases this
   rw[H6 a,itR,H6 e]
  | some x =>
   obtain⟨c,m⟩:=x;have d:itR r (k+1)=((itR r k).1+m,c):=by rw[itR];exact FG e
   rw[d]at h ⊢
   have f:(itR r k).1+m<=N:=h;have a:=Om (r':=(r.take N).drop (itR r k).1) e (Gp r f);exact FG a
theorem U9(r:List Int):(Ef r).1<=r.length:=Y1 r r.length
theorem T3(b x:List Int)(a:Acc):BY (AM b++x) a=(DK a b).map λc=>(c,b.length+5):=by
 have d:=Bg b;have h:(AM b++x).getD 0 0=(b.length:Int):=rfl;have i:((b.length:Int)).toNat=b.length:=nk _;have j:(AM b++x).take (b.length+1)=DW b:=by
  unfold AM;rw[mA,m8 (by rw[CD];omega),mJ (by rw[CD];omega)]
 have f:((AM b++x).drop (b.length+1)).take 4=(dig (DW b)).take 4:=by
  unfold AM;rw[mA,pW (by rw[CD];omega),oW (by rw[CD];omega),nZ,
   m8 (by rw[X',As];omega),oV]
  rfl
 unfold BY;rw[h,i,if_neg (by intro e;have:=congrArg List.length e;rw[H',d]at this;simp at this),if_neg (by rw[H',d];omega),j,f,if_neg (λg=>g rfl)];rfl
theorem T4(b x:List Int)(a:Acc){k:Nat}(e:k<b.length+5):BY ((AM b++x).take k) a=none:=by
 have d:=Bg b;cases k with
 | zero=>rfl
 | succ k =>
  have c:((AM b++x).take (k+1)).getD 0 0=(b.length:Int):=rfl;unfold BY;rw[c,nk];split
  .rfl
  .rw[if_pos (by rw[X',H',d];omega)]
theorem XT(a:Acc){b:Bal}(g:Ac b):DK a (Bu b)=if Cf a b=0 then some ⟨b,a.vs⟩else none:=by
 have c:=g;unfold Ac at c;have d:Ad (Bu b) 1=b.r:=BI b.r (by omega) (by omega) [1] (Ab b.n);have f:Ad (Bu b) 5=b.n:=by
  have:=BI b.n (by omega) (by omega) (1::Ab b.r) [];rw[mT]at this
  exact this
 have e:Gg (Bu b)=b:=by unfold Gg;rw[d,f]
 unfold DK;rw[if_pos ⟨rfl,rfl⟩,e]
theorem XI{k c s n v:Int}(h:Bi k c s n v=0):Cq (Dm k c s n v)=0/\bZ (Dm k c s n v)=⟨k,c,s,n,v⟩:=by
 have j:=Fd h;have i:=j.2;unfold InC at i;have a:=VQ k c s n v (by omega) (by omega);have b:=VR k c s n v (by omega) (by omega);have d:=VS k c s n v (by omega) (by omega);have e:=SM k c s n v (by omega) (by omega);have f:=SN k c s n v (by omega) (by omega);unfold Cq bZ;rw[if_neg (λg=>g (BX k c s n v)),a,b,d,e,f];exact⟨h,rfl⟩
theorem XU(a:Acc){v:Vt}(p:Ah v):DK a (Bj v)=if AY a v=0 then some ⟨v.b,Bn a.vs v⟩else none:=by
 have g:=p;unfold Ah Ac at g;obtain⟨d,⟨r,n⟩,⟨k,c,s,f,x⟩⟩:=v;simp only at g;have l:Ad (Bj ⟨d,⟨r,n⟩,⟨k,c,s,f,x⟩⟩) 1=d:=BI d (by omega) (by omega) [2] (Ab r++(Ab n++Dm k c s f x));have m:Ad (Bj ⟨d,⟨r,n⟩,⟨k,c,s,f,x⟩⟩) 5=r:=BI r (by omega) (by omega) (2::Ab d) (Ab n++Dm k c s f x);have o:Ad (Bj ⟨d,⟨r,n⟩,⟨k,c,s,f,x⟩⟩) 9=n:=BI n (by omega) (by omega) (2::(Ab d++Ab r)) (Dm k c s f x);have i:(Bj ⟨d,⟨r,n⟩,⟨k,c,s,f,x⟩⟩).drop 13=Dm k c s f x:=rfl;have j:=XI (k:=k) (c:=c) (s:=s) (n:=f) (v:=x) g.2.2;have e:FV (Bj ⟨d,⟨r,n⟩,⟨k,c,s,f,x⟩⟩)=⟨d,⟨r,n⟩,⟨k,c,s,f,x⟩⟩:=by unfold FV;rw[l,m,o,i,j.2]
 unfold DK;rw[if_neg (by rintro⟨h,_⟩;cases h),if_pos ⟨rfl,rfl⟩,e,i,if_pos j.1]
def AE(bs:List (List Int)):List Int:=bs.flatMap AM
theorem CB(l m:List (List Int)):AE (l++m)=AE l++AE m:=by simp[AE]
structure Chn(all:List Acc)(bs:List (List Int)):Prop where
 len:all.length=bs.length+1
 first:all[0]?=some a0
 step:∀ (i:Nat) (b:List Int) (a c:Acc),bs[i]?=some b->all[i]?=some a->all[i+1]?=some c->DK a b=some c
theorem Chn.at(h:Chn all bs)(j:Nat)(b:j<=bs.length):∃ a,all[j]?=some a:=⟨_,G' (by have:=h.len;omega)⟩
theorem Mp(a:List (List Int))(j:Nat)(b:List Int)(h:a[j]?=some b):a.take (j+1)=a.take j++[b]:=by
 obtain⟨c,e⟩:=V'.1 h;rw[mN c,e]
theorem Lo(a:List (List Int))(j:Nat)(x:List Int):(AE a++x).drop (AE (a.take j)).length=AE (a.drop j)++x:=by
 have e:AE a=AE (a.take j)++AE (a.drop j):=by rw[<- CB,nI]
 rw[e,mA,pW (A' _),oW (A' _),nZ]
theorem Lp(a:List (List Int))(j:Nat)(b:List Int)(h:a[j]?=some b):AE (a.drop j)=AM b++AE (a.drop (j+1)):=by
 obtain⟨c,e⟩:=V'.1 h;rw[nv c,e];rfl
theorem Chn.it(h:Chn all bs)(x:List Int)(j:Nat)(l:j<=bs.length){a:Acc}(d:all[j]?=some a):itR (AE bs++x) j=((AE (bs.take j)).length,a):=by
 induction j generalizing a with
 | zero =>
  rw[h.first]at d
  obtain rfl:=nf d;rfl
 | succ j g =>
  obtain⟨i,c⟩:=h.at j (by omega);have g:=g (by omega) c;obtain⟨b,f⟩:∃ b,bs[j]?=some b:=⟨_,G' (by omega)⟩;have k:=h.step j b i a f c d;have e:BY ((AE bs++x).drop (AE (bs.take j)).length) i=some (a,b.length+5):=by
   rw[Lo,Lp bs j b f,mA,T3,k];rfl
  rw[itR,g,FG e,Mp bs j b f,CB,H']
  congr 1
  show _=(AE (bs.take j)).length+(AE [b]).length;simp[AE,Bg]
theorem Qb(a:List (List Int)):a.length<=(AE a).length:=by
 induction a with
 | nil=>exact mV _
 | cons b a ih =>
  show a.length+1<=(AM b++AE a).length;rw[H',Bg];omega
theorem gN(a:List (List Int))(k:Nat):∃ j,j<=a.length/\(AE (a.take j)).length<=k/\(j=a.length\/k<(AE (a.take (j+1))).length):=by
 have:∀ n,n<=a.length->∃ j,j<=n/\(AE (a.take j)).length<=k/\(j=n\/k<(AE (a.take (j+1))).length):=by
  intro n;induction n with
  | zero=>intro _;exact⟨0,A' _,by simp[AE],.inl rfl⟩
  | succ n ih =>
   intro d;obtain⟨j,c,b,h3⟩:=ih (by omega);rcases h3 with rfl|h3
   .rcases nt k (AE (a.take (j+1))).length with h4|h4
    .exact⟨j,by omega,b,.inr h4⟩
    .exact⟨j+1,A' _,h4,.inl rfl⟩
   .exact⟨j,by omega,b,.inr h3⟩
 exact this a.length (A' _)
theorem Chn.tS(h:Chn all bs)(k:Nat):∃ j a,j<=bs.length/\all[j]?=some a/\Ef ((AE bs).take k)=((AE (bs.take j)).length,a)/\(AE (bs.take j)).length<=k/\(j=bs.length\/k<(AE (bs.take (j+1))).length):=by
 obtain⟨j,d,i,h3⟩:=gN bs k;obtain⟨a,l⟩:=h.at j d;refine⟨j,a,d,l,?_,i,h3⟩;have f:=h.it [] j d l;rw[mT]at f
 have g:itR ((AE bs).take k) j=((AE (bs.take j)).length,a):=by
  rw[Y3 (by rw[f];exact i),f]
 have c:=Lo bs j [];rw[mT,mT]at c
 refine Pf g ?_ ?_
 .rw[X'];have m:=Qb (bs.take j);rw[X']at m
  have n:(AE (bs.take j)).length<=(AE bs).length:=by
   have:=congrArg List.length c;rw[mF]at this
   have e:AE bs=AE (bs.take j)++AE (bs.drop j):=by rw[<- CB,nI]
   rw[e,H'];omega
  omega
 .rw[pM,c];rcases h3 with rfl|h3
  .rw[oW (A' _)];simp[AE,BY]
  .rcases nt j bs.length with hj|hj
   .obtain⟨b,hb⟩:∃ b,bs[j]?=some b:=⟨_,G' hj⟩;rw[Lp bs j b hb];refine T4 b _ a ?_;rw[Mp bs j b hb,CB,H']at h3
    have e:(AE [b]).length=b.length+5:=by simp[AE,Bg]
    omega
   .rw[oW hj];simp[AE,BY]
end
end
section
open Go.RowKit
def fbO(r:List Int):Option (List Int) :=
 if r=[]then none
 else if r.length<(r.getD 0 0).toNat+5 then none
 else if(dig (r.take ((r.getD 0 0).toNat+1))).take 4≠(r.drop ((r.getD 0 0).toNat+1)).take 4 then none
 else some ((r.take ((r.getD 0 0).toNat+1)).drop 1)
theorem Uf{r b:List Int}(h:fbO r=some b):b.length+5<=r.length/\b.length=(r.getD 0 0).toNat:=by
 unfold fbO at h;split at h
 .cases h
 .split at h
  .cases h
  .split at h
   .cases h
   .injection h with h
    subst h;rw[mF,X'];omega
theorem Me(r:List Int)(a:Acc):BY r a=(fbO r).bind λb=>(DK a b).map λc=>(c,b.length+5):=by
 have d:∀ b,fbO r=some b->b.length=(r.getD 0 0).toNat:=λb h=>(Uf h).2;unfold BY;unfold fbO at d ⊢;by_cases f:r=[]
 .rw[if_pos f,if_pos f];rfl
 .rw[if_neg f]at d ⊢
  rw[if_neg f];by_cases g:r.length<(r.getD 0 0).toNat+5
  .rw[if_pos g,if_pos g];rfl
  .rw[if_neg g]at d ⊢
   rw[if_neg g];by_cases i:(dig (r.take ((r.getD 0 0).toNat+1))).take 4≠(r.drop ((r.getD 0 0).toNat+1)).take 4
   .rw[if_pos i,if_pos i];rfl
   .rw[if_neg i]at d ⊢
    rw[if_neg i];have e:=d _ rfl;show _=(DK a _).map _;rw[e]
theorem D7(l:List Int)(n i:Nat):Ad (l.drop n) i=Ad l (n+i):=by
 unfold Ad;simp only[mU,nD,nB]
def Hw(a:Acc)(b:List Int):Int :=
 if b.length=9/\b.getD 0 0=1 then Cf a (Gg b)
 else if b.length=33/\b.getD 0 0=2 then(if Cq (b.drop 13)=0 then AY a (FV b)else Cq (b.drop 13))
 else 3
def Gm(a:Acc)(b:List Int):Acc :=
 if b.length=9/\b.getD 0 0=1 then⟨Fk a (Gg b),DP a (Gg b)⟩
 else if b.length=33/\b.getD 0 0=2 then(if Cq (b.drop 13)=0 then⟨BG a (FV b),Br a (FV b)⟩else a0)
 else a0
theorem PS(a:Acc)(b:List Int):DK a b=if Hw a b=0 then some (Gm a b)else none:=by
 unfold DK Hw Gm;by_cases d:b.length=9/\b.getD 0 0=1
 .rw[if_pos d,if_pos d,if_pos d];by_cases c:Cf a (Gg b)=0
  .rw[if_pos c,if_pos c];unfold Fk DP;rw[if_pos c,if_pos c]
  .rw[if_neg c,if_neg c]
 .rw[if_neg d,if_neg d,if_neg d];by_cases c:b.length=33/\b.getD 0 0=2
  .rw[if_pos c,if_pos c,if_pos c];by_cases e:Cq (b.drop 13)=0
   .rw[if_pos e,if_pos e,if_pos e];by_cases f:AY a (FV b)=0
    .rw[if_pos f,if_pos f];unfold BG Br;rw[if_pos f,if_pos f]
    .rw[if_neg f,if_neg f]
   .rw[if_neg e,if_neg e,if_neg e]
  .rw[if_neg c,if_neg c,if_neg c,if_neg (by decide)]
def voV(l:List Int):Vt:=if Cq (l.drop 12)=0 then⟨Ad l 0,⟨Ad l 4,Ad l 8⟩,bZ (l.drop 12)⟩else⟨0,⟨0,0⟩,⟨0,0,0,0,0⟩⟩
theorem fe{l:List Int}(h:Cq (l.drop 12)=0):∃ m0 m1 m2 m3 m4:Int,Kk (l.drop 12)=#[.int .i64 m0,.int .i64 m1,.int .i64 m2,.int .i64 m3,.int .i64 m4]/\voV l=⟨Ad l 0,⟨Ad l 4,Ad l 8⟩,⟨m0,m1,m2,m3,m4⟩⟩:=by
 refine⟨Ad (l.drop 12) 0,Ad (l.drop 12) 4,Ad (l.drop 12) 8,Ad (l.drop 12) 12,Ad (l.drop 12) 16,?_,?_⟩
 .unfold Kk;rw[if_pos h];rfl
 .unfold voV;rw[if_pos h];rfl
theorem fd{l:List Int}(h:¬ Cq (l.drop 12)=0):Kk (l.drop 12)=zV5/\voV l=⟨0,⟨0,0⟩,⟨0,0,0,0,0⟩⟩:=by
 unfold voV Kk;rw[if_neg h,if_neg h];exact⟨rfl,rfl⟩
theorem Rt(b:List Int)(h:Cq (b.drop 13)=0):voV (b.drop 1)=FV b:=by
 unfold voV FV;rw[oU,if_pos h,D7,D7,D7]
theorem KS(b:List Int):(⟨Ad (b.drop 1) 0,Ad (b.drop 1) 4⟩:Bal)=Gg b:=by
 unfold Gg;rw[D7,D7]
def Gy(d:List Int)(s:Int):Acc:=if AR d s then(Ef d).2 else a0
def Nd(d:List Int)(s:Int):Int:=if AR d s then((Ef d).1:Int)else 0
def Js(d:List Int)(s:Int):List Int:=if AR d s then d.take (Ef d).1 else[]
def LV(d:List Int)(s:Int):Int:=if AR d s then(if((Ef d).1:Int)<s then((Ef d).1:Int)else s)else 0
end
section
def G1(d:List Int)(s:Int)(k:Nat):Int:=if ¬ AR d s then 5 else if 100000<d.length+k then 8 else 0
def CF(d:List Int)(s:Int)(may:Prop)[Decidable may] (b:List Int):Int:=if G1 d s (b.length+5)≠0 then G1 d s (b.length+5)else if may then 0 else 2
def FU(d:List Int)(s:Int)(may:Prop)[Decidable may] (b:List Int):List Int:=if CF d s may b=0 then d++AM b else[]
def GH(d:List Int)(s:Int)(may:Prop)[Decidable may] (b:List Int):Int:=if CF d s may b=0 then s else 0
theorem UC{d:List Int}{s:Int}{k:Nat}(a:AR d s)(b:d.length+k<=100000):G1 d s k=0:=by
 unfold G1;rw[if_neg (λg=>g a),if_neg (by omega)]
theorem dQ(b:Bal):Cf a0 b=if Ac b then 0 else 2:=by
 have a:Ag a0:=⟨.inr ⟨rfl,rfl⟩,λv c=>(Q' c).elim,trivial⟩;unfold Cf;rw[if_neg (λg=>g a)];by_cases h:Ac b
 .rw[if_neg (λg=>g h),if_pos h,if_neg];intro g;unfold Ac at h;unfold Bal.lt a0 at g;simp only at g;omega
 .rw[if_pos h,if_neg h]
theorem ff(v:Vt):AY a0 v=if Ah v then 0 else 2:=by
 have a:Ag a0:=⟨.inr ⟨rfl,rfl⟩,λv c=>(Q' c).elim,trivial⟩;unfold AY;rw[if_neg (λg=>g a)];by_cases h:Ah v
 .rw[if_neg (λg=>g h),if_pos h,if_neg];intro g;have b:=h.2.1;unfold Ac at b;unfold Bal.lt a0 at g;simp only at g;omega
 .rw[if_pos h,if_neg h]
end
section
open Go.RowKit
section
def Na{α:Type}(f:Nat->α)(i:Nat)(x:α):Nat->α:=λj=>if j=i then x else f j
variable{i:Nat}{m:Cmd}{α:Type}
theorem Ds(f:Nat->α)(i:Nat)(x:α):Na f i x i=x:=if_pos rfl
theorem Dt(f:Nat->α){i j:Nat}(x:α)(h:j≠i):Na f i x j=f j:=if_neg h
structure Sto where
 V:Nat->Int
 L:Nat->Int
 C:Nat->Int
 A:Nat->Int
 R:Nat->Bool
def AN:Sto:=⟨λ_=>0,λ_=>0,λ_=>0,λ_=>0,λ_=>false⟩
def ClB(l c a:Int):Prop:=(0<=l/\l<=1048577)/\(l=0->c=0/\a=0)
instance (l c a:Int):Decidable (ClB l c a):=by unfold ClB;exact inferInstance
def VaB(v:Int):Prop:=0<=v/\v<=1073741824
instance (v:Int):Decidable (VaB v):=by unfold VaB;exact inferInstance
def EZ(s:Sto):Prop:=(∀ i,i<8->VaB (s.V i))/\∀ i,i<8->ClB (s.L i) (s.C i) (s.A i)
noncomputable instance (s:Sto):Decidable (EZ s):=Classical.propDecidable _
theorem QX:EZ AN:=⟨λ_ _=>by unfold VaB AN;simp,λ_ _=>by unfold ClB AN;simp⟩
noncomputable def Nj(s:Sto):Int:=if EZ s then 0 else 5
variable{s:Sto}
theorem eI(h:EZ s):Nj s=0:=if_pos h
theorem KG(h:¬ EZ s):Nj s=5:=if_neg h
def SJ(s:Sto)(m:Cmd):Int:=if m.k=1 then m.v else if m.k=2 then s.V m.n.toNat else 0
def MW(s:Sto)(m:Cmd):Sto :=
 ⟨if m.k=1 then Na s.V m.n.toNat m.v else s.V,Na s.L m.c.toNat (m.s+1),Na s.C m.c.toNat 0,Na s.A m.c.toNat (SJ s m),if m.k=3 then Na s.R m.n.toNat true else s.R⟩
def dnS(s:Sto)(m:Cmd):Sto:=if m.k≠0/\¬ m.s<s.L m.c.toNat/\s.R m.c.toNat=false then MW s m else s
def dnC(s:Sto)(m:Cmd):Int :=
 if m.k=0 then 0 else if s.L m.c.toNat=m.s+1 then s.C m.c.toNat else if m.s<s.L m.c.toNat then 7 else if s.R m.c.toNat=true then 11 else 0
def dnA(s:Sto)(m:Cmd):Int :=
 if m.k=0 then 0 else if s.L m.c.toNat=m.s+1 then s.A m.c.toNat else if m.s<s.L m.c.toNat then 0 else if s.R m.c.toNat=true then 0 else SJ s m
noncomputable def doE(s:Sto)(m:Cmd):Int:=if EZ s then m.e else 5
noncomputable def doS(s:Sto)(m:Cmd):Sto:=if doE s m=0 then dnS s m else AN
noncomputable def doC(s:Sto)(m:Cmd):Int:=if doE s m=0 then dnC s m else 0
noncomputable def doA(s:Sto)(m:Cmd):Int:=if doE s m=0 then dnA s m else 0
theorem OH(h:EZ s):doE s m=m.e:=if_pos h
theorem OI(h:doE s m=0):doS s m=dnS s m:=if_pos h
theorem RS(h:doE s m=0):doC s m=dnC s m:=if_pos h
theorem RR(h:doE s m=0):doA s m=dnA s m:=if_pos h
theorem XP(h:doE s m≠0):doS s m=AN:=if_neg h
theorem XL(h:doE s m≠0):doC s m=0:=if_neg h
theorem Fy(h:m.e=0):(0<=m.k/\m.k<=3)/\InC m.c m.s m.n m.v:=Fd h
theorem Qv(b:EZ s)(h:m.e=0):VaB (SJ s m):=by
 obtain⟨c,a⟩:=Fy h;unfold InC at a;unfold SJ;split
 .unfold VaB;omega
 .split
  .exact b.1 _ (by omega)
  .unfold VaB;omega
theorem OF(b:EZ s)(h:m.e=0):EZ (dnS s m):=by
 obtain⟨f,d⟩:=Fy h;unfold InC at d;unfold dnS;split
 .refine⟨λi a=>?_,λi a=>?_⟩
  .simp only[MW];split
   .unfold Na;split
    .unfold VaB;omega
    .exact b.1 i a
   .exact b.1 i a
  .simp only[MW];by_cases e:i=m.c.toNat
   .subst e;rw[Ds,Ds,Ds];unfold ClB;omega
   .rw[Dt _ _ e,Dt _ _ e,Dt _ _ e];exact b.2 i a
 .exact b
def AnB(s:Sto):Prop:=∀ i,i<8->(s.C i=0)/\VaB (s.A i)
theorem eH:AnB AN:=λ_ _=>by unfold VaB AN;simp
theorem gP(b:EZ s)(a:AnB s)(h:m.e=0):AnB (dnS s m):=by
 unfold dnS;split
 .intro i hi;simp only[MW];by_cases e:i=m.c.toNat
  .subst e;rw[Ds,Ds];exact⟨rfl,Qv b h⟩
  .rw[Dt _ _ e,Dt _ _ e];exact a i hi
 .exact a
theorem jI(g:EZ s)(d:AnB s)(h:m.e=0):(dnC s m=0\/dnC s m=7\/dnC s m=11)/\VaB (dnA s m):=by
 obtain⟨i,b⟩:=Fy h;unfold InC at b;have a:=d m.c.toNat (by omega);have f:=Qv g h;unfold dnC dnA;split
 .unfold VaB;omega
 .split
  .exact⟨.inl a.1,a.2⟩
  .split
   .unfold VaB;omega
   .split
    .unfold VaB;omega
    .exact⟨.inl rfl,f⟩
def lnk(sum:List Int)(m:Cmd)(c a:Int):List Int:=dig (sum++(Dm m.k m.c m.s m.n m.v++(Ab c++Ab a)))
theorem SF(b:List Int)(m:Cmd)(c a:Int):(lnk b m c a).length=32:=As _
def sAt(f:Nat->Cmd):Nat->Sto
 | 0=>AN
 | i+1=>dnS (sAt f i) (f i)
def cAt(f:Nat->Cmd)(i:Nat):Int:=dnC (sAt f i) (f i)
def aAt(f:Nat->Cmd)(i:Nat):Int:=dnA (sAt f i) (f i)
def gAt(f:Nat->Cmd):Nat->List Int
 | 0=>List.replicate 32 0
 | i+1=>lnk (gAt f i) (f i) (cAt f i) (aAt f i)
theorem Si(f:Nat->Cmd)(i:Nat):(gAt f i).length=32:=by
 cases i with
 | zero=>rfl
 | succ i=>exact SF _ _ _ _
theorem er{f:Nat->Cmd}(h:∀ j,j<i->(f j).e=0):EZ (sAt f i)/\AnB (sAt f i):=by
 induction i with
 | zero=>exact⟨QX,eH⟩
 | succ i ih =>
  have a:=ih (λj b=>h j (by omega));exact⟨OF a.1 (h i (by omega)),gP a.1 a.2 (h i (by omega))⟩
end
end
section
def Jd(Q:Nat->Bool):Nat:=(Q 0).toNat+(Q 1).toNat+(Q 2).toNat+(Q 3).toNat+(Q 4).toNat
theorem I4(Q R:Nat->Bool)(d:3<=Jd Q)(e:3<=Jd R):∃ q,q<5/\Q q=true/\R q=true:=by
 apply pc;intro h;have a:∀ q,q<5->(Q q).toNat+(R q).toNat<=1:=by
  intro q f;cases b:Q q<;>cases c:R q<;>simp;exact h ⟨q,f,b,c⟩
 have g:=a 0 (by omega);have b:=a 1 (by omega);have c:=a 2 (by omega);have i:=a 3 (by omega);have j:=a 4 (by omega);unfold Jd at d e;omega
section
variable{γ:Type}
section
def Ch(H:Nat->Nat->Int->γ->Prop)(s:Nat)(b:Int)(c:γ):Prop:=∃ Q:Nat->Bool,3<=Jd Q/\∀ q,q<5->Q q=true->H q s b c
def Em(H:Nat->Nat->Int->γ->Prop)(P:Nat->Int)(s:Nat)(b:Int)(c:γ):Prop :=
 ∃ Q:Nat->Bool,3<=Jd Q/\(∀ q,q<5->Q q=true->b<=P q) /\
  ((∀ q,q<5->Q q=true->∀ b' c',H q s b' c'->b<=b') \/
   ∃ b0,b0<b/\(∃ q,q<5/\Q q=true/\H q s b0 c)/\∀ q,q<5->Q q=true->∀ b' c',H q s b' c'->b'<b->b'<=b0)
structure PInv(H:Nat->Nat->Int->γ->Prop)(P:Nat->Int):Prop where
 le:∀ n s b c,H n s b c->0<b/\b<=P n
 uniq:∀ n n' s b c c',H n s b c->H n' s b c'->c=c'
 safe:∀ n s b c,H n s b c->Em H P s b c
variable{H:Nat->Nat->Int->γ->Prop}{P:Nat->Int}{b:Int}{c:γ}{n s:Nat}
theorem PInv.later(h:PInv H P){s:Nat}{b:Int}{c:γ}(p:Ch H s b c):∀ (m:Nat) (b2:Int) (c2:γ) (n:Nat),b2.toNat=m->b<b2->H n s b2 c2->c2=c:=by
 intro m;induction m using Nat.strongRecOn with
 | ind m ih =>
  intro b2 c2 n v i l;have w:=(h.le n s b2 c2 l).1;obtain⟨Q,r,u,f⟩:=h.safe n s b2 c2 l;obtain⟨o,e,g⟩:=p;obtain⟨q,j,d,k⟩:=I4 Q o r e;have a:=g q j k;rcases f with f|⟨b0,hb0,⟨q0,hq0,hq0Q,hv0⟩,hmax⟩
  .have:=f q j d b c a;omega
  .have hle:=hmax q j d b c a i;have t:=(h.le q0 s b0 c2 hv0).1;rcases(by omega:b=b0\/b<b0)with rfl|hlt0
   .exact h.uniq q0 q s b c2 c hv0 a
   .exact ih b0.toNat (by omega) b0 c2 q0 rfl hlt0 hv0
theorem PInv.agree(h:PInv H P){s:Nat}{d e:Int}{f g:γ}(j:Ch H s d f)(k:Ch H s e g):f=g:=by
 have a:∀ {b:Int} {c:γ},Ch H s b c->∃ n,H n s b c:=by
  rintro b c ⟨Q,l,t⟩;obtain⟨q,u,i,_⟩:=I4 Q Q l l;exact⟨q,t q u i⟩
 obtain⟨m,p⟩:=a j;obtain⟨o,r⟩:=a k;rcases(by omega:d<e\/d=e\/e<d)with hlt|rfl|hlt
 .exact(h.later j _ e g o rfl hlt r).symm
 .exact h.uniq m o s d f g p r
 .exact h.later k _ d f m rfl hlt p
def upP(P:Nat->Int)(n:Nat)(b:Int):Nat->Int:=λi=>if i=n then b else P i
theorem Mw(h:P n<=b)(q:Nat):P q<=upP P n b q:=by
 unfold upP;split
 .rename_i e;rw[e];exact h
 .exact mx _
theorem Em.up(h:Em H P s b c){n:Nat}{d:Int}(i:P n<=d):Em H (upP P n d) s b c:=by
 obtain⟨Q,f,e,g⟩:=h;exact⟨Q,f,λq j a=>mR (e q j a) (Mw i q),g⟩
theorem PInv.au(h:PInv H P){n:Nat}{b:Int}(e:P n<=b):PInv H (upP P n b) :=
 ⟨λm s a c d=>⟨(h.le m s a c d).1,mR (h.le m s a c d).2 (Mw e m)⟩,h.uniq,λm s a c d=>(h.safe m s a c d).up e⟩
def gl(H:Nat->Nat->Int->γ->Prop)(n s:Nat)(b:Int)(c:γ):Nat->Nat->Int->γ->Prop:=λn' s' b' c'=>H n' s' b' c'\/(n'=n/\s'=s/\b'=b/\c'=c)
theorem Em.cn(h:Em H P s b c){n t:Nat}{f:Int}{o:γ}(m:P n<=f):Em (gl H n t f o) (upP P n f) s b c:=by
 obtain⟨Q,p,j,k⟩:=h;refine⟨Q,p,λq d a=>mR (j q d a) (Mw m q),?_⟩;rcases k with k|⟨b0,hb0,⟨q0,hq0,hq0Q,hv0⟩,hmax⟩
 .left;intro q d a g i e;rcases e with e|⟨rfl,rfl,rfl,rfl⟩
  .exact k q d a g i e
  .exact mR (j q d a) m
 .right;refine⟨b0,hb0,⟨q0,hq0,hq0Q,.inl hv0⟩,?_⟩;intro q d a g i e l;rcases e with e|⟨rfl,rfl,rfl,rfl⟩
  .exact hmax q d a g i e l
  .have:=j q d a;omega
theorem PInv.cn(h:PInv H P){n s:Nat}{b:Int}{c:γ}(a:P n<=b)(e:0<b)(f:Em H P s b c)(d:∀ m c',H m s b c'->c'=c):PInv (gl H n s b c) (upP P n b):=by
 refine⟨?_,?_,?_⟩
 .rintro m t b' c' (hv|⟨rfl,rfl,rfl,rfl⟩)
  .exact⟨(h.le m t b' c' hv).1,mR (h.le m t b' c' hv).2 (Mw a m)⟩
  .exact⟨e,by unfold upP;rw[if_pos rfl];exact mx _⟩
 .rintro m m' t b' c' c2 (hv|⟨_,e1,e2,e3⟩) (hv'|⟨_,e1',e2',e3'⟩)
  .exact h.uniq m m' t b' c' c2 hv hv'
  .subst e1' e2' e3';exact d m c' hv
  .subst e1 e2 e3;exact(d m' c2 hv').symm
  .rw[e3,e3']
 .rintro m t b' c' (hv|⟨rfl,rfl,rfl,rfl⟩)
  .exact(h.safe m t b' c' hv).cn a
  .exact f.cn a
end
end
end
section
def upN{α:Type}(f:Nat->α)(n:Nat)(x:α):Nat->α:=λi=>if i=n then x else f i
theorem CZ{α:Type}(f:Nat->α)(n:Nat)(x:α):upN f n x n=x:=if_pos rfl
theorem Dw{α:Type}(f:Nat->α){n i:Nat}(x:α)(h:i≠n):upN f n x i=f i:=if_neg h
end
section
theorem I8{l:List Vt}(h:BL l)(s:Int)(v:Vt):BJ (Ae l s) v<=(decide (v∈l/\v.bu=s)).toNat:=by
 induction l with
 | nil=>simp[BJ,Ae]
 | cons x xs c =>
  obtain⟨f,d⟩:=h;have c:=c d;have e:BJ (Ae (x::xs) s) v=(if x.bu=s/\x=v then 1 else 0)+BJ (Ae xs s) v:=by
   unfold BJ Ae;rw[List.filter_cons];by_cases a:x.bu=s
   .rw[if_pos (by simpa using a),ph];by_cases b:x=v
    .have h1':v.bu=s:=b▸a;simp[b,h1'];omega
    .simp[a,b]
   .rw[if_neg (by simpa using a)];simp[a]
  rw[e];by_cases a:x.bu=s/\x=v
  .have b:¬ (v∈xs/\v.bu=s):=λg=>by
    have:=f v g.1;rw[<- a.2]at this
    omega
   rw[E' b]at c
   rw[if_pos a,M' ⟨a.2▸O',a.2▸a.1⟩];simp at c ⊢;omega
  .rw[if_neg a];by_cases b:v∈xs/\v.bu=s
   .rw[M' b]at c
    rw[M' ⟨I' _ b.1,b.2⟩];omega
   .rw[E' b]at c
    simp at c ⊢;omega
theorem Cv(l m:List Vt)(v:Vt):BJ (l++m) v=BJ l v+BJ m v:=by unfold BJ;rw[pD]
end
section
def Bd:Bal:=⟨0,0⟩
def RG:Cmd:=⟨0,0,0,0,0⟩
def vtz:Vt:=⟨0,Bd,RG⟩
def Ea:Acc:=⟨Bd,[]⟩
structure Let where
 kind:Nat
 src:Nat
 dst:Nat
 hU:Bal
 cn:Vt
 mv:List Vt
 bu:Nat
 gC:List Cmd
def BC(k:Nat):Let:=⟨k,0,0,Bd,vtz,[],0,[]⟩
inductive Pend where
 | began (b:Bal) (vs:List Vt)
 | prom (to:Nat) (b:Bal) (vs:List Vt)
 | voted (to:Nat) (v:Vt)
 | ew (to:Nat) (b:Bal)
 | prop (v:Vt)
 | askNews (to:Nat)
 | start
 | tell (to:Nat) (bu:Nat)
structure Rnd where
 hU:Bal
 qZ:Nat->Bool
 an:Nat->Acc
 bN:Nat->Nat
 next:Nat
 fv:List Cmd
def ej:Rnd:=⟨Bd,λ_=>false,λ_=>Ea,λ_=>0,0,[]⟩
structure Tol where
 n:Nat
 c:Int
 s:Int
 e:Int
 a:Int
structure Nod where
 up:Bool
 d:List Int
 sy:Int
 bad:Nat
 vo:Acc
 bw:List Pend
 dc:Int
 av:Rnd
 ab:List Cmd
 done:Nat
 ni:Sto
 bn:List Cmd
 cl:Cmd->Option Bal
structure Meet where
 ae:Nat->Nod
 br:List Let
 ed:List Tol
def Nod.bare(N:Nod)(up:Bool)(d:List Int)(sy:Int)(vo:Acc)(p:List Pend):Nod :=
 ⟨up,d,sy,N.bad,vo,p,0,ej,[],0,AN,[],λ_=>none⟩
def CV:Nod:=⟨true,[],0,0,Ea,[],0,ej,[],0,AN,[],λ_=>none⟩
def AI:Meet:=⟨λ_=>CV,[],[]⟩
def Meet.put(M:Meet)(i:Nat)(N:Nod):Meet:={ M with ae:=upN M.ae i N }
def Nod.au(N:Nod)(b:Bal):Nod × List Vt × Int :=
 if Cf N.vo b≠0 then(N,[],Cf N.vo b)
 else if b=N.vo.p then({ N with vo:=⟨b,N.vo.vs⟩ },N.vo.vs,0)
 else if CF N.d N.sy (Ac b) (Bu b)≠0 then(N,[],CF N.d N.sy (Ac b) (Bu b))
 else({ N with d:=FU N.d N.sy (Ac b) (Bu b),sy:=GH N.d N.sy (Ac b) (Bu b),vo:=⟨b,N.vo.vs⟩ },N.vo.vs,0)
def Nod.cn(N:Nod)(v:Vt):Nod × Int :=
 if AY N.vo v≠0 then(N,AY N.vo v)
 else if v∈N.vo.vs then({ N with vo:=⟨v.b,Bn N.vo.vs v⟩ },0)
 else if CF N.d N.sy (Ah v) (Bj v)≠0 then(N,CF N.d N.sy (Ah v) (Bj v))
 else({ N with d:=FU N.d N.sy (Ah v) (Bj v),sy:=GH N.d N.sy (Ah v) (Bj v),vo:=⟨v.b,Bn N.vo.vs v⟩ },0)
def Nod.wait(N:Nod)(p:Pend):Nod:={ N with bw:=N.bw++[p] }
def Nod.ew(N:Nod)(to:Nat)(e:Int):Nod:=if e=7 then N.wait (.ew to N.vo.p)else N
def Nod.leads(N:Nod):Bool:=decide (N.av.hU≠Bd/\N.av.hU=N.vo.p)
def Rnd.rm(r:Rnd):Bool:=decide (5<2*Jd r.qZ)
def Dc(a:Acc):List Vt->Acc
 | []=>a
 | v::l=>Dc (if AY a v=0 then⟨BG a v,Br a v⟩else a) l
def Rnd.rC(r:Rnd)(j:Nat)(vs:List Vt):Rnd:={ r with qZ:=upN r.qZ j true,an:=upN r.an j (Dc ⟨r.hU,vs⟩ (r.an j).vs) }
def Rnd.jv(r:Rnd):List Acc:=[r.an 0,r.an 1,r.an 2,r.an 3,r.an 4]
def FB:Nat->Rnd->List Cmd->List Cmd
 | 0,_,l=>l
 | k+1,r,l=>if CU r.jv (l.length:Int)=0 then FB k r (l++[CN r.jv (l.length:Int)])else l
def Nod.rj(N:Nod):Nod:={ N with ab:=FB 41 N.av N.ab }
def Nod.ln(N:Nod)(bu:Nat)(gC:List Cmd):Nod:={ N with ab:=N.ab++gC.drop (N.ab.length-bu) }
def Nod.count(N:Nod)(j:Nat)(v:Vt):Nod :=
 if v.b≠N.av.hU then N
 else if AY (N.av.an j) v≠0 then N
 else Nod.rj { N with av:={ N.av with an:=upN N.av.an j ⟨BG (N.av.an j) v,Br (N.av.an j) v⟩ } }
def Hb(q:List Cmd):List Cmd->List Cmd
 | []=>q
 | c::l=>Hb (if q.length<40/\c∉q then q++[c]else q) l
def Nod.dT(N:Nod)(gC:List Cmd):Nod:=if N.leads then{ N with av:={ N.av with fv:=Hb N.av.fv gC } }else N
def BV(f:Cmd->Option Bal)(c:Cmd)(b:Option Bal):Cmd->Option Bal:=λx=>if x=c then b else f x
def Nod.want(N:Nod)(c:Cmd):Nod:=if(N.cl c).isSome then N else{ N with bn:=N.bn++[c],cl:=BV N.cl c (some Bd) }
def Nod.hZ(N:Nod)(c:Cmd):Nod:=if(N.cl c).isSome then{ N with bn:=N.bn.erase c,cl:=BV N.cl c none }else N
def Ba(b:Bal)(f:Cmd->Option Bal):List Cmd->List Cmd × (Cmd->Option Bal)
 | []=>([],f)
 | c::l=>if(f c).getD Bd≠b then(c::(Ba b (BV f c (some b)) l).1,(Ba b (BV f c (some b)) l).2)else Ba b f l
def Nod.take(N:Nod)(l:Let):Nod :=
 match l.kind with
 | 0=>if(N.au l.hU).2.2≠0 then N.ew l.src (N.au l.hU).2.2 else(N.au l.hU).1.wait (.prom l.src l.hU (N.au l.hU).2.1)
 | 1=>let K:=N.ln 0 l.gC
  if K.leads=false\/l.hU≠K.av.hU\/K.av.qZ l.src=true then K
  else Nod.rj { K with av:={ K.av.rC l.src l.mv with bN:=upN K.av.bN l.src l.gC.length } }
 | 2=>{ N with dc:=max N.dc l.hU.r }
 | 3=>if(N.cn l.cn).2≠0 then N.ew l.src (N.cn l.cn).2 else(N.cn l.cn).1.wait (.voted l.src l.cn)
 | 4=>N.count l.src l.cn
 | 5=>if N.ab.length<l.bu then N.wait (.askNews l.src)else N.ln l.bu l.gC
 | 6=>let K:=N.dT l.gC
  if l.bu<K.ab.length then K.wait (.tell l.src l.bu)else K
 | _=>N
def Meet.pd(M:Meet)(l:Let):Meet:=if(M.ae l.dst).up then M.put l.dst ((M.ae l.dst).take l)else M
def Nod.qY(N:Nod)(bu:Nat):Option Cmd :=
 if Ce (N.av.jv.map (·.vs)) (bu:Int)≠0 then none
 else if DX (N.av.jv.map (·.vs)) (bu:Int)then some (Hm (N.av.jv.map (·.vs)) (bu:Int))
 else N.av.fv.find? λc=>decide (c∉N.ab)
def Nod.cF(N:Nod):Nod :=
 if N.leads=false\/N.av.rm=false\/N.ab.length<N.av.next then N
 else match N.qY N.ab.length with
  | none=>N
  | some c =>
   if(N.cn ⟨(N.ab.length:Int),N.av.hU,c⟩).2≠0 then N
   else Nod.wait { (N.cn ⟨(N.ab.length:Int),N.av.hU,c⟩).1 with av:={ N.av with next:=N.ab.length+1 } } (.prop ⟨(N.ab.length:Int),N.av.hU,c⟩)
def Nod.lead(N:Nod)(i:Nat):Nod :=
 let b:Bal:=⟨max N.dc N.vo.p.r+1,(i:Int)⟩
 if(N.au b).2.2≠0 then N
 else Nod.wait { (N.au b).1 with av:=⟨b,λ_=>false,λ_=>Ea,λ_=>N.ab.length,0,[]⟩ } (.began b (N.au b).2.1)
def Nod.lp(N:Nod)(k:Int):Nod:=if Gk N.d N.sy k≠0 then N else N.bare false (Ki N.d N.sy k) (Kj N.d N.sy k) Ea []
def Nod.start(N:Nod):Nod :=
 if CX N.d N.sy≠0 then N
 else if Nd N.d N.sy<(N.d.length:Int)then N.bare true (Js N.d N.sy) (LV N.d N.sy) (Gy N.d N.sy) [.start]
 else N.bare true N.d N.sy (Gy N.d N.sy) [.start]
def Meet.move(M:Meet)(k:Int)(at_:Nat):Meet :=
 match M.br[at_%M.br.length]? with
 | none=>M
 | some l =>
  let A:=if k≠6 then{ M with br:=M.br.eraseIdx (at_%M.br.length) }else M
  if k≠5 then A.pd l else A
def Meet.rp(M:Meet):Meet:=M.br.foldl (λM l=>M.pd l) { M with br:=[] }
end
section
open Go.RowKit
section
def stA(s:Sto):Array Value:=#[.int .i64 (s.V 0),.int .i64 (s.V 1),.int .i64 (s.V 2),.int .i64 (s.V 3),.int .i64 (s.V 4),.int .i64 (s.V 5),.int .i64 (s.V 6),.int .i64 (s.V 7),.int .i64 (s.L 0),.int .i64 (s.L 1),.int .i64 (s.L 2),.int .i64 (s.L 3),.int .i64 (s.L 4),.int .i64 (s.L 5),.int .i64 (s.L 6),.int .i64 (s.L 7),.int .i64 (s.C 0),.int .i64 (s.A 0),.int .i64 (s.C 1),.int .i64 (s.A 1),.int .i64 (s.C 2),.int .i64 (s.A 2),.int .i64 (s.C 3),.int .i64 (s.A 3),.int .i64 (s.C 4),.int .i64 (s.A 4),.int .i64 (s.C 5),.int .i64 (s.A 5),.int .i64 (s.C 6),.int .i64 (s.A 6),.int .i64 (s.C 7),.int .i64 (s.A 7),.bool (s.R 0),.bool (s.R 1),.bool (s.R 2),.bool (s.R 3),.bool (s.R 4),.bool (s.R 5),.bool (s.R 6),.bool (s.R 7)]
theorem go:(prog.info? 41).map (·.size)=some 2:=by kernel_rfl
theorem lf(s:Sto)(i:Nat)(h:i<8):(stA s)[i]?=some (.int .i64 (s.V i)):=by
 rcases(by omega:i=0\/i=1\/i=2\/i=3\/i=4\/i=5\/i=6\/i=7)with rfl|rfl|rfl|rfl|rfl|rfl|rfl|rfl<;>rfl
theorem kZ(s:Sto)(i:Nat)(h:i<8):(stA s)[8+i]?=some (.int .i64 (s.L i)):=by
 rcases(by omega:i=0\/i=1\/i=2\/i=3\/i=4\/i=5\/i=6\/i=7)with rfl|rfl|rfl|rfl|rfl|rfl|rfl|rfl<;>rfl
theorem kY(s:Sto)(i:Nat)(h:i<8):(stA s)[16+i*2]?=some (.int .i64 (s.C i)):=by
 rcases(by omega:i=0\/i=1\/i=2\/i=3\/i=4\/i=5\/i=6\/i=7)with rfl|rfl|rfl|rfl|rfl|rfl|rfl|rfl<;>rfl
theorem kX(s:Sto)(i:Nat)(h:i<8):(stA s)[16+i*2+1]?=some (.int .i64 (s.A i)):=by
 rcases(by omega:i=0\/i=1\/i=2\/i=3\/i=4\/i=5\/i=6\/i=7)with rfl|rfl|rfl|rfl|rfl|rfl|rfl|rfl<;>rfl
def Bs(w:World)(g:Nat)(s:Sto):Prop:=w.heap[g]?=some (.cells (stA s) 45)
variable{g:Nat}{s:Sto}{w:World}
theorem Bs.te(h:Bs w g s)(i:Nat)(a:i<8):w.cell? ⟨g,i,none⟩=some (.int .i64 (s.V i)):=(cell_of_row _ _ i _ _ _ h).trans (lf s i a)
theorem Bs.td(h:Bs w g s)(i:Nat)(a:i<8):w.cell? ⟨g,8+i,none⟩=some (.int .i64 (s.L i)):=(cell_of_row _ _ (8+i) _ _ _ h).trans (kZ s i a)
theorem Bs.sZ(h:Bs w g s)(i:Nat)(a:i<8):w.cell? ⟨g,16+i*2,none⟩=some (.int .i64 (s.C i)):=(cell_of_row _ _ (16+i*2) _ _ _ h).trans (kY s i a)
theorem Bs.sY(h:Bs w g s)(i:Nat)(a:i<8):w.cell? ⟨g,16+i*2+1,none⟩=some (.int .i64 (s.A i)):=(cell_of_row _ _ (16+i*2+1) _ _ _ h).trans (kX s i a)
theorem i5(a b c d:Int):∀ w,(binOp .neq 41 (.agg #[.int .i64 a,.int .i64 b]) (.agg #[.int .i64 c,.int .i64 d])).run prog w=.ok (.bool (!decide (a=c/\b=d))) w:=by
 intro w;rw[run_neq_struct,run_equalIn_agg w 9999 _ _ _ (by kernel_rfl) (by kernel_rfl)];unfold Program.fieldsOf;rw[underlying41];have e:=underlying3;have f:=underlying39;simp[Op.eqFields,go_sem,e,f]
 repeat' split
 all_goals simp_all
theorem dA(a b:Int):∀ w,(binOp .neq 41 (.agg #[.int .i64 a,.int .i64 b]) (.agg #[.int .i64 0,.int .i64 0])).run prog w=.ok (.bool (!decide (a=0/\b=0))) w:=i5 a b 0 0
def vaL(f:Nat->Int):List Value:=[.int .i64 (f 0),.int .i64 (f 1),.int .i64 (f 2),.int .i64 (f 3),.int .i64 (f 4),.int .i64 (f 5),.int .i64 (f 6),.int .i64 (f 7)]
def vaA(f:Nat->Int):Array Value:=(vaL f).toArray
theorem be(f:Nat->Int)(j:Nat)(u:Value)(h:(vaL f)[j]?=some u):j<8/\u=.int .i64 (f j):=by
 have a:j<8:=(V'.1 h).1;refine⟨a,?_⟩;rcases(by omega:j=0\/j=1\/j=2\/j=3\/j=4\/j=5\/j=6\/j=7)with rfl|rfl|rfl|rfl|rfl|rfl|rfl|rfl<;>(simp[vaL]at h;exact h.symm)
theorem Bs.sT(h:Bs w g s):w.rangeAt g 0 (vaL s.V):=by
 intro j u b;obtain⟨a,rfl⟩:=be _ _ _ b;rw[na];exact h.te j a
theorem Bs.sS(h:Bs w g s):w.rangeAt g 8 (vaL s.L):=by
 intro j u b;obtain⟨a,rfl⟩:=be _ _ _ b;exact h.td j a
theorem js(f:Nat->Int):(prog.info? 38).map (·.size)=some (vaL f).length:=by show _=some 8;kernel_rfl
theorem GF{d:Array Oper}{c:List Oper}{op:Oper}{a:Act}{Q:Exit->Act->World->Prop}(e:op.guard=none)(x:Operand)(i:op.op=.load 38 x)(b o:Nat)(j:a.eval x=.pointer (some ⟨b,o,none⟩))(f:Nat->Int)(g:w.rangeAt b o (vaL f))(h:wpList prog d Q c (a.put op.dst (.agg (vaA f))) w):wpList prog d Q (op::c) a w :=
 wpList_load_mid e 38 x i b o j (vaL f) _ g underlying38 rfl (js f) h
theorem UP(f:Nat->Int)(i:Nat)(a:i<8)(w:World):(Instr.index 38 (.agg (vaA f)) (.int .i64 (i:Int))).run prog w=.ok (.int .i64 (f i)) w:=by
 rcases(by omega:i=0\/i=1\/i=2\/i=3\/i=4\/i=5\/i=6\/i=7)with rfl|rfl|rfl|rfl|rfl|rfl|rfl|rfl<;>kernel_rfl
structure NX where
 tape:S3
 mv:S3
 synced:S3
 fv:S3
 ab:S3
 bn:S3
 hv:Nat->S3
 cl:Option Nat
def AG(i ob:Nat)(p:Nod)(x:NX):Array Value:=([iv (i:Int),.bool p.up,S3.v x.tape,iv p.sy,iv (p.bad:Int),pt ob 0,iv p.vo.p.r,iv p.vo.p.n,S3.v x.mv,S3.v x.synced,iv p.dc,iv p.av.hU.r,iv p.av.hU.n,.bool (p.av.qZ 0),.bool (p.av.qZ 1),.bool (p.av.qZ 2),.bool (p.av.qZ 3),.bool (p.av.qZ 4),iv ((p.av.an 0).p.r),iv ((p.av.an 0).p.n),S3.v (x.hv 0),iv ((p.av.an 1).p.r),iv ((p.av.an 1).p.n),S3.v (x.hv 1),iv ((p.av.an 2).p.r),iv ((p.av.an 2).p.n),S3.v (x.hv 2),iv ((p.av.an 3).p.r),iv ((p.av.an 3).p.n),S3.v (x.hv 3),iv ((p.av.an 4).p.r),iv ((p.av.an 4).p.n),S3.v (x.hv 4),iv (p.av.bN 0:Int),iv (p.av.bN 1:Int),iv (p.av.bN 2:Int),iv (p.av.bN 3:Int),iv (p.av.bN 4:Int),iv (p.av.next:Int),S3.v x.fv,S3.v x.ab,iv (p.done:Int)]++((stA p.ni).toList++[S3.v x.bn,.map x.cl])).toArray
def FA(l:Let)(vs wh:S3):Array Value:=#[iv (l.kind:Int),iv (l.src:Int),iv (l.dst:Int),iv l.hU.r,iv l.hU.n,iv l.cn.bu,iv l.cn.b.r,iv l.cn.b.n,iv l.cn.w.k,iv l.cn.w.c,iv l.cn.w.s,iv l.cn.w.n,iv l.cn.w.v,S3.v vs,iv (l.bu:Int),S3.v wh]
def Eg(t:Tol):List Value:=[iv (t.n:Int),iv t.c,iv t.s,iv t.e,iv t.a]
def cmV(c:Cmd):List Value:=[iv c.k,iv c.c,iv c.s,iv c.n,iv c.v]
def cmL(l:List Cmd):List Value:=l.flatMap cmV
theorem Cp(l m:List Cmd):cmL (l++m)=cmL l++cmL m:=by simp[cmL]
theorem BH(l:List Cmd):(cmL l).length=l.length*5:=by
 induction l with
 | nil=>rfl
 | cons c l ih=>rw[cmL,oI,H'];show 5+(cmL l).length=_;rw[ih,mY];omega
theorem OD(l:List Cmd):∀ u∈cmL l,u.oneCell'=true:=by
 intro u b;obtain⟨c,_,a⟩:=pg.1 b;simp only[cmV,mG,Q',or_false]at a;rcases a with rfl|rfl|rfl|rfl|rfl<;>rfl
theorem OC{l:List Cmd}{k:Nat}{c:Cmd}(h:l[k]?=some c){j:Nat}{u:Value}(a:(cmV c)[j]?=some u):(cmL l)[5*k+j]?=some u:=by
 induction l generalizing k with
 | nil=>cases h
 | cons d l ih =>
  rw[cmL,oI];cases k with
  | zero =>
   simp only[nJ,Y']at h;subst h;rw[mK (by have:=(V'.1 a).1;omega)];simpa using a
  | succ k =>
   rw[mM (by show 5<=_;omega),show 5*(k+1)+j-(cmV d).length=5*k+j by show 5*(k+1)+j-5=_;omega];exact ih (by simpa using h)
theorem KY(l:List Cmd)(k:Nat):(cmL l).drop (5*k)=cmL (l.drop k):=by
 induction l generalizing k with
 | nil=>simp[cmL]
 | cons c l ih =>
  cases k with
  | zero=>simp
  | succ k =>
   show(cmV c++cmL l).drop (5*(k+1))=cmL (l.drop k);rw[<- ih k,List.drop_append,show(cmV c).drop (5*(k+1))=[]from nr (by show 5<=_;omega),nZ,show 5*(k+1)-(cmV c).length=5*k by show 5*(k+1)-5=_;omega]
def Frz(g:Gh)(x:S3):Prop:=∀ a,x.a=some a->g.t a.block=.z
structure FSl(g:Gh)(w:World)(x:S3)(l:List Int):Prop where
 s:Sl w x.v l
 z:l≠[]->Frz g x
structure FSv(g:Gh)(w:World)(x:S3)(l:List Vt):Prop where
 s:Sv w x.v l
 z:l≠[]->Frz g x
end
section
variable{B:Nat}{T:List Tg}{g g':Gh}{w w':World}
section
variable{b i nb ob r:Nat}{bs:List Nat}{f:Cmd->Option Bal}{l:List Let}{x:S3}
theorem Cg.zc(c:Cg B T g w g' w')(e:Tg.z∉T){b:Nat}(d:b<w.heap.size)(a:g.t b=.z):w'.heap[b]?=w.heap[b]?:=c.same b d (by rw[a];exact e) (λh=>by rw[a]at h;cases h)
theorem FSl.ch{l:List Int}(h:FSl g w x l)(c:Cg B T g w g' w')(v:Tg.z∉T:=by simp):FSl g' w' x l:=by
 obtain⟨⟨⟨a,r,q,o,p,j⟩,k,m⟩,s⟩:=h;simp only[Value.slice.injEq]at q;obtain⟨rfl,e,rfl⟩:=q;rcases j with j|⟨b,off,ha,hbs,hcell⟩
 .exact⟨⟨⟨_,_,by simp only[Value.slice.injEq,and_true,true_and];exact e,o,p,.inl j⟩,k,m⟩,λh=>absurd j h⟩
 .have hne:∀ _:l≠[],g.t b=.z:=λh=>s h _ ha;by_cases f:l=[]
  .exact⟨⟨⟨_,_,by simp only[Value.slice.injEq,and_true,true_and];exact e,o,p,.inl f⟩,k,m⟩,λh=>absurd f h⟩
  .refine⟨⟨⟨_,_,by simp only[Value.slice.injEq,and_true,true_and];exact e,o,p,.inr ⟨b,off,ha,Z' hbs c.size,λi u=>?_⟩⟩,k,m⟩,λ_ y d=>?_⟩
   .rw[World.cell?_of_block (w:=w) (c.zc v hbs (hne f))];exact hcell i u
   .rw[ha]at d;simp only[Y']at d;subst d;rw[c.tag hbs (λh=>absurd ((hne f).symm.trans h) (by simp))];exact hne f
theorem FSv.ch{l:List Vt}(h:FSv g w x l)(c:Cg B T g w g' w')(A:Tg.z∉T:=by simp):FSv g' w' x l:=by
 obtain⟨⟨⟨a,q,p,m,o,f⟩,k⟩,r⟩:=h;simp only[Value.slice.injEq]at p;obtain⟨rfl,e,rfl⟩:=p;rcases f with f|⟨b,off,ha,hbs,hcell⟩
 .exact⟨⟨⟨_,_,by simp only[Value.slice.injEq,and_true,true_and];exact e,m,o,.inl f⟩,k⟩,λh=>absurd f h⟩
 .by_cases hl:l=[]
  .exact⟨⟨⟨_,_,by simp only[Value.slice.injEq,and_true,true_and];exact e,m,o,.inl hl⟩,k⟩,λh=>absurd hl h⟩
  .have hzb:g.t b=.z:=r hl _ ha;refine⟨⟨⟨_,_,by simp only[Value.slice.injEq,and_true,true_and];exact e,m,o,.inr ⟨b,off,ha,Z' hbs c.size,λi v s j u y=>?_⟩⟩,k⟩,λ_ C d=>?_⟩
   .rw[World.cell?_of_block (w:=w) (c.zc A hbs hzb)];exact hcell i v s j u y
   .rw[ha]at d;simp only[Y']at d;subst d;rw[c.tag hbs (λh=>absurd (hzb.symm.trans h) (by simp))];exact hzb
structure Rc(g:Gh)(w:World)(x:S3)(l:List Cmd):Prop where
 len:x.n=l.length
 cap:x.n<=x.c
 so:x.a=none->x.c=0
 ex:l=[]\/∃ b off,x.a=some ⟨b,off,none⟩/\b<w.heap.size/\(∀ j u,(cmL l)[j]?=some u->w.cell? ⟨b,off+j,none⟩=some u)/\(g.t b=.z\/off+5*l.length<=g.k b)
theorem Rc.nil(g:Gh)(w:World):Rc g w s30 []:=⟨rfl,A' _,λ_=>rfl,.inl rfl⟩
theorem Rc.ch{l:List Cmd}(h:Rc g w x l)(c:Cg B T g w g' w')(d:Tg.z∉T:=by simp):Rc g' w' x l:=by
 refine⟨h.len,h.cap,h.so,?_⟩;rcases h.ex with h1|⟨b,off,h1,h2,h3,h4⟩
 .exact .inl h1
 .refine .inr ⟨b,off,h1,Z' h2 c.size,λj u a=>?_,?_⟩
  .rcases h4 with h4|h4
   .rw[World.cell?_of_block (w:=w) (c.zc d h2 h4)];exact h3 j u a
   .have hjl:j<(cmL l).length:=(V'.1 a).1;rw[BH]at hjl
    rw[c.rV b h2 (off+j) (by omega)];exact h3 j u a
  .rcases h4 with h4|h4
   .exact .inl ((c.tag h2 (by rw[h4];intro h;cases h)).trans h4)
   .exact .inr (my h4 (c.rU b h2))
structure Box(g:Gh)(w:World)(b:Nat)(cs:Array Value)(t:TypeId):Prop where
 r:w.heap[b]?=some (.cells cs t)
 z:g.t b=.z
theorem Box.ch{a:Array Value}{t:TypeId}(h:Box g w b a t)(c:Cg B T g w g' w')(d:Tg.z∉T:=by simp):Box g' w' b a t:=⟨(c.zc d (rl h.r) h.z).trans h.r,(c.tag (rl h.r) (by rw[h.z];intro h;cases h)).trans h.z⟩
def CM(g:Gh)(w:World)(b:Nat)(l:Let):Prop:=∃ vs wh,Box g w b (FA l vs wh) 158/\FSv g w vs l.mv/\Rc g w wh l.gC
theorem CM.ch{l:Let}(h:CM g w b l)(c:Cg B T g w g' w')(a:Tg.z∉T:=by simp):CM g' w' b l:=let ⟨vs,wh,h1,h2,h3⟩:=h;⟨vs,wh,h1.ch c a,h2.ch c a,h3.ch c a⟩
def KL(g:Gh)(w:World)(nb:Nat)(v:Value):Pend->Prop
 | .began b vs=>∃ b1 b2 b3 x,v=.func (.func 66) #[] #[pt b1 0,pt b2 0,pt b3 0]/\Box g w b1 #[pt nb 0] 91/\Box g w b2 #[iv b.r,iv b.n] 96/\Box g w b3 #[S3.v x] 97/\FSv g w x vs
 | .prom to b vs=>∃ b1 b2 b3 x lb l,v=.func (.func 96) #[] #[pt b1 0,pt b2 0,pt b3 0]/\Box g w b1 #[pt nb 0] 91/\Box g w b2 #[pt lb 0] 159/\Box g w b3 #[S3.v x] 97/\FSv g w x vs/\CM g w lb l/\l.src=to/\l.hU=b
 | .voted to u=>∃ b1 b2 lb l,v=.func (.func 102) #[] #[pt b1 0,pt b2 0]/\Box g w b1 #[pt nb 0] 91/\Box g w b2 #[pt lb 0] 159/\CM g w lb l/\l.src=to/\l.cn=u
 | .ew to b=>∃ b1 b2 b3,v=.func (.func 134) #[] #[pt b1 0,pt b2 0,pt b3 0]/\Box g w b1 #[pt nb 0] 91/\Box g w b2 #[iv (to:Int)] 3/\Box g w b3 #[iv b.r,iv b.n] 96
 | .prop u=>∃ b1 b2,v=.func (.func 117) #[] #[pt b1 0,pt b2 0]/\Box g w b1 #[pt nb 0] 91/\Box g w b2 (vtA u) 156
 | .askNews to=>∃ b1 b2 lb l,v=.func (.func 104) #[] #[pt b1 0,pt b2 0]/\Box g w b1 #[pt nb 0] 91/\Box g w b2 #[pt lb 0] 159/\CM g w lb l/\l.src=to
 | .start=>∃ b1,v=.func (.func 79) #[] #[pt b1 0]/\Box g w b1 #[pt nb 0] 91
 | .tell to bu=>∃ b1 b2 lb l,v=.func (.func 106) #[] #[pt b1 0,pt b2 0]/\Box g w b1 #[pt nb 0] 91/\Box g w b2 #[pt lb 0] 159/\CM g w lb l/\l.src=to/\l.bu=bu
theorem KL.ch{v:Value}{q:Pend}(h:KL g w nb v q)(c:Cg B T g w g' w')(a:Tg.z∉T:=by simp):KL g' w' nb v q:=by
 cases q with
 | began b vs=>obtain⟨d,i,p,x,e,f,j,k,m⟩:=h;exact⟨d,i,p,x,e,f.ch c a,j.ch c a,k.ch c a,m.ch c a⟩
 | prom to b vs=>obtain⟨d,i,p,x,o,l,e,f,j,k,m,r,s⟩:=h;exact⟨d,i,p,x,o,l,e,f.ch c a,j.ch c a,k.ch c a,m.ch c a,r.ch c a,s⟩
 | voted to u=>obtain⟨d,i,o,l,e,f,j,k,m⟩:=h;exact⟨d,i,o,l,e,f.ch c a,j.ch c a,k.ch c a,m⟩
 | ew to b=>obtain⟨d,i,p,e,f,j,k⟩:=h;exact⟨d,i,p,e,f.ch c a,j.ch c a,k.ch c a⟩
 | prop u=>obtain⟨d,i,e,f,j⟩:=h;exact⟨d,i,e,f.ch c a,j.ch c a⟩
 | askNews to=>obtain⟨d,i,o,l,e,f,j,k,m⟩:=h;exact⟨d,i,o,l,e,f.ch c a,j.ch c a,k.ch c a,m⟩
 | start=>obtain⟨d,e,f⟩:=h;exact⟨d,e,f.ch c a⟩
 | tell to bu=>obtain⟨d,i,o,l,e,f,j,k,m⟩:=h;exact⟨d,i,o,l,e,f.ch c a,j.ch c a,k.ch c a,m⟩
def mkA(x:Cmd × Bal × Nat):MapEntry:={ key:=.agg (cmV x.1).toArray,val:=.agg #[iv x.2.1.r,iv x.2.1.n],born:=x.2.2 }
structure AskAt(g:Gh)(w:World)(τ:Tg)(b:Nat)(f:Cmd->Option Bal):Prop where
 t:g.t b=τ
 k:g.k b=0
 ex:∃ (es:List (Cmd × Bal × Nat)) (clock:Nat),w.heap[b]?=some (.map (es.map mkA).toArray clock)/\(∀ x∈es,x.2.2<clock)/\(es.map (·.2.2)).Nodup/\(es.map (·.1)).Nodup/\∀ c,f c=(es.find? λx=>decide (c=x.1)).map (·.2.1)
def WZ(g:Gh)(w:World)(i:Nat)(f:Cmd->Option Bal):Option Nat->Prop
 | some b=>AskAt g w (.n 5 i) b f
 | none=>f=λ_=>none
structure Pends(g:Gh)(w:World)(nb:Nat)(vs:List Value)(l:List Pend):Prop where
 len:vs.length=l.length
 at_:∀ (k:Nat) (v:Value) (q:Pend),vs[k]?=some v->l[k]?=some q->KL g w nb v q
structure NodeAt(g:Gh)(w:World)(i nb ob:Nat)(x:NX)(p:Nod):Prop where
 row:w.heap[nb]?=some (.cells (AG i ob p x) 111)
 tag:g.t nb=.n 0 i
 rU:g.k nb=0
 tape:FSl g w x.tape p.d
 mv:FSv g w x.mv p.vo.vs
 an:∀ j,j<5->FSv g w (x.hv j) (p.av.an j).vs
 bw:∃ vs,OwnS g w (.n 1 i) true 1 1 x.synced vs/\Pends g w nb vs p.bw
 fv:OwnS g w (.n 2 i) false 51 5 x.fv (cmL p.av.fv)
 ab:OwnS g w (.n 3 i) true 51 5 x.ab (cmL p.ab)
 bn:OwnS g w (.n 4 i) false 51 5 x.bn (cmL p.bn)
 cl:WZ g w i p.cl x.cl
 rW:p.up=true->∃ b,x.cl=some b
structure Lets(g:Gh)(w:World)(bs:List Nat)(l:List Let):Prop where
 len:bs.length=l.length
 at_:∀ (k b:Nat) (m:Let),bs[k]?=some b->l[k]?=some m->CM g w b m
structure OutAt(g:Gh)(w:World)(ob:Nat)(lt tl:S3)(ls:List Let)(ts:List Tol):Prop where
 row:w.heap[ob]?=some (.cells #[lt.v,tl.v] 88)
 tag:g.t ob=.n 50 0
 rU:g.k ob=0
 br:∃ bs,OwnS g w (.n 51 0) false 159 1 lt (bs.map (pt · 0))/\Lets g w bs ls
 ed:OwnS g w (.n 52 0) false 49 5 tl (ts.flatMap Eg)
theorem Pends.ch{a:List Value}{l:List Pend}(h:Pends g w nb a l)(c:Cg B T g w g' w')(e:Tg.z∉T:=by simp):Pends g' w' nb a l:=⟨h.len,λk v q b d=>(h.at_ k v q b d).ch c e⟩
theorem Lets.ch(h:Lets g w bs l)(c:Cg B T g w g' w')(d:Tg.z∉T:=by simp):Lets g' w' bs l:=⟨h.len,λk v q a b=>(h.at_ k v q a b).ch c d⟩
theorem Lets.snoc{m:Let}(h:Lets g w bs l)(f:CM g w b m):Lets g w (bs++[b]) (l++[m]):=by
 refine⟨by simp[h.len],λk c q a d=>?_⟩;by_cases e:k<bs.length
 .rw[mK e]at a
  rw[mK (by rw[<- h.len];exact e)]at d
  exact h.at_ k c q a d
 .rw[mM (by omega)]at a
  rw[mM (by rw[<- h.len];omega),<- h.len]at d
  cases hx:k-bs.length with
  | zero=>rw[hx]at a d;simp at a d;subst a d;exact f
  | succ n=>rw[hx]at a;simp at a
theorem Cg.rc(c:Cg B T g w g' w'){b:Nat}{o:Obj}{r i:Nat}(h:w.heap[b]?=some o)(a:g.t b=.n r i)(d:Tg.n r i∉T):w'.heap[b]?=some o/\g'.t b=.n r i/\g'.k b=g.k b :=
 ⟨(c.same b (rl h) (by rw[a];exact d) (λh=>by rw[a]at h;cases h)).trans h,(c.tag (rl h) (by rw[a];intro h;cases h)).trans a,c.sE b (rl h) (by rw[a];exact d) (by rw[a];intro h;cases h)⟩
theorem AskAt.ch(h:AskAt g w (.n r i) b f)(c:Cg B T g w g' w')(hn:Tg.n r i∉T:=by simp):AskAt g' w' (.n r i) b f:=by
 obtain⟨e,j,d,k,m,o⟩:=h;have a:=c.rc m e hn;exact⟨a.2.1,a.2.2.trans j,d,k,a.1,o⟩
theorem WZ.ch{a:Option Nat}(h:WZ g w i f a)(c:Cg B T g w g' w')(hn:Tg.n 5 i∉T:=by simp):WZ g' w' i f a:=by
 cases a with
 | none=>exact h
 | some b=>exact AskAt.ch h c hn
theorem NodeAt.ch{x:NX}{p:Nod}(h:NodeAt g w i nb ob x p)(c:Cg B T g w g' w')(a:Tg.z∉T:=by simp)(hn:∀ r,r<6->Tg.n r i∉T:=by simp):NodeAt g' w' i nb ob x p:=by
 have b:=c.rc h.row h.tag (hn 0 (by omega));obtain⟨k,d,e⟩:=h.bw;exact⟨b.1,b.2.1,b.2.2.trans h.rU,h.tape.ch c a,h.mv.ch c a,λj f=>(h.an j f).ch c a,⟨k,d.ch c (hn 1 (by omega)) (by simp),e.ch c a⟩,h.fv.ch c (hn 2 (by omega)) (by simp),h.ab.ch c (hn 3 (by omega)) (by simp),h.bn.ch c (hn 4 (by omega)) (by simp),h.cl.ch c (hn 5 (by omega)),h.rW⟩
theorem OutAt.ch{lt d:S3}{b:List Let}{e:List Tol}(h:OutAt g w ob lt d b e)(c:Cg B T g w g' w')(k:Tg.z∉T:=by simp)(hn:∀ r,50<=r->Tg.n r 0∉T:=by simp):OutAt g' w' ob lt d b e:=by
 have a:=c.rc h.row h.tag (hn 50 (by omega));obtain⟨f,i,j⟩:=h.br;exact⟨a.1,a.2.1,a.2.2.trans h.rU,⟨f,i.ch c (hn 51 (by omega)) (by simp),j.ch c k⟩,h.ed.ch c (hn 52 (by omega)) (by simp)⟩
end
end
section
def TN(i:Nat):List Tg:=[.n 0 i,.n 1 i,.n 2 i,.n 3 i,.n 4 i,.n 5 i,.n 50 0,.n 51 0,.n 52 0,.n 60 0]
theorem By(i:Nat):Tg.z∉TN i:=by simp[TN]
def NS(i nb ob:Nat)(g:Gh)(w:World)(p:Nod)(ls:List Let)(ts:List Tol):Prop:=∃ x lt tl,NodeAt g w i nb ob x p/\OutAt g w ob lt tl ls ts/\IU g w
variable{B i nb ob:Nat}{T:List Tg}{e:TypeId}{g g':Gh}{l:List Pend}{ls:List Let}{p:Nod}{ts:List Tol}{w w':World}{x:S3}{τ:Tg}
theorem nsC{c:Nat}{x:NX}{lt b:S3}{L:List Sh}(d:NodeAt g w i nb ob x p)(e:OutAt g w ob lt b ls ts)(C:Cg B T g w g' w')(K:Kn c g' w' L)(a:Tg.z∉T:=by simp)(f:∀ r,r<6->Tg.n r i∉T:=by simp)(h:∀ r,50<=r->Tg.n r 0∉T:=by simp):NS i nb ob g' w' p ls ts:=⟨x,lt,b,d.ch C a f,e.ch C a h,K.new⟩
def NP(i nb ob:Nat)(g:Gh)(w:World)(v:Value)(p:Nod)(ls:List Let)(ts:List Tol):Ending->World->Prop:=λe w'=>∃ g',e=.returned v/\NS i nb ob g' w' p ls ts/\Cg w.heap.size (TN i) g w g' w'
theorem NS.new(h:NS i nb ob g w p ls ts):IU g w:=let ⟨_,_,_,_,_,h⟩:=h;h
theorem NS.af(h:NS i nb ob g w p ls ts)(b:Bw w w'):NS i nb ob g w' p ls ts :=
 let ⟨x,lt,tl,h1,h2,h3⟩:=h
 have c:=Cg.eb (B:=0) (T:=[]) (g:=g) b
 ⟨x,lt,tl,h1.ch c,h2.ch c,λk a=>h3 k (my b.size a)⟩
theorem NS.rA(h:NS i nb ob g w p ls ts)(c:Cg B [] g w g' w')(a:IU g' w'):NS i nb ob g' w' p ls ts :=
 let ⟨x,lt,tl,h1,h2,_⟩:=h
 ⟨x,lt,tl,h1.ch c,h2.ch c,a⟩
theorem NodeAt.rT{b:Nat}{x:NX}(h:NodeAt g w i nb ob x p)(a:x.cl=some b):AskAt g w (.n 5 i) b p.cl:=by have:=h.cl;rw[a]at this;exact this
theorem Cc(h:∃ vs,OwnS g w (.n 1 i) true 1 1 x vs/\Pends g w nb vs l)(c:Cg B T g w g' w')(b:Tg.z∉T:=by simp)(a:Tg.n 1 i∉T:=by simp):∃ vs,OwnS g' w' (.n 1 i) true 1 1 x vs/\Pends g' w' nb vs l :=
 let ⟨vs,h1,h2⟩:=h
 ⟨vs,h1.ch c a (by simp),h2.ch c b⟩
theorem Ec{l:List Let}(h:∃ bs:List Nat,OwnS g w (.n 51 0) false 159 1 x (bs.map (pt · 0))/\Lets g w bs l)(c:Cg B T g w g' w')(b:Tg.z∉T:=by simp)(a:Tg.n 51 0∉T:=by simp):∃ bs:List Nat,OwnS g' w' (.n 51 0) false 159 1 x (bs.map (pt · 0))/\Lets g' w' bs l :=
 let ⟨bs,h1,h2⟩:=h
 ⟨bs,h1.ch c a (by simp),h2.ch c b⟩
theorem BA{a:Nat->S3}{f:Nat->Acc}(h:∀ j,j<5->FSv g w (a j) (f j).vs)(c:Cg B T g w g' w')(d:Tg.z∉T:=by simp):∀ j,j<5->FSv g' w' (a j) (f j).vs:=λj b=>(h j b).ch c d
theorem Pends.snoc{d:List Value}{v:Value}{q:Pend}(h:Pends g w nb d l)(f:KL g w nb v q):Pends g w nb (d++[v]) (l++[q]):=by
 refine⟨by simp[h.len],λk c m a b=>?_⟩;by_cases e:k<d.length
 .rw[mK e]at a
  rw[mK (by rw[<- h.len];exact e)]at b
  exact h.at_ k c m a b
 .rw[mM (by omega)]at a
  rw[mM (by rw[<- h.len];omega),<- h.len]at b
  cases hx:k-d.length with
  | zero=>rw[hx]at a b;simp at a b;subst a b;exact f
  | succ n=>rw[hx]at a;simp at a
theorem OwnS.num{a:Bool}{l:List Cmd}(h:OwnS g w τ a e 5 x (cmL l)):x.n=l.length:=by have:=h.len;rw[BH]at this;omega
theorem OwnS.rc{l:List Cmd}(h:OwnS g w τ true e 5 x (cmL l)):Rc g w x l:=by
 have a:=h.num;rcases h.ex with⟨h1,h2,h3⟩|⟨b,cur,h1,h2,h3,h4,h5,h6,h7,h8⟩
 .exact⟨a,by omega,λ_=>h3,.inl (j' (by omega))⟩
 .refine⟨a,h3,λh=>(by rw[h1]at h;cases h),.inr ⟨b,0,h1,rl h2,λj u c=>?_,.inr ?_⟩⟩
  .obtain⟨b',hb',_,hc⟩:=h.cell c;rw[h1]at hb'
   simp only[Y',Addr.mk.injEq,and_true]at hb';subst hb';rw[na];exact hc
  .rw[h8,BH];simp;omega
end
end
end Go.Proofs.YtcjcngceghfoeaaGreatDoor
