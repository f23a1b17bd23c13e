/- Part 3 of the walk. -/
import Derived.Great.BuildSlice
import Derived.Test.YthkjeoamjgnpoaaGreatDoorZ2
set_option maxRecDepth 100000
set_option maxHeartbeats 4000000
open Go.Proofs.Tryz
set_option linter.unusedVariables false
namespace Go.Proofs.YthkjeoamjgnpoaaGreatDoor
section
section
structure Bal where
 r:Int
 n:Int
theorem Bal.eq_iff(a b:Bal):(a.r=b.r/\a.n=b.n)↔a=b:=by
 cases a;cases b;simp
instance:DecidableEq Bal:=λa b=>decidable_of_iff _ (Bal.eq_iff a b)
structure Cmd where
 k:Int
 c:Int
 s:Int
 n:Int
 v:Int
theorem Cmd.eq_iff(a b:Cmd):(a.k=b.k/\a.c=b.c/\a.s=b.s/\a.n=b.n/\a.v=b.v)↔a=b:=by
 cases a;cases b;simp
instance:DecidableEq Cmd:=λa b=>decidable_of_iff _ (Cmd.eq_iff a b)
structure Vt where
 bt:Int
 b:Bal
 w:Cmd
theorem Vt.eq_iff(a b:Vt):(a.bt=b.bt/\a.b=b.b/\a.w=b.w)↔a=b:=by
 cases a;cases b;simp
instance:DecidableEq Vt:=λa b=>decidable_of_iff _ (Vt.eq_iff a b)
instance:Inhabited Vt:=⟨⟨0,⟨0,0⟩,⟨0,0,0,0,0⟩⟩⟩
structure Acc where
 p:Bal
 vs:List Vt
def Bal.lt(a b:Bal):Prop:=a.r<b.r\/(a.r=b.r/\a.n<b.n)
instance (a b:Bal):Decidable (a.lt b):=by unfold Bal.lt;exact inferInstance
def Bal.key(a:Bal):Int:=5*a.r+a.n
def Ac(a:Bal):Prop:=(1<=a.r/\a.r<=65536)/\0<=a.n/\a.n<=4
instance (a:Bal):Decidable (Ac a):=by unfold Ac;exact inferInstance
def Cmd.e(c:Cmd):Int:=Bi c.k c.c c.s c.n c.v
def Ah(v:Vt):Prop:=(0<=v.bt/\v.bt<=39)/\Ac v.b/\v.w.e=0
instance (v:Vt):Decidable (Ah v):=by unfold Ah;exact inferInstance
def Ap(a:Bal):Prop:=Ac a\/(a.r=0/\a.n=0)
instance (a:Bal):Decidable (Ap a):=by unfold Ap;exact inferInstance
def BM:List Vt->Prop
 | []=>True
 | u::us=>(∀ v∈us,u.bt<v.bt)/\BM us
def Vc:(l:List Vt)->Decidable (BM l)
 | []=>isTrue trivial
 | u::us=>@instDecidableAnd _ _ inferInstance (Vc us)
instance (l:List Vt):Decidable (BM l):=Vc l
def Ag(a:Acc):Prop:=Ap a.p/\(∀ v∈a.vs,Ah v/\¬ a.p.lt v.b)/\BM a.vs
instance (a:Acc):Decidable (Ag a):=by unfold Ag;exact inferInstance
variable{a b:Bal}{l:List Vt}{v:Vt}
theorem Fc(c:Ap a)(d:Ap b):a.lt b↔a.key<b.key:=by
 unfold Ap Ac at c d;unfold Bal.lt Bal.key;omega
theorem DL(c:Ap a)(d:Ap b)(h:a.key=b.key):a=b:=by
 unfold Ap Ac at c d;unfold Bal.key at h;exact(Bal.eq_iff a b).1 (by omega)
theorem Ac.pr(h:Ac a):Ap a:=.inl h
theorem Ac.pos(h:Ac a):5<=a.key:=by unfold Ac at h;unfold Bal.key;omega
def F5(a:Acc):Int:=if Ag a then 0 else 5
def Cn(a:Acc)(b:Bal):Int:=if ¬ Ag a then 5 else if ¬ Ac b then 2 else if b.lt a.p then 7 else 0
def Bb(a:Acc)(v:Vt):Int:=if ¬ Ag a then 5 else if ¬ Ah v then 2 else if v.b.lt a.p then 7 else 0
def Bn:List Vt->Vt->List Vt
 | [],v=>[v]
 | u::us,v=>if u.bt<v.bt then u::Bn us v else if u.bt=v.bt then v::us else v::u::us
theorem BA{u:Vt}(h:BM l):u∈Bn l v↔u=v\/(u∈l/\u.bt≠v.bt):=by
 induction l with
 | nil=>simp[Bn]
 | cons x xs b =>
  obtain⟨c,a⟩:=h;have b:=b a;rw[Bn];split
  .rename_i h1
   rw[mZ,b];constructor
   .rintro(rfl|rfl|⟨h2,h3⟩)
    .exact .inr ⟨M',by omega⟩
    .exact .inl rfl
    .exact .inr ⟨I' _ h2,h3⟩
   .rintro(rfl|⟨h2,h3⟩)
    .exact .inr (.inl rfl)
    .rcases mZ.1 h2 with rfl|h2
     .exact .inl rfl
     .exact .inr (.inr ⟨h2,h3⟩)
  .split
   .rename_i h1 h2
    rw[mZ];constructor
    .rintro(rfl|h3)
     .exact .inl rfl
     .have:=c u h3;exact .inr ⟨I' _ h3,by omega⟩
    .rintro(rfl|⟨h3,h4⟩)
     .exact .inl rfl
     .rcases mZ.1 h3 with rfl|h3
      .exact absurd h2 h4
      .exact .inr h3
   .rename_i h1 h2
    rw[mZ];constructor
    .rintro(rfl|h3)
     .exact .inl rfl
     .rcases mZ.1 h3 with rfl|h4
      .exact .inr ⟨h3,h2⟩
      .have:=c u h4;exact .inr ⟨h3,by omega⟩
    .rintro(rfl|⟨h3,h4⟩)
     .exact .inl rfl
     .exact .inr h3
theorem J6(v:Vt)(h:BM l):BM (Bn l v):=by
 induction l with
 | nil=>exact⟨λu b=>(Q' b).elim,trivial⟩
 | cons x xs ih =>
  obtain⟨c,a⟩:=h;rw[Bn];split
  .rename_i h1
   refine⟨λu b=>?_,ih a⟩;rcases(BA a).1 b with rfl|⟨h2,_⟩
   .exact h1
   .exact c u h2
  .split
   .rename_i h1 h2
    exact⟨λu b=>by have:=c u b;omega,a⟩
   .rename_i h1 h2
    refine⟨λu b=>?_,c,a⟩;rcases mZ.1 b with rfl|h3
    .omega
    .have:=c u h3;omega
def BR:List Vt->Option Vt->Option Vt
 | [],o=>o
 | v::l,none=>BR l (some v)
 | v::l,some u=>if u.b.lt v.b then BR l (some v)else BR l (some u)
theorem RV(l:List Vt)(u:Vt)(k:∀ v∈l,Ap v.b)(f:Ap u.b):∃ x,BR l (some u)=some x/\(x=u\/x∈l)/\u.b.key<=x.b.key/\∀ v∈l,v.b.key<=x.b.key:=by
 induction l generalizing u with
 | nil=>exact⟨u,rfl,.inl rfl,mT _,λ_ h=>by cases h⟩
 | cons v l ih =>
  have i:=k v M';have j:∀ x∈l,Ap x.b:=λx hx=>k x (I' _ hx);rw[BR];split
  .rename_i h1
   have a:=(Fc f i).1 h1;obtain⟨x,e,hx,c,d⟩:=ih v j i;refine⟨x,e,?_,by omega,?_⟩
   .rcases hx with rfl|hx
    .exact .inr M'
    .exact .inr (I' _ hx)
   .intro y hy;rcases mZ.1 hy with rfl|hy
    .exact c
    .exact d y hy
  .rename_i h1
   have a:¬ u.b.key<v.b.key:=λg=>h1 ((Fc f i).2 g);obtain⟨x,e,hx,c,d⟩:=ih u j f;refine⟨x,e,?_,c,?_⟩
   .rcases hx with rfl|hx
    .exact .inl rfl
    .exact .inr (I' _ hx)
   .intro y hy;rcases mZ.1 hy with rfl|hy
    .omega
    .exact d y hy
theorem Lr(l:List Vt)(a:∀ v∈l,Ap v.b):(l=[]/\BR l none=none)\/∃ x,BR l none=some x/\x∈l/\∀ v∈l,v.b.key<=x.b.key:=by
 cases l with
 | nil=>exact .inl ⟨rfl,rfl⟩
 | cons v l =>
  right;obtain⟨x,e,hx,c,d⟩:=RV l v (λx hx=>a x (I' _ hx)) (a v M');refine⟨x,e,?_,?_⟩
  .rcases hx with rfl|hx
   .exact M'
   .exact I' _ hx
  .intro y hy;rcases mZ.1 hy with rfl|hy
   .exact c
   .exact d y hy
def Ae(l:List Vt)(s:Int):List Vt:=l.filter λv=>decide (v.bt=s)
theorem AM{s:Int}:v∈Ae l s↔v∈l/\v.bt=s:=by simp[Ae]
def BZ(ls:List (List Vt))(s:Int):Int:=if ¬ (0<=s/\s<=39)then 2 else if ∀ l∈ls,∀ v∈l,Ah v then 0 else 5
def Eh(ls:List (List Vt))(s:Int):Option Vt:=BR (Ae ls.flatten s) none
def BK(l:List Vt)(v:Vt):Nat:=l.countP λu=>decide (u=v)
def Ho(l:List Vt)(m:Nat):Option Vt:=l.find? λv=>decide (m<2*BK l v)
end
end
section
open Go.RowKit
section
def vtC(v:Vt):List Value:=[.int .i64 v.bt,.int .i64 v.b.r,.int .i64 v.b.n,.int .i64 v.w.k,.int .i64 v.w.c,.int .i64 v.w.s,.int .i64 v.w.n,.int .i64 v.w.v]
def vtA(v:Vt):Array Value:=(vtC v).toArray
theorem CB(v:Vt):(vtC v).length=8:=rfl
theorem fQ(v:Vt):∀ u∈vtC v,u.oneCell'=true:=by
 intro u a;simp only[vtC,mZ,Q',or_false]at a;rcases a with rfl|rfl|rfl|rfl|rfl|rfl|rfl|rfl<;>rfl
def vtL(l:List Vt):List Value:=l.flatMap vtC
theorem Nc(v:Vt)(l:List Vt):vtL (v::l)=vtC v++vtL l:=rfl
theorem Uk(l m:List Vt):vtL (l++m)=vtL l++vtL m:=by simp[vtL]
theorem De(l:List Vt):(vtL l).length=l.length*8:=by
 induction l with
 | nil=>rfl
 | cons v l ih=>rw[Nc,G',ih,CB,nK];omega
theorem Vx(l:List Vt):∀ u∈vtL l,u.oneCell'=true:=by
 intro u a;obtain⟨v,_,b⟩:=pW.1 a;exact fQ v u b
theorem fR(l:List Vt)(i:Nat)(v:Vt)(h:l[i]?=some v)(j:Nat)(u:Value)(a:(vtC v)[j]?=some u):(vtL l)[8*i+j]?=some u:=by
 induction l generalizing i with
 | nil=>simp at h
 | cons x l ih =>
  have b:j<8:=by have:=(V'.1 a).1;rwa [CB]at this
  rw[Nc];cases i with
  | zero =>
   simp at h;subst h;rw[nk (by rw[CB];omega)];simpa using a
  | succ i =>
   rw[nr (by rw[CB];omega),CB,show 8*(i+1)+j-8=8*i+j by omega];exact ih i (by simpa using h)
theorem bX(l:List Vt)(m:Nat)(u:Value)(h:(vtL l)[m]?=some u):∃ v,l[m/8]?=some v/\(vtC v)[m%8]?=some u:=by
 induction l generalizing m with
 | nil=>simp[vtL]at h
 | cons x l ih =>
  rw[Nc]at h
  rcases nU m 8 with hm|hm
  .rw[nk (by rw[CB];omega)]at h
   exact⟨x,by rw[Nat.div_eq_of_lt hm];rfl,by rwa [qP hm]⟩
  .rw[nr (by rw[CB];omega),CB]at h
   obtain⟨v,a,b⟩:=ih (m-8) h;refine⟨v,?_,?_⟩
   .rw[show m/8=(m-8)/8+1 by omega];simpa using a
   .rw[show m%8=(m-8)%8 by omega];exact b
structure Sv(w:World)(x:Value)(l:List Vt):Prop where
 ex:∃ a cap,x=.slice a l.length cap/\l.length<=cap/\(a=none->cap=0)/\(l=[]\/∃ b off,a=some ⟨b,off,none⟩/\b<w.heap.size/\∀ i v,l[i]?=some v->w.rangeAt b (off+8*i) (vtC v))
 len:l.length<=2199023255488
variable{B base e n:Nat}{P:Program}{Q:Exit->Act->World->Prop}{a:Act}{l:List Vt}{ops:Array Oper}{w w':World}{x:Value}
theorem Sv.af(h:Sv w x l)(e:Bw w w'):Sv w' x l:=by
 obtain⟨⟨a,c,rfl,g,n,d⟩,f⟩:=h;refine⟨⟨a,c,rfl,g,n,?_⟩,f⟩;rcases d with d|⟨b,off,ha,hbs,hcell⟩
 .exact .inl d
 .exact .inr ⟨b,off,ha,X' hbs e.size,λi v k j u m=>(e.cell (p:=⟨b,off+8*i+j,none⟩) hbs).trans (hcell i v k j u m)⟩
theorem Sv.nil(w:World):Sv w (.slice none 0 0) []:=⟨⟨none,0,rfl,by simp,by simp,.inl rfl⟩,by simp⟩
theorem Sv.shape(h:Sv w x l):∃ a cap,x=.slice a l.length cap:=by
 obtain⟨⟨a,cap,e,_⟩,_⟩:=h;exact⟨a,cap,e⟩
theorem Sv.spot{a:Option Addr}{c:Nat}(h:Sv w (.slice a n c) l)(i:Nat)(v:Vt)(f:l[i]?=some v):∃ b off,a=some ⟨b,off,none⟩/\b<w.heap.size/\w.rangeAt b (off+8*i) (vtC v):=by
 obtain⟨⟨j,d,e,k,m,g⟩,_⟩:=h;simp only[Value.slice.injEq]at e;obtain⟨rfl,rfl,rfl⟩:=e;rcases g with rfl|⟨b,off,rfl,hb,hcell⟩
 .simp at f
 .exact⟨b,off,rfl,hb,hcell i v f⟩
theorem Sv.ov(h:w.ownsRow base e 8 x l.length (vtL l))(f:l.length<=2199023255488):Sv w x l:=by
 refine⟨?_,f⟩;rcases h.2 with⟨rfl,h0⟩|⟨g,cap,cur,rfl,_,hg,hn,_,hcs,ht⟩
 .exact⟨none,0,by rw[h0],by omega,λ_=>rfl,.inl (Y' h0)⟩
 .refine⟨_,cap,rfl,hn,by simp,.inr ⟨g,0,rfl,(U'.1 hg).1,λi v c j u d=>?_⟩⟩;have b:=h.cells (g:=g) rfl (8*i+j) u (fR l i v c j u d);have a:(⟨g,0,none⟩:Addr).add (8*i+j)=⟨g,8*i+j,none⟩:=by unfold Addr.add;split<;>simp_all
  rw[a]at b
  rw[nM];exact b
theorem NH(w:World)(c t s e:Nat)(z:Value)(C:P.underlying t=some (.slice e))(h:(P.info? e).map (λi=>(i.zero,i.size,i.bytes))=some (some z,8,64))(r:z.cells.size=8)(x:Value)(l:List Vt)(d:w.ownsRow c e 8 x l.length (vtL l))(u:Value)(m:List Vt)(M:Sv w u m)(B:l.length+m.length<=2199023255552)(g:c<=w.heap.size) :
  ∃ v' w',(Builtin.append_ #[t,t] s #[x,u]).run P w=.ok v' w'/\w'.ownsRow c e 8 v' (l++m).length (vtL (l++m))/\w.grownBy w' x.ownBlock:=by
 obtain⟨i,y,N,q,o⟩:=info_parts h;obtain⟨⟨a,n,rfl,O,J,D⟩,_⟩:=M;cases a with
 | none =>
  have p:=J rfl;subst p;have I:m=[]:=Y' (by omega);subst I;refine⟨x,w,?_,by simpa using d,⟨rfl,rfl,rfl,A' _,λ_ _ _=>rfl⟩⟩;exact run_append_owned_none (P:=P) (w:=w) c t s e i 8 C y x l.length _ d
 | some ad =>
  have f:∀ j u,(vtL m)[j]?=some u->w.cell? (ad.add j)=some u:=by
   intro j u A;rcases D with rfl|⟨b,off,hab,_,hcell⟩
   .simp[vtL]at A
   .obtain rfl:ad=⟨b,off,none⟩:=by simpa using hab
    obtain⟨v,E,F⟩:=bX m j u A;have k:(⟨b,off,none⟩:Addr).add j=⟨b,off+j,none⟩:=by unfold Addr.add;split<;>simp_all
    rw[k];have G:=hcell (j/8) v E (j%8) u F
    rwa [show off+8*(j/8)+j%8=off+j by omega]at G
  obtain⟨v',w',L,K,H,_⟩:=run_append_own (P:=P) w c t s e i z 8 64 C y N q o r (by decide) x l.length _ d ad m.length n (vtL m) (De m) f (Vx m)
   (by unfold maxLen;omega) (by omega) g
  exact⟨v',w',L,by rw[Uk,G'];exact K,H⟩
theorem B1(w:World){n:Array Oper}{c:List Oper}{o:Oper}{a:Act}{Q:Exit->Act->World->Prop}(p:o.guard=none)(s x:Operand)(t:TypeId)(y:o.op=.call { callee:=.builtin .append,args:=#[s,x],argTypes:=#[t,t] })(b e:Nat)(z:Value)(B:P.underlying t=some (.slice e))(f:(P.info? e).map (λi=>(i.zero,i.size,i.bytes))=some (some z,8,64))(q:z.cells.size=8)(v u:Value)(A:a.eval s=v)(D:a.eval x=u)(l m:List Vt)(j:w.ownsRow b e 8 v l.length (vtL l))(C:Sv w u m)(g:l.length+m.length<=2199023255552)(d:b<=w.heap.size)(h:∀ v' w',w'.ownsRow b e 8 v' (l++m).length (vtL (l++m))->w.grownBy w' v.ownBlock->wpList P n Q c (a.put o.dst v') w'):wpList P n Q (o::c) a w:=by
 refine wpList_plain p λK r=>?_;obtain⟨v',w',k,E,F⟩:=NH (P:=P) w b t o.type e z B f q v l j u m C g d;unfold Oper.wp execOp;simp only[y,resolve,invoke,builtin,Sem.run_bind,Sem.run_pure,Result.andThen_ok,pV,nO,oN,A,D,k];exact r _ _ (h v' w' E F)
theorem Sv.one(w:World)(v:Vt)(e:TypeId){g:Nat}(b:g=w.heap.size):Sv (w.alloc (.cells (vtA v) e)) (.slice (some ⟨g,0,none⟩) 1 1) [v]:=by
 subst b;refine⟨⟨_,1,rfl,A' _,by simp,.inr ⟨w.heap.size,0,rfl,by simp,λi u a j x c=>?_⟩⟩,by simp⟩;cases i with
 | zero =>
  simp at a;subst a;rw[cell_of_row _ _ (0+8*0+j) _ _ _ (heap_alloc_new w (.cells (vtA v) e))];simpa[vtA]using c
 | succ i=>simp at a
def zVt:Value:=.agg zV8
theorem Fb:(prog.info? 181).map (λi=>(i.zero,i.size,i.bytes))=some (some zVt,8,64):=by kernel_rfl
theorem aN(v:Vt):(prog.info? 181).map (·.size)=some (vtC v).length:=by show _=some 8;kernel_rfl
theorem S4:prog.elem 122=181:=by kernel_rfl
theorem TU(w:World):(Go.sizeOf 181).run prog w=.ok 8 w:=by
 obtain⟨i,b,_,a,_⟩:=info_parts Fb;simp[sizeOf,typeInfo,b,a]
theorem JJ(b o n c:Nat)(i:Nat)(a:i<n)(w:World):(Instr.indexAt 122 (.slice (some ⟨b,o,none⟩) n c) (.int .i64 (i:Int))).run prog w=.ok (.pointer (some ⟨b,o+8*i,none⟩)) w:=by
 rw[run_indexAt_slice (P:=prog) w 122 _ n c .i64 _ underlying122,if_pos ⟨by omega,by omega⟩,S4,TU];simp[Result.andThen,Addr.add_mid,Nat.mul_comm]
theorem CZ{l:List Oper}(h:wpList P ops Q l a w):wpList P ops Q l a w:=h
theorem FX(l:List Vt)(k:Nat)(v:Vt)(h:l[k]?=some v):l.take (k+1)=l.take k++[v]:=by
 obtain⟨a,e⟩:=V'.1 h;rw[nu a,e]
def acA(p:Bal)(x:Value):Array Value:=#[.int .i64 p.r,.int .i64 p.n,x]
theorem XH:(prog.info? 121).map (·.size)=some 2:=by kernel_rfl
theorem Tz(h:Below B w w'){b o:Nat}{a:List Value}(c:b<B)(d:w.rangeAt b o a):w'.rangeAt b o a :=
 λj v e=>(h.cell (p:=⟨b,o+j,none⟩) c).trans (d j v e)
theorem ER{a:World}(h:Below B a w){g:Nat}(c:B<=g)(b:Array Value):Below B a (w.setRow g b) :=
 h.trans ⟨rfl,rfl,rfl,by simp,λk d=>setRow_other w g k b (by omega)⟩
theorem fX{S:World->Prop}{op:Oper}(e:Region.wanted op (yielded ops a.tmps)=true)(x:Operand)(d:op.op=.load 181 x)(g:Nat)(f:a.eval x=.pointer (some ⟨g,0,none⟩))(v:Vt)(c:∀ w,S w->w.heap[g]?=some (.cells (vtA v) 181)):YieldsIf prog ops S op (.agg (vtA v)) a :=
 .inl ⟨e,λw b=>by
  unfold execOp;simp only[d,f,Instr.loadAt,Instr.sureAddr,Sem.run_bind,Sem.run_pure,Result.andThen_ok,run_loadVar_row w g 181 181 _ (0,0) _ (c w b) underlying181 rfl (show _=some (vtA v).size from aN v)]⟩
theorem kW{P:Program}{f:Func}{p u v:Tmp}{c:TypeId}(h:f.results=#[.cell p c,.tmp u,.tmp v])(a:Array Value)(w:World)(g:Nat)(t:TypeId)(b:Array Value)(i:Nat × Nat)(d:TypeDesc)(m:a.getD p undef=.pointer (some ⟨g,0,none⟩))(k:w.heap[g]?=some (.cells b t i))(n:P.underlying c=some d)(j:(match d with|.struct _|.array _ _=>true|_=>false)=true)(l:(P.info? c).map (·.size)=some b.size) :
  (results f a).run P w=.ok (.tuple #[.agg b,a.getD u undef,a.getD v undef]) w:=by
 have e:a[p]?.getD undef=.pointer (some ⟨g,0,none⟩):=by simpa using m
 simp[results,h,e,asAddr,run_loadVar_row w g t c b i d k n j l]
theorem Tv{a:Nat}{v:Value}{b:List Value}(h:w.ownsRow base e a v n b)(c:∀ k,v.ownBlock=some k->w'.heap[k]?=w.heap[k]?):w'.ownsRow base e a v n b:=by
 refine⟨h.1,?_⟩;rcases h.2 with h2|⟨g,cap,cur,hv,hb,hg,hr⟩
 .exact .inl h2
 .exact .inr ⟨g,cap,cur,hv,hb,(c g (by rw[hv];rfl)).trans hg,hr⟩
theorem jG(v:Vt):(prog.info? 181).map (·.size)=some (vtA v).size:=by show _=some 8;kernel_rfl
theorem gh{P:Program}{f:Func}{p u:Tmp}{c:TypeId}(h:f.results=#[.cell p c,.tmp u])(a:Array Value)(w:World)(g:Nat)(t:TypeId)(b:Array Value)(i:Nat × Nat)(d:TypeDesc)(m:a.getD p undef=.pointer (some ⟨g,0,none⟩))(k:w.heap[g]?=some (.cells b t i))(n:P.underlying c=some d)(j:(match d with|.struct _|.array _ _=>true|_=>false)=true)(l:(P.info? c).map (·.size)=some b.size) :
  (results f a).run P w=.ok (.tuple #[.agg b,a.getD u undef]) w:=by
 have e:a[p]?.getD undef=.pointer (some ⟨g,0,none⟩):=by simpa using m
 simp[results,h,e,asAddr,run_loadVar_row w g t c b i d k n j l]
def cmC(c:Cmd):Array Value:=cmA c.k c.c c.s c.n c.v
theorem dh(a b c d:Int):∀ w,(binOp .eql 121 (.agg #[.int .i64 a,.int .i64 b]) (.agg #[.int .i64 c,.int .i64 d])).run prog w=.ok (.bool (decide (a=c/\b=d))) w:=by
 intro w;rw[run_eql_struct,run_equalIn_agg w 9999 _ _ _ (by kernel_rfl) (by kernel_rfl)];unfold Program.fieldsOf;rw[underlying121];have e:=underlying3;simp[Op.eqFields,go_sem,e]
 repeat' split
 all_goals simp_all
theorem Y2(a b c d e f g h i j k l m n o p:Int):∀ w,(binOp .eql 181 (.agg #[.int .i64 a,.int .i64 b,.int .i64 c,.int .i64 d,.int .i64 e,.int .i64 f,.int .i64 g,.int .i64 h]) (.agg #[.int .i64 i,.int .i64 j,.int .i64 k,.int .i64 l,.int .i64 m,.int .i64 n,.int .i64 o,.int .i64 p])).run prog w=.ok (.bool (decide (a=i/\b=j/\c=k/\d=l/\e=m/\f=n/\g=o/\h=p))) w:=by
 intro w;rw[run_eql_struct,run_equalIn_agg w 9999 _ _ _ (by kernel_rfl) (by kernel_rfl)];unfold Program.fieldsOf;rw[underlying181];have q:=underlying3;have r:=underlying121;have s:=underlying24;simp[Op.eqFields,go_sem,q,r,s]
 repeat' split
 all_goals simp_all
end
end
section
section
def Nu(l:List Vt)(v:Vt):Nat->List Vt
 | 0=>[]
 | k+1=>Nu l v k++(if(k:Int)=v.bt then[v]else Ae l k)
variable{a b l:List Vt}{v:Vt}
theorem Rq(c:BM a)(d:BM b)(h:∀ x∈a,∀ y∈b,x.bt<y.bt):BM (a++b):=by
 induction a with
 | nil=>exact d
 | cons x xs ih =>
  refine⟨λu hu=>?_,ih c.2 (λy e=>h y (I' _ e))⟩;rcases P'.1 hu with hu|hu
  .exact c.1 u hu
  .exact h x M' u hu
theorem Ky(h:BM l)(q:Vt->Bool):BM (l.filter q):=by
 induction l with
 | nil=>trivial
 | cons x xs ih =>
  rw[List.filter_cons];split
  .exact⟨λu a=>h.1 u (pO.1 a).1,ih h.2⟩
  .exact ih h.2
theorem az(c:BM a)(d:BM b)(h:∀ u,u∈a↔u∈b):a=b:=by
 induction a generalizing b with
 | nil =>
  cases b with
  | nil=>rfl
  | cons y ys=>exact absurd ((h y).2 M') (Q')
 | cons x xs ih =>
  cases b with
  | nil=>exact absurd ((h x).1 M') (Q')
  | cons y ys =>
   have f:x=y:=by
    rcases mZ.1 ((h x).1 M')with e|e
    .exact e
    .rcases mZ.1 ((h y).2 M')with e'|e'
     .exact e'.symm
     .have:=c.1 y e';have:=d.1 x e;omega
   subst f;rw[ih c.2 d.2 (λu=>?_)];constructor
   .intro hu;rcases mZ.1 ((h u).1 (I' _ hu))with rfl|e
    .have:=c.1 u hu;omega
    .exact e
   .intro hu;rcases mZ.1 ((h u).2 (I' _ hu))with rfl|e
    .have:=d.1 u hu;omega
    .exact e
theorem Q6(k:Nat)(u:Vt):u∈Nu l v k↔(0<=u.bt/\u.bt<k)/\(u=v\/(u∈l/\u.bt≠v.bt)):=by
 induction k with
 | zero=>simp[Nu];omega
 | succ k ih =>
  rw[Nu,P',ih];by_cases a:(k:Int)=v.bt
  .rw[if_pos a,D'];constructor
   .rintro(⟨h1,h2⟩|rfl)
    .exact⟨by omega,h2⟩
    .exact⟨by omega,.inl rfl⟩
   .rintro⟨h1,rfl|⟨h2,h3⟩⟩
    .exact .inr rfl
    .exact .inl ⟨by omega,.inr ⟨h2,h3⟩⟩
  .rw[if_neg a,AM];constructor
   .rintro(⟨h1,h2⟩|⟨h1,h2⟩)
    .exact⟨by omega,h2⟩
    .exact⟨by omega,.inr ⟨h1,by omega⟩⟩
   .rintro⟨h1,rfl|⟨h2,h3⟩⟩
    .exact .inl ⟨by omega,.inl rfl⟩
    .by_cases h4:u.bt=k
     .exact .inr ⟨h2,h4⟩
     .exact .inl ⟨by omega,.inr ⟨h2,h3⟩⟩
theorem JD(h:BM l)(s:Int):(Ae l s).length<=1:=by
 match e:Ae l s with
 | []=>simp
 | [_]=>simp
 | x::y::r =>
  have a:BM (Ae l s):=Ky h _;have b:=(AM.1 (show x∈Ae l s by rw[e];simp)).2;have c:=(AM.1 (show y∈Ae l s by rw[e];simp)).2;rw[e]at a
  have:=a.1 y M';omega
theorem YG(v:Vt)(h:BM l)(k:Nat):(Nu l v k).length<=k:=by
 induction k with
 | zero=>simp[Nu]
 | succ k ih =>
  rw[Nu,G'];have:=JD h k;split
  .simp;omega
  .omega
theorem VZ(v:Vt)(h:BM l)(k:Nat):BM (Nu l v k):=by
 induction k with
 | zero=>trivial
 | succ k ih =>
  rw[Nu];refine Rq ih ?_ ?_
  .split
   .exact⟨λu a=>(Q' a).elim,trivial⟩
   .exact Ky h _
  .intro x hx y hy;have b:=((Q6 k x).1 hx).1;split at hy
   .obtain rfl:y=v:=by simpa using hy
    omega
   .have:=(AM.1 hy).2;omega
theorem dA(k:Nat)(h:BM l)(b:∀ u∈l,0<=u.bt/\u.bt<k)(c:0<=v.bt/\v.bt<k):Nu l v k=Bn l v:=by
 refine az (VZ v h k) (J6 v h) λu=>?_;rw[Q6,BA h];constructor
 .exact λa=>a.2
 .rintro(rfl|⟨h1,h2⟩)
  .exact⟨c,.inl rfl⟩
  .exact⟨b u h1,.inr ⟨h1,h2⟩⟩
theorem Kl(l:List Vt)(u:Vt)(s:Int):Ae (l++[u]) s=Ae l s++(if u.bt=s then[u]else[]):=by
 unfold Ae;rw[oY];by_cases h:u.bt=s<;>simp[h]
theorem Xm(a:List (List Vt))(j:Nat)(l:List Vt)(h:a[j]?=some l):(a.take (j+1)).flatten=(a.take j).flatten++l:=by
 obtain⟨b,e⟩:=V'.1 h;rw[nu b,e];simp
theorem DN(a b:List Vt)(s:Int):Ae (a++b) s=Ae a s++Ae b s:=by unfold Ae;rw[oY]
end
end
section
open Go.RowKit
section
structure Sac(w:World)(x:Value)(ac:List Acc):Prop where
 ex:∃ a cap,x=.slice a ac.length cap/\(ac=[]\/∃ b off,a=some ⟨b,off,none⟩/\b<w.heap.size/\∀ (i:Nat) (A:Acc),ac[i]?=some A->∃ y,w.rangeAt b (off+3*i) [.int .i64 A.p.r,.int .i64 A.p.n,y]/\Sv w y A.vs)
 len:ac.length<=3518437208780
variable{ac:List Acc}{s:Int}{w:World}{x:Value}
theorem Sac.af{f:World}(h:Sac w x ac)(e:Bw w f):Sac f x ac:=by
 obtain⟨⟨a,c,rfl,d⟩,g⟩:=h;refine⟨⟨a,c,rfl,?_⟩,g⟩;rcases d with d|⟨b,off,ha,hbs,hc⟩
 .exact .inl d
 .refine .inr ⟨b,off,ha,X' hbs e.size,λi A l=>?_⟩;obtain⟨y,j,k⟩:=hc i A l;exact⟨y,Tz e hbs j,k.af e⟩
theorem Sac.shape(h:Sac w x ac):∃ a cap,x=.slice a ac.length cap:=by
 obtain⟨⟨a,cap,e,_⟩,_⟩:=h;exact⟨a,cap,e⟩
theorem Sac.spot{a:Option Addr}{n c:Nat}(h:Sac w (.slice a n c) ac)(i:Nat)(A:Acc)(f:ac[i]?=some A):∃ b off y,a=some ⟨b,off,none⟩/\b<w.heap.size/\w.rangeAt b (off+3*i) [.int .i64 A.p.r,.int .i64 A.p.n,y]/\Sv w y A.vs:=by
 obtain⟨⟨j,d,e,g⟩,_⟩:=h;simp only[Value.slice.injEq]at e;obtain⟨rfl,rfl,rfl⟩:=e;rcases g with rfl|⟨b,off,rfl,hb,hc⟩
 .simp at f
 .obtain⟨y,h3,h4⟩:=hc i A f;exact⟨b,off,y,rfl,hb,h3,h4⟩
theorem iu:prog.elem 240=124:=by kernel_rfl
theorem jy(w:World):(Go.sizeOf 124).run prog w=.ok 3 w:=by
 have h:(prog.info? 124).map (·.size)=some 3:=by kernel_rfl
 cases hi:prog.info? 124 with
 | none=>rw[hi]at h;cases h
 | some i =>
  rw[hi]at h
  simp at h;simp[sizeOf,typeInfo,hi,h]
theorem WW(b o n c:Nat)(i:Nat)(a:i<n)(w:World):(Instr.indexAt 240 (.slice (some ⟨b,o,none⟩) n c) (.int .i64 (i:Int))).run prog w=.ok (.pointer (some ⟨b,o+3*i,none⟩)) w:=by
 rw[run_indexAt_slice (P:=prog) w 240 _ n c .i64 _ underlying240,if_pos ⟨by omega,by omega⟩,iu,jy];simp[Result.andThen,Addr.add_mid,Nat.mul_comm]
def D5(ac:List Acc)(s:Int):List Vt:=Ae (ac.map (·.vs)).flatten s
def CX(ac:List Acc)(s:Int):Int:=if ¬ ((0<=s/\s<=39)/\(1<=(ac.length:Int)/\(ac.length:Int)<=5))then 2 else if ¬ ∀ a∈ac,Ag a then 5 else if(Ho (D5 ac s) ac.length).isSome then 0 else 9
def CQ(ac:List Acc)(s:Int):Cmd:=if CX ac s=0 then((Ho (D5 ac s) ac.length).map (·.w)).getD ⟨0,0,0,0,0⟩else⟨0,0,0,0,0⟩
theorem D9(h:¬ ((0<=s/\s<=39)/\(1<=(ac.length:Int)/\(ac.length:Int)<=5))):CQ ac s=⟨0,0,0,0,0⟩/\CX ac s=2:=by
 have e:CX ac s=2:=if_pos h;exact⟨if_neg (by rw[e];decide),e⟩
theorem VF(h:(0<=s/\s<=39)/\(1<=(ac.length:Int)/\(ac.length:Int)<=5))(b:¬ ∀ a∈ac,Ag a):CQ ac s=⟨0,0,0,0,0⟩/\CX ac s=5:=by
 have e:CX ac s=5:=by unfold CX;rw[if_neg (λg=>g h),if_pos b]
 exact⟨if_neg (by rw[e];decide),e⟩
theorem XX(h:(0<=s/\s<=39)/\(1<=(ac.length:Int)/\(ac.length:Int)<=5))(b:∀ a∈ac,Ag a)(c:Ho (D5 ac s) ac.length=none):CQ ac s=⟨0,0,0,0,0⟩/\CX ac s=9:=by
 have e:CX ac s=9:=by unfold CX;rw[if_neg (λg=>g h),if_neg (λg=>g b),c];rfl
 exact⟨if_neg (by rw[e];decide),e⟩
theorem XY(h:(0<=s/\s<=39)/\(1<=(ac.length:Int)/\(ac.length:Int)<=5))(c:∀ a∈ac,Ag a){x:Vt}(b:Ho (D5 ac s) ac.length=some x):CQ ac s=x.w/\CX ac s=0:=by
 have e:CX ac s=0:=by unfold CX;rw[if_neg (λg=>g h),if_neg (λg=>g c),b];rfl
 exact⟨by unfold CQ;rw[if_pos e,b];rfl,e⟩
theorem ii{c:List Acc}(h:∀ a∈c,Ag a)(s:Int):(Ae (c.map (·.vs)).flatten s).length<=c.length:=by
 induction c with
 | nil=>simp[Ae]
 | cons a c ih =>
  have e:=JD (h a M').2.2 s;have f:=ih (λb d=>h b (I' _ d));simp only[nO,List.flatten_cons,nK];rw[DN,G'];omega
theorem Ud(ac:List Acc)(j:Nat)(a:Acc)(h:ac[j]?=some a):((ac.take (j+1)).map (·.vs)).flatten=((ac.take j).map (·.vs)).flatten++a.vs:=by
 obtain⟨b,e⟩:=V'.1 h;rw[nu b,e];simp
end
end
section
end
section
open Go.RowKit
section
def baA(b:Bal):Array Value:=#[.int .i64 b.r,.int .i64 b.n]
theorem OB(l:List Vt)(v:Vt):BM (l++[v])↔BM l/\∀ u∈l,u.bt<v.bt:=by
 induction l with
 | nil=>exact⟨λ_=>⟨trivial,λu hu=>(Q' hu).elim⟩,λ_=>⟨λu hu=>(Q' hu).elim,trivial⟩⟩
 | cons x xs ih =>
  show((∀ u∈xs++[v],x.bt<u.bt)/\BM (xs++[v]))↔((∀ u∈xs,x.bt<u.bt)/\BM xs)/\∀ u∈x::xs,u.bt<v.bt;rw[ih];constructor
  .rintro⟨h1,h2,h3⟩;refine⟨⟨λu hu=>h1 u (mV _ hu),h2⟩,λu hu=>?_⟩;rcases mZ.1 hu with rfl|hu
   .exact h1 v (mU _ M')
   .exact h3 u hu
  .rintro⟨⟨h1,h2⟩,h3⟩;refine⟨λu hu=>?_,h2,λu hu=>h3 u (I' _ hu)⟩;rcases P'.1 hu with hu|hu
   .exact h1 u hu
   .obtain rfl:u=v:=by simpa using hu
    exact h3 x M'
def Fs(a:Acc)(b:Bal):Bal:=if Cn a b=0 then b else⟨0,0⟩
def DW(a:Acc)(b:Bal):List Vt:=if Cn a b=0 then a.vs else[]
def BI(a:Acc)(v:Vt):Bal:=if Bb a v=0 then v.b else⟨0,0⟩
def Br(a:Acc)(v:Vt):List Vt:=if Bb a v=0 then Bn a.vs v else[]
def G8(ls:List (List Vt))(s:Int):Cmd:=if BZ ls s=0 then((Eh ls s).map (·.w)).getD ⟨0,0,0,0,0⟩else⟨0,0,0,0,0⟩
def DV(ls:List (List Vt))(s:Int):Bool:=if BZ ls s=0 then(Eh ls s).isSome else false
variable{l:List Vt}{ls:List (List Vt)}{s:Int}
theorem Mk(h:¬ (0<=s/\s<=39)):G8 ls s=⟨0,0,0,0,0⟩/\DV ls s=false/\BZ ls s=2:=by
 have e:BZ ls s=2:=if_pos h;exact⟨if_neg (by rw[e];decide),if_neg (by rw[e];decide),e⟩
theorem T8(h:0<=s/\s<=39)(a:¬ ∀ l∈ls,∀ v∈l,Ah v):G8 ls s=⟨0,0,0,0,0⟩/\DV ls s=false/\BZ ls s=5:=by
 have e:BZ ls s=5:=by unfold BZ;rw[if_neg (λg=>g h),if_neg a]
 exact⟨if_neg (by rw[e];decide),if_neg (by rw[e];decide),e⟩
theorem bz{j:Nat}(h:ls[j]?=some l)(b:∀ l∈ls.take j,∀ v∈l,Ah v)(c:∀ v∈l,Ah v):∀ l∈ls.take (j+1),∀ v∈l,Ah v:=by
 obtain⟨d,e⟩:=V'.1 h;rw[nu d,e];intro l' a;rcases P'.1 a with g|g
 .exact b l' g
 .obtain rfl:l'=l:=by simpa using g
  exact c
theorem bB{k:Nat}{u:Vt}(h:l[k]?=some u)(a:∀ v∈l.take k,Ah v)(b:Ah u):∀ v∈l.take (k+1),Ah v:=by
 rw[FX l k u h];intro v c;rcases P'.1 c with g|g
 .exact a v g
 .obtain rfl:v=u:=by simpa using g
  exact b
def AV(d:List Int)(s:Int):Prop:=d.length<=100000/\0<=s/\s<=(d.length:Int)
instance (d:List Int) (s:Int):Decidable (AV d s):=by unfold AV;exact inferInstance
def Db(d:List Int)(s:Int):Int:=if AV d s then 0 else 5
def Hq(d:List Int)(s:Int):List Int:=if AV d s then d else[]
def Io(d:List Int)(s:Int):Int:=if AV d s then(d.length:Int)else 0
def Gu(d:List Int)(s k:Int):Int:=if k<(d.length:Int)-s then s+k else(d.length:Int)
def Gt(d:List Int)(s k:Int):Int:=if ¬ AV d s then 5 else if k<0 then 2 else 0
def KA(d:List Int)(s k:Int):List Int:=if Gt d s k=0 then d.take (Gu d s k).toNat else[]
def KB(d:List Int)(s k:Int):Int:=if Gt d s k=0 then Gu d s k else 0
def tpA(x:Value)(s:Int):Array Value:=#[x,.int .i64 s]
theorem MV:(prog.info? 134).map (·.size)=some 2:=by kernel_rfl
theorem bJ(x:Option Addr)(n c:Nat)(s:Int):(#[.slice x n c,.int .i64 s]:Array Value).all (·.oneCell')=true:=by simp[Value.oneCell']
end
end
section
section
def Ef(b:List Int):List Int:=(b.length:Int)::b
def AP(b:List Int):List Int:=Ef b++(dig (Ef b)).take 4
theorem CE(b:List Int):(Ef b).length=b.length+1:=rfl
theorem Bh(b:List Int):(AP b).length=b.length+5:=by
 unfold AP;rw[G',CE,j',At];omega
def Bu(b:Bal):List Int:=1::(Ab b.r++Ab b.n)
def Bj(v:Vt):List Int:=2::(Ab v.bt++(Ab v.b.r++(Ab v.b.n++CO v.w.k v.w.c v.w.s v.w.n v.w.v)))
theorem Kr(b:Bal):(Bu b).length=9:=rfl
theorem GR(v:Vt):(Bj v).length=33:=rfl
theorem WJ(b:Bal):∀ x∈Bu b,0<=x/\x<256:=by
 intro x hx;rcases mZ.1 hx with rfl|hx
 .omega
 .rcases P'.1 hx with hx|hx
  .exact Aw _ x hx
  .exact Aw _ x hx
theorem Xv(v:Vt):∀ x∈Bj v,0<=x/\x<256:=by
 intro x hx;rcases mZ.1 hx with rfl|hx
 .omega
 .rcases P'.1 hx with hx|hx
  .exact Aw _ x hx
  .rcases P'.1 hx with hx|hx
   .exact Aw _ x hx
   .rcases P'.1 hx with hx|hx
    .exact Aw _ x hx
    .exact Fj _ _ _ _ _ x hx
variable{N k m n:Nat}{a b c:Acc}{all:List Acc}{bs:List (List Int)}{r:List Int}
theorem LS{b:List Int}(a:∀ x∈b,0<=x/\x<256)(c:b.length<=255):∀ x∈Ef b,0<=x/\x<256:=by
 intro x hx;rcases mZ.1 hx with rfl|hx
 .omega
 .exact a x hx
theorem Mt{b:List Int}(a:∀ x∈b,0<=x/\x<256)(c:b.length<=255):∀ x∈AP b,0<=x/\x<256:=by
 intro x hx;rcases P'.1 hx with hx|hx
 .exact LS a c x hx
 .exact Dv _ x (nm hx)
def cX(l:List Int):Cmd:=⟨Ad l 0,Ad l 4,Ad l 8,Ad l 12,Ad l 16⟩
def Gp(b:List Int):Bal:=⟨Ad b 1,Ad b 5⟩
def Ga(b:List Int):Vt:=⟨Ad b 1,⟨Ad b 5,Ad b 9⟩,cX (b.drop 13)⟩
def DR(a:Acc)(b:List Int):Option Acc :=
 if b.length=9/\b.getD 0 0=1 then(if Cn a (Gp b)=0 then some ⟨Gp b,a.vs⟩else none)
 else if b.length=33/\b.getD 0 0=2 then(if Cl (b.drop 13)=0 then(if Bb a (Ga b)=0 then some ⟨(Ga b).b,Bn a.vs (Ga b)⟩else none)else none)
 else none
def Ca(r:List Int)(a:Acc):Option (Acc × Nat) :=
 if r=[]then none
 else if r.length<(r.getD 0 0).toNat+5 then none
 else if(dig (r.take ((r.getD 0 0).toNat+1))).take 4≠(r.drop ((r.getD 0 0).toNat+1)).take 4 then none
 else(DR a ((r.take ((r.getD 0 0).toNat+1)).drop 1)).map λx=>(x,(r.getD 0 0).toNat+5)
def a0:Acc:=⟨⟨0,0⟩,[]⟩
def Ki(r:List Int)(p:Nat × Acc):Nat × Acc:=match Ca (r.drop p.1) p.2 with
 | none=>p
 | some (c,m)=>(p.1+m,c)
def itR(r:List Int):Nat->Nat × Acc
 | 0=>(0,a0)
 | k+1=>Ki r (itR r k)
def Eu(r:List Int):Nat × Acc:=itR r r.length
theorem MG(h:Ca r a=some (c,m)):5<=m/\m<=r.length:=by
 unfold Ca at h;split at h
 .cases h
 .split at h
  .cases h
  .split at h
   .cases h
   .obtain⟨x,_,e⟩:=oQ.1 h;injection e with e1 e2
    omega
theorem Ig{p:Nat × Acc}(h:Ca (r.drop p.1) p.2=none):Ki r p=p:=by
 unfold Ki;rw[h]
theorem FK(h:Ca (r.drop n) b=some (c,m)):Ki r (n,b)=(n+m,c):=by
 unfold Ki;rw[show Ca (r.drop (n,b).1) (n,b).2=some (c,m)from h]
theorem Wk(h:itR r k=(n,b))(a:Ca (r.drop n) b=none)(j:Nat):itR r (k+j)=(n,b):=by
 induction j with
 | zero=>exact h
 | succ j ih =>
  rw[<- oh,itR,ih];exact Ig a
theorem P8(h:itR r k=(n,b))(c:k<=r.length)(a:Ca (r.drop n) b=none):Eu r=(n,b):=by
 have:=Wk h a (r.length-k);rw[show k+(r.length-k)=r.length by omega]at this
 exact this
theorem YT(r:List Int)(k:Nat):(itR r k).1<=r.length:=by
 induction k with
 | zero=>exact nH _
 | succ k ih =>
  rw[itR];unfold Ki;split
  .exact ih
  .rename_i c m h
   have:=(MG h).2;rw[nc]at this
   show(itR r k).1+m<=r.length;omega
theorem OG{r':List Int}(h:Ca r a=some (c,m))(b:r'.take m=r.take m):Ca r' a=some (c,m):=by
 have s:=MG h;have d:m<=r'.length:=by
  have e:=congrArg List.length b;rw[j',j']at e
  omega
 unfold Ca at h;split at h
 .cases h
 rename_i p
 split at h
 .cases h
 rename_i q
 split at h
 .cases h
 rename_i f
 obtain⟨x,o,e⟩:=oQ.1 h;injection e with e1 e2
 have i:r'.getD 0 0=r.getD 0 0:=by
  have e:=congrArg (λl=>l.getD 0 0) b;simp only[nF,oz]at e ⊢;rw[if_pos (by omega),if_pos (by omega)]at e
  exact e
 have n:∀ k,k<=m->r'.take k=r.take k:=λk j=>by
  have e:=congrArg (List.take k) b;rw[pL,pL,oC j]at e
  exact e
 have g:(r'.drop ((r.getD 0 0).toNat+1)).take 4=(r.drop ((r.getD 0 0).toNat+1)).take 4:=by
  have e:=congrArg (List.drop ((r.getD 0 0).toNat+1)) b;rw[qA,qA,show m-((r.getD 0 0).toNat+1)=4 by omega]at e
  exact e
 unfold Ca;rw[i,if_neg (by rintro rfl;simp at d;omega),if_neg (by omega),n _ (by omega),g,if_neg f,o,nW,e1,e2]
theorem Gx(r:List Int){N n m:Nat}(h:n+m<=N):((r.take N).drop n).take m=(r.drop n).take m:=by
 rw[qA,pL,oC (by omega)]
theorem YU(r:List Int)(k:Nat):(itR r k).1<=(itR r (k+1)).1:=by
 rw[itR];unfold Ki;split
 .exact A' _
 .show(itR r k).1<=(itR r k).1+_;omega
theorem YV(h:(itR r k).1<=N):itR (r.take N) k=itR r k:=by
 induction k with
 | zero=>rfl
 | succ k b =>
  have i:=YU r k;have b:=b (by omega);rw[itR,b];cases e:Ca (r.drop (itR r k).1) (itR r k).2 with
  | none =>
   have a:Ca ((r.take N).drop (itR r k).1) (itR r k).2=none:=by
    cases e3:Ca ((r.take N).drop (itR r k).1) (itR r k).2 with
    | none=>rfl
    | some x =>
     obtain⟨c,m⟩:=x;have g:=(MG e3).2;rw[nc,j']at g
     have:=OG (r':=r.drop (itR r k).1) e3 (Gx r (by omega)).symm;rw[e]at this
     cases this
   rw[Ig a,itR,Ig e]
  | some x =>
   obtain⟨c,m⟩:=x;have d:itR r (k+1)=((itR r k).1+m,c):=by rw[itR];exact FK e
   rw[d]at h ⊢
   have f:(itR r k).1+m<=N:=h;have a:=OG (r':=(r.take N).drop (itR r k).1) e (Gx r f);exact FK a
theorem Vb(r:List Int):(Eu r).1<=r.length:=YT r r.length
theorem TX(b x:List Int)(a:Acc):Ca (AP b++x) a=(DR a b).map λc=>(c,b.length+5):=by
 have d:=Bh b;have h:(AP b++x).getD 0 0=(b.length:Int):=rfl;have i:((b.length:Int)).toNat=b.length:=nE _;have j:(AP b++x).take (b.length+1)=Ef b:=by
  unfold AP;rw[mY,nv (by rw[CE];omega),nf (by rw[CE];omega)]
 have f:((AP b++x).drop (b.length+1)).take 4=(dig (Ef b)).take 4:=by
  unfold AP;rw[mY,oZ (by rw[CE];omega),oS (by rw[CE];omega),oJ,
   nv (by rw[j',At];omega),pL]
  rfl
 unfold Ca;rw[h,i,if_neg (by intro e;have:=congrArg List.length e;rw[G',d]at this;simp at this),if_neg (by rw[G',d];omega),j,f,if_neg (λg=>g rfl)];rfl
theorem TY(b x:List Int)(a:Acc){k:Nat}(e:k<b.length+5):Ca ((AP b++x).take k) a=none:=by
 have d:=Bh b;cases k with
 | zero=>rfl
 | succ k =>
  have c:((AP b++x).take (k+1)).getD 0 0=(b.length:Int):=rfl;unfold Ca;rw[c,nE];split
  .rfl
  .rw[if_pos (by rw[j',G',d];omega)]
theorem Yv(a:Acc){b:Bal}(g:Ac b):DR a (Bu b)=if Cn a b=0 then some ⟨b,a.vs⟩else none:=by
 have c:=g;unfold Ac at c;have d:Ad (Bu b) 1=b.r:=BB b.r (by omega) (by omega) [1] (Ab b.n);have f:Ad (Bu b) 5=b.n:=by
  have:=BB b.n (by omega) (by omega) (1::Ab b.r) [];rw[nB]at this
  exact this
 have e:Gp (Bu b)=b:=by unfold Gp;rw[d,f]
 unfold DR;rw[if_pos ⟨rfl,rfl⟩,e]
theorem Yi{k c s n v:Int}(h:Bi k c s n v=0):Cl (CO k c s n v)=0/\cX (CO k c s n v)=⟨k,c,s,n,v⟩:=by
 have j:=Dg h;have i:=j.2;unfold InC at i;have a:=Hg k c s n v (by omega) (by omega);have b:=Hh k c s n v (by omega) (by omega);have d:=Hi k c s n v (by omega) (by omega);have e:=FL k c s n v (by omega) (by omega);have f:=FM k c s n v (by omega) (by omega);unfold Cl cX;rw[if_neg (λg=>g (BE k c s n v)),a,b,d,e,f];exact⟨h,rfl⟩
theorem Yw(a:Acc){v:Vt}(p:Ah v):DR a (Bj v)=if Bb a v=0 then some ⟨v.b,Bn a.vs v⟩else none:=by
 have g:=p;unfold Ah Ac at g;obtain⟨d,⟨r,n⟩,⟨k,c,s,f,x⟩⟩:=v;simp only at g;have l:Ad (Bj ⟨d,⟨r,n⟩,⟨k,c,s,f,x⟩⟩) 1=d:=BB d (by omega) (by omega) [2] (Ab r++(Ab n++CO k c s f x));have m:Ad (Bj ⟨d,⟨r,n⟩,⟨k,c,s,f,x⟩⟩) 5=r:=BB r (by omega) (by omega) (2::Ab d) (Ab n++CO k c s f x);have o:Ad (Bj ⟨d,⟨r,n⟩,⟨k,c,s,f,x⟩⟩) 9=n:=BB n (by omega) (by omega) (2::(Ab d++Ab r)) (CO k c s f x);have i:(Bj ⟨d,⟨r,n⟩,⟨k,c,s,f,x⟩⟩).drop 13=CO k c s f x:=rfl;have j:=Yi (k:=k) (c:=c) (s:=s) (n:=f) (v:=x) g.2.2;have e:Ga (Bj ⟨d,⟨r,n⟩,⟨k,c,s,f,x⟩⟩)=⟨d,⟨r,n⟩,⟨k,c,s,f,x⟩⟩:=by unfold Ga;rw[l,m,o,i,j.2]
 unfold DR;rw[if_neg (by rintro⟨h,_⟩;cases h),if_pos ⟨rfl,rfl⟩,e,i,if_pos j.1]
def AH(bs:List (List Int)):List Int:=bs.flatMap AP
theorem CD(l m:List (List Int)):AH (l++m)=AH l++AH m:=by simp[AH]
structure Chn(all:List Acc)(bs:List (List Int)):Prop where
 len:all.length=bs.length+1
 first:all[0]?=some a0
 step:∀ (i:Nat) (b:List Int) (a c:Acc),bs[i]?=some b->all[i]?=some a->all[i+1]?=some c->DR a b=some c
theorem Chn.at(h:Chn all bs)(j:Nat)(b:j<=bs.length):∃ a,all[j]?=some a:=⟨_,E' (by have:=h.len;omega)⟩
theorem MQ(a:List (List Int))(j:Nat)(b:List Int)(h:a[j]?=some b):a.take (j+1)=a.take j++[b]:=by
 obtain⟨c,e⟩:=V'.1 h;rw[nu c,e]
theorem LK(a:List (List Int))(j:Nat)(x:List Int):(AH a++x).drop (AH (a.take j)).length=AH (a.drop j)++x:=by
 have e:AH a=AH (a.take j)++AH (a.drop j):=by rw[<- CD,oq]
 rw[e,mY,oZ (A' _),oS (A' _),oJ]
theorem LM(a:List (List Int))(j:Nat)(b:List Int)(h:a[j]?=some b):AH (a.drop j)=AP b++AH (a.drop (j+1)):=by
 obtain⟨c,e⟩:=V'.1 h;rw[n7 c,e];rfl
theorem Chn.it(h:Chn all bs)(x:List Int)(j:Nat)(l:j<=bs.length){a:Acc}(d:all[j]?=some a):itR (AH bs++x) j=((AH (bs.take j)).length,a):=by
 induction j generalizing a with
 | zero =>
  rw[h.first]at d
  obtain rfl:=nP d;rfl
 | succ j g =>
  obtain⟨i,c⟩:=h.at j (by omega);have g:=g (by omega) c;obtain⟨b,f⟩:∃ b,bs[j]?=some b:=⟨_,E' (by omega)⟩;have k:=h.step j b i a f c d;have e:Ca ((AH bs++x).drop (AH (bs.take j)).length) i=some (a,b.length+5):=by
   rw[LK,LM bs j b f,mY,TX,k];rfl
  rw[itR,g,FK e,MQ bs j b f,CD,G']
  congr 1
  show _=(AH (bs.take j)).length+(AH [b]).length;simp[AH,Bh]
theorem Qz(a:List (List Int)):a.length<=(AH a).length:=by
 induction a with
 | nil=>exact nH _
 | cons b a ih =>
  show a.length+1<=(AP b++AH a).length;rw[G',Bh];omega
theorem ik(a:List (List Int))(k:Nat):∃ j,j<=a.length/\(AH (a.take j)).length<=k/\(j=a.length\/k<(AH (a.take (j+1))).length):=by
 have:∀ n,n<=a.length->∃ j,j<=n/\(AH (a.take j)).length<=k/\(j=n\/k<(AH (a.take (j+1))).length):=by
  intro n;induction n with
  | zero=>intro _;exact⟨0,A' _,by simp[AH],.inl rfl⟩
  | succ n ih =>
   intro d;obtain⟨j,c,b,h3⟩:=ih (by omega);rcases h3 with rfl|h3
   .rcases nU k (AH (a.take (j+1))).length with h4|h4
    .exact⟨j,by omega,b,.inr h4⟩
    .exact⟨j+1,A' _,h4,.inl rfl⟩
   .exact⟨j,by omega,b,.inr h3⟩
 exact this a.length (A' _)
theorem Chn.uI(h:Chn all bs)(k:Nat):∃ j a,j<=bs.length/\all[j]?=some a/\Eu ((AH bs).take k)=((AH (bs.take j)).length,a)/\(AH (bs.take j)).length<=k/\(j=bs.length\/k<(AH (bs.take (j+1))).length):=by
 obtain⟨j,d,i,h3⟩:=ik bs k;obtain⟨a,l⟩:=h.at j d;refine⟨j,a,d,l,?_,i,h3⟩;have f:=h.it [] j d l;rw[nB]at f
 have g:itR ((AH bs).take k) j=((AH (bs.take j)).length,a):=by
  rw[YV (by rw[f];exact i),f]
 have c:=LK bs j [];rw[nB,nB]at c
 refine P8 g ?_ ?_
 .rw[j'];have m:=Qz (bs.take j);rw[j']at m
  have n:(AH (bs.take j)).length<=(AH bs).length:=by
   have:=congrArg List.length c;rw[nc]at this
   have e:AH bs=AH (bs.take j)++AH (bs.drop j):=by rw[<- CD,oq]
   rw[e,G'];omega
  omega
 .rw[qA,c];rcases h3 with rfl|h3
  .rw[oS (A' _)];simp[AH,Ca]
  .rcases nU j bs.length with hj|hj
   .obtain⟨b,hb⟩:∃ b,bs[j]?=some b:=⟨_,E' hj⟩;rw[LM bs j b hb];refine TY b _ a ?_;rw[MQ bs j b hb,CD,G']at h3
    have e:(AH [b]).length=b.length+5:=by simp[AH,Bh]
    omega
   .rw[oS hj];simp[AH,Ca]
end
end
section
open Go.RowKit
def fbO(r:List Int):Option (List Int) :=
 if r=[]then none
 else if r.length<(r.getD 0 0).toNat+5 then none
 else if(dig (r.take ((r.getD 0 0).toNat+1))).take 4≠(r.drop ((r.getD 0 0).toNat+1)).take 4 then none
 else some ((r.take ((r.getD 0 0).toNat+1)).drop 1)
theorem U9{r b:List Int}(h:fbO r=some b):b.length+5<=r.length/\b.length=(r.getD 0 0).toNat:=by
 unfold fbO at h;split at h
 .cases h
 .split at h
  .cases h
  .split at h
   .cases h
   .injection h with h
    subst h;rw[nc,j'];omega
theorem MF(r:List Int)(a:Acc):Ca r a=(fbO r).bind λb=>(DR a b).map λc=>(c,b.length+5):=by
 have d:∀ b,fbO r=some b->b.length=(r.getD 0 0).toNat:=λb h=>(U9 h).2;unfold Ca;unfold fbO at d ⊢;by_cases f:r=[]
 .rw[if_pos f,if_pos f];rfl
 .rw[if_neg f]at d ⊢
  rw[if_neg f];by_cases g:r.length<(r.getD 0 0).toNat+5
  .rw[if_pos g,if_pos g];rfl
  .rw[if_neg g]at d ⊢
   rw[if_neg g];by_cases i:(dig (r.take ((r.getD 0 0).toNat+1))).take 4≠(r.drop ((r.getD 0 0).toNat+1)).take 4
   .rw[if_pos i,if_pos i];rfl
   .rw[if_neg i]at d ⊢
    rw[if_neg i];have e:=d _ rfl;show _=(DR a _).map _;rw[e]
theorem DD(l:List Int)(n i:Nat):Ad (l.drop n) i=Ad l (n+i):=by
 unfold Ad;simp only[nF,om,oh]
def Ia(a:Acc)(b:List Int):Int :=
 if b.length=9/\b.getD 0 0=1 then Cn a (Gp b)
 else if b.length=33/\b.getD 0 0=2 then(if Cl (b.drop 13)=0 then Bb a (Ga b)else Cl (b.drop 13))
 else 3
def Gv(a:Acc)(b:List Int):Acc :=
 if b.length=9/\b.getD 0 0=1 then⟨Fs a (Gp b),DW a (Gp b)⟩
 else if b.length=33/\b.getD 0 0=2 then(if Cl (b.drop 13)=0 then⟨BI a (Ga b),Br a (Ga b)⟩else a0)
 else a0
theorem Qq(a:Acc)(b:List Int):DR a b=if Ia a b=0 then some (Gv a b)else none:=by
 unfold DR Ia Gv;by_cases d:b.length=9/\b.getD 0 0=1
 .rw[if_pos d,if_pos d,if_pos d];by_cases c:Cn a (Gp b)=0
  .rw[if_pos c,if_pos c];unfold Fs DW;rw[if_pos c,if_pos c]
  .rw[if_neg c,if_neg c]
 .rw[if_neg d,if_neg d,if_neg d];by_cases c:b.length=33/\b.getD 0 0=2
  .rw[if_pos c,if_pos c,if_pos c];by_cases e:Cl (b.drop 13)=0
   .rw[if_pos e,if_pos e,if_pos e];by_cases f:Bb a (Ga b)=0
    .rw[if_pos f,if_pos f];unfold BI Br;rw[if_pos f,if_pos f]
    .rw[if_neg f,if_neg f]
   .rw[if_neg e,if_neg e,if_neg e]
  .rw[if_neg c,if_neg c,if_neg c,if_neg (by decide)]
def voV(l:List Int):Vt:=if Cl (l.drop 12)=0 then⟨Ad l 0,⟨Ad l 4,Ad l 8⟩,cX (l.drop 12)⟩else⟨0,⟨0,0⟩,⟨0,0,0,0,0⟩⟩
theorem fM{l:List Int}(h:Cl (l.drop 12)=0):∃ m0 m1 m2 m3 m4:Int,I3 (l.drop 12)=#[.int .i64 m0,.int .i64 m1,.int .i64 m2,.int .i64 m3,.int .i64 m4]/\voV l=⟨Ad l 0,⟨Ad l 4,Ad l 8⟩,⟨m0,m1,m2,m3,m4⟩⟩:=by
 refine⟨Ad (l.drop 12) 0,Ad (l.drop 12) 4,Ad (l.drop 12) 8,Ad (l.drop 12) 12,Ad (l.drop 12) 16,?_,?_⟩
 .unfold I3;rw[if_pos h];rfl
 .unfold voV;rw[if_pos h];rfl
theorem fL{l:List Int}(h:¬ Cl (l.drop 12)=0):I3 (l.drop 12)=zV5/\voV l=⟨0,⟨0,0⟩,⟨0,0,0,0,0⟩⟩:=by
 unfold voV I3;rw[if_neg h,if_neg h];exact⟨rfl,rfl⟩
theorem RK(b:List Int)(h:Cl (b.drop 13)=0):voV (b.drop 1)=Ga b:=by
 unfold voV Ga;rw[pK,if_pos h,DD,DD,DD]
theorem Ls(b:List Int):(⟨Ad (b.drop 1) 0,Ad (b.drop 1) 4⟩:Bal)=Gp b:=by
 unfold Gp;rw[DD,DD]
def GB(d:List Int)(s:Int):Acc:=if AV d s then(Eu d).2 else a0
def NE(d:List Int)(s:Int):Int:=if AV d s then((Eu d).1:Int)else 0
def JI(d:List Int)(s:Int):List Int:=if AV d s then d.take (Eu d).1 else[]
def Mw(d:List Int)(s:Int):Int:=if AV d s then(if((Eu d).1:Int)<s then((Eu d).1:Int)else s)else 0
end
section
def GE(d:List Int)(s:Int)(k:Nat):Int:=if ¬ AV d s then 5 else if 100000<d.length+k then 8 else 0
def CH(d:List Int)(s:Int)(may:Prop)[Decidable may] (b:List Int):Int:=if GE d s (b.length+5)≠0 then GE d s (b.length+5)else if may then 0 else 2
def FZ(d:List Int)(s:Int)(may:Prop)[Decidable may] (b:List Int):List Int:=if CH d s may b=0 then d++AP b else[]
def GV(d:List Int)(s:Int)(may:Prop)[Decidable may] (b:List Int):Int:=if CH d s may b=0 then s else 0
theorem Ve{d:List Int}{s:Int}{k:Nat}(a:AV d s)(b:d.length+k<=100000):GE d s k=0:=by
 unfold GE;rw[if_neg (λg=>g a),if_neg (by omega)]
theorem eD(b:Bal):Cn a0 b=if Ac b then 0 else 2:=by
 have a:Ag a0:=⟨.inr ⟨rfl,rfl⟩,λv c=>(Q' c).elim,trivial⟩;unfold Cn;rw[if_neg (λg=>g a)];by_cases h:Ac b
 .rw[if_neg (λg=>g h),if_pos h,if_neg];intro g;unfold Ac at h;unfold Bal.lt a0 at g;simp only at g;omega
 .rw[if_pos h,if_neg h]
theorem fN(v:Vt):Bb a0 v=if Ah v then 0 else 2:=by
 have a:Ag a0:=⟨.inr ⟨rfl,rfl⟩,λv c=>(Q' c).elim,trivial⟩;unfold Bb;rw[if_neg (λg=>g a)];by_cases h:Ah v
 .rw[if_neg (λg=>g h),if_pos h,if_neg];intro g;have b:=h.2.1;unfold Ac at b;unfold Bal.lt a0 at g;simp only at g;omega
 .rw[if_pos h,if_neg h]
end
section
open Go.RowKit
section
def KM{α:Type}(f:Nat->α)(i:Nat)(x:α):Nat->α:=λj=>if j=i then x else f j
variable{i:Nat}{m:Cmd}{α:Type}
theorem Es(f:Nat->α)(i:Nat)(x:α):KM f i x i=x:=if_pos rfl
theorem EU(f:Nat->α){i j:Nat}(x:α)(h:j≠i):KM f i x j=f j:=if_neg h
structure Sto where
 V:Nat->Int
 L:Nat->Int
 C:Nat->Int
 A:Nat->Int
 R:Nat->Bool
def AC:Sto:=⟨λ_=>0,λ_=>0,λ_=>0,λ_=>0,λ_=>false⟩
def ClB(l c a:Int):Prop:=(0<=l/\l<=1048577)/\(l=0->c=0/\a=0)
instance (l c a:Int):Decidable (ClB l c a):=by unfold ClB;exact inferInstance
def VaB(v:Int):Prop:=0<=v/\v<=1073741824
instance (v:Int):Decidable (VaB v):=by unfold VaB;exact inferInstance
def Fg(s:Sto):Prop:=(∀ i,i<8->VaB (s.V i))/\∀ i,i<8->ClB (s.L i) (s.C i) (s.A i)
noncomputable instance (s:Sto):Decidable (Fg s):=Classical.propDecidable _
theorem R1:Fg AC:=⟨λ_ _=>by unfold VaB AC;simp,λ_ _=>by unfold ClB AC;simp⟩
noncomputable def NK(s:Sto):Int:=if Fg s then 0 else 5
variable{s:Sto}
theorem fi(h:Fg s):NK s=0:=if_pos h
theorem Lf(h:¬ Fg s):NK s=5:=if_neg h
def Ti(s:Sto)(m:Cmd):Int:=if m.k=1 then m.v else if m.k=2 then s.V m.n.toNat else 0
def Ge(s:Sto)(m:Cmd):Sto :=
 ⟨if m.k=1 then KM s.V m.n.toNat m.v else s.V,KM s.L m.c.toNat (m.s+1),KM s.C m.c.toNat 0,KM s.A m.c.toNat (Ti s m),if m.k=3 then KM s.R m.n.toNat true else s.R⟩
def dnS(s:Sto)(m:Cmd):Sto:=if m.k≠0/\¬ m.s<s.L m.c.toNat/\s.R m.c.toNat=false then Ge s m else s
def dnC(s:Sto)(m:Cmd):Int :=
 if m.k=0 then 0 else if s.L m.c.toNat=m.s+1 then s.C m.c.toNat else if m.s<s.L m.c.toNat then 7 else if s.R m.c.toNat=true then 11 else 0
def dnA(s:Sto)(m:Cmd):Int :=
 if m.k=0 then 0 else if s.L m.c.toNat=m.s+1 then s.A m.c.toNat else if m.s<s.L m.c.toNat then 0 else if s.R m.c.toNat=true then 0 else Ti s m
noncomputable def doE(s:Sto)(m:Cmd):Int:=if Fg s then m.e else 5
noncomputable def doS(s:Sto)(m:Cmd):Sto:=if doE s m=0 then dnS s m else AC
noncomputable def doC(s:Sto)(m:Cmd):Int:=if doE s m=0 then dnC s m else 0
noncomputable def doA(s:Sto)(m:Cmd):Int:=if doE s m=0 then dnA s m else 0
theorem U5(h:Fg s):doE s m=m.e:=if_pos h
theorem Pi(h:doE s m=0):doS s m=dnS s m:=if_pos h
theorem Yn(h:doE s m=0):doC s m=dnC s m:=if_pos h
theorem Yl(h:doE s m=0):doA s m=dnA s m:=if_pos h
theorem Yr(h:doE s m≠0):doS s m=AC:=if_neg h
theorem Ym(h:doE s m≠0):doC s m=0:=if_neg h
theorem KX(h:m.e=0):(0<=m.k/\m.k<=3)/\InC m.c m.s m.n m.v:=Dg h
theorem QL(b:Fg s)(h:m.e=0):VaB (Ti s m):=by
 obtain⟨c,a⟩:=KX h;unfold InC at a;unfold Ti;split
 .unfold VaB;omega
 .split
  .exact b.1 _ (by omega)
  .unfold VaB;omega
theorem Pg(b:Fg s)(h:m.e=0):Fg (dnS s m):=by
 obtain⟨f,d⟩:=KX h;unfold InC at d;unfold dnS;split
 .refine⟨λi a=>?_,λi a=>?_⟩
  .simp only[Ge];split
   .unfold KM;split
    .unfold VaB;omega
    .exact b.1 i a
   .exact b.1 i a
  .simp only[Ge];by_cases e:i=m.c.toNat
   .subst e;rw[Es,Es,Es];unfold ClB;omega
   .rw[EU _ _ e,EU _ _ e,EU _ _ e];exact b.2 i a
 .exact b
def AnB(s:Sto):Prop:=∀ i,i<8->(s.C i=0)/\VaB (s.A i)
theorem fh:AnB AC:=λ_ _=>by unfold VaB AC;simp
theorem im(b:Fg s)(a:AnB s)(h:m.e=0):AnB (dnS s m):=by
 unfold dnS;split
 .intro i hi;simp only[Ge];by_cases e:i=m.c.toNat
  .subst e;rw[Es,Es];exact⟨rfl,QL b h⟩
  .rw[EU _ _ e,EU _ _ e];exact a i hi
 .exact a
theorem km(g:Fg s)(d:AnB s)(h:m.e=0):(dnC s m=0\/dnC s m=7\/dnC s m=11)/\VaB (dnA s m):=by
 obtain⟨i,b⟩:=KX h;unfold InC at b;have a:=d m.c.toNat (by omega);have f:=QL g h;unfold dnC dnA;split
 .unfold VaB;omega
 .split
  .exact⟨.inl a.1,a.2⟩
  .split
   .unfold VaB;omega
   .split
    .unfold VaB;omega
    .exact⟨.inl rfl,f⟩
def lnk(sum:List Int)(m:Cmd)(c a:Int):List Int:=dig (sum++(CO m.k m.c m.s m.n m.v++(Ab c++Ab a)))
theorem Td(b:List Int)(m:Cmd)(c a:Int):(lnk b m c a).length=32:=At _
def sAt(f:Nat->Cmd):Nat->Sto
 | 0=>AC
 | i+1=>dnS (sAt f i) (f i)
def cAt(f:Nat->Cmd)(i:Nat):Int:=dnC (sAt f i) (f i)
def aAt(f:Nat->Cmd)(i:Nat):Int:=dnA (sAt f i) (f i)
def gAt(f:Nat->Cmd):Nat->List Int
 | 0=>List.replicate 32 0
 | i+1=>lnk (gAt f i) (f i) (cAt f i) (aAt f i)
theorem SF(f:Nat->Cmd)(i:Nat):(gAt f i).length=32:=by
 cases i with
 | zero=>rfl
 | succ i=>exact Td _ _ _ _
theorem eY{f:Nat->Cmd}(h:∀ j,j<i->(f j).e=0):Fg (sAt f i)/\AnB (sAt f i):=by
 induction i with
 | zero=>exact⟨R1,fh⟩
 | succ i ih =>
  have a:=ih (λj b=>h j (by omega));exact⟨Pg a.1 (h i (by omega)),im a.1 a.2 (h i (by omega))⟩
end
end
section
def Jy(Q:Nat->Bool):Nat:=(Q 0).toNat+(Q 1).toNat+(Q 2).toNat+(Q 3).toNat+(Q 4).toNat
theorem G3(Q R:Nat->Bool)(d:3<=Jy Q)(e:3<=Jy R):∃ q,q<5/\Q q=true/\R q=true:=by
 apply pU;intro h;have a:∀ q,q<5->(Q q).toNat+(R q).toNat<=1:=by
  intro q f;cases b:Q q<;>cases c:R q<;>simp;exact h ⟨q,f,b,c⟩
 have g:=a 0 (by omega);have b:=a 1 (by omega);have c:=a 2 (by omega);have i:=a 3 (by omega);have j:=a 4 (by omega);unfold Jy at d e;omega
section
variable{γ:Type}
section
def Ch(H:Nat->Nat->Int->γ->Prop)(s:Nat)(b:Int)(c:γ):Prop:=∃ Q:Nat->Bool,3<=Jy Q/\∀ q,q<5->Q q=true->H q s b c
def E3(H:Nat->Nat->Int->γ->Prop)(P:Nat->Int)(s:Nat)(b:Int)(c:γ):Prop :=
 ∃ Q:Nat->Bool,3<=Jy Q/\(∀ q,q<5->Q q=true->b<=P q) /\
  ((∀ q,q<5->Q q=true->∀ b' c',H q s b' c'->b<=b') \/
   ∃ b0,b0<b/\(∃ q,q<5/\Q q=true/\H q s b0 c)/\∀ q,q<5->Q q=true->∀ b' c',H q s b' c'->b'<b->b'<=b0)
structure PInv(H:Nat->Nat->Int->γ->Prop)(P:Nat->Int):Prop where
 le:∀ n s b c,H n s b c->0<b/\b<=P n
 uniq:∀ n n' s b c c',H n s b c->H n' s b c'->c=c'
 safe:∀ n s b c,H n s b c->E3 H P s b c
variable{H:Nat->Nat->Int->γ->Prop}{P:Nat->Int}{b:Int}{c:γ}{n s:Nat}
theorem PInv.later(h:PInv H P){s:Nat}{b:Int}{c:γ}(p:Ch H s b c):∀ (m:Nat) (b2:Int) (c2:γ) (n:Nat),b2.toNat=m->b<b2->H n s b2 c2->c2=c:=by
 intro m;induction m using Nat.strongRecOn with
 | ind m ih =>
  intro b2 c2 n v i l;have w:=(h.le n s b2 c2 l).1;obtain⟨Q,r,u,f⟩:=h.safe n s b2 c2 l;obtain⟨o,e,g⟩:=p;obtain⟨q,j,d,k⟩:=G3 Q o r e;have a:=g q j k;rcases f with f|⟨b0,hb0,⟨q0,hq0,hq0Q,hv0⟩,hmax⟩
  .have:=f q j d b c a;omega
  .have hle:=hmax q j d b c a i;have t:=(h.le q0 s b0 c2 hv0).1;rcases(by omega:b=b0\/b<b0)with rfl|hlt0
   .exact h.uniq q0 q s b c2 c hv0 a
   .exact ih b0.toNat (by omega) b0 c2 q0 rfl hlt0 hv0
theorem PInv.agree(h:PInv H P){s:Nat}{d e:Int}{f g:γ}(j:Ch H s d f)(k:Ch H s e g):f=g:=by
 have a:∀ {b:Int} {c:γ},Ch H s b c->∃ n,H n s b c:=by
  rintro b c ⟨Q,l,t⟩;obtain⟨q,u,i,_⟩:=G3 Q Q l l;exact⟨q,t q u i⟩
 obtain⟨m,p⟩:=a j;obtain⟨o,r⟩:=a k;rcases(by omega:d<e\/d=e\/e<d)with hlt|rfl|hlt
 .exact(h.later j _ e g o rfl hlt r).symm
 .exact h.uniq m o s d f g p r
 .exact h.later k _ d f m rfl hlt p
def upP(P:Nat->Int)(n:Nat)(b:Int):Nat->Int:=λi=>if i=n then b else P i
theorem MY(h:P n<=b)(q:Nat):P q<=upP P n b q:=by
 unfold upP;split
 .rename_i e;rw[e];exact h
 .exact mT _
theorem E3.up(h:E3 H P s b c){n:Nat}{d:Int}(i:P n<=d):E3 H (upP P n d) s b c:=by
 obtain⟨Q,f,e,g⟩:=h;exact⟨Q,f,λq j a=>ny (e q j a) (MY i q),g⟩
theorem PInv.au(h:PInv H P){n:Nat}{b:Int}(e:P n<=b):PInv H (upP P n b) :=
 ⟨λm s a c d=>⟨(h.le m s a c d).1,ny (h.le m s a c d).2 (MY e m)⟩,h.uniq,λm s a c d=>(h.safe m s a c d).up e⟩
def gM(H:Nat->Nat->Int->γ->Prop)(n s:Nat)(b:Int)(c:γ):Nat->Nat->Int->γ->Prop:=λn' s' b' c'=>H n' s' b' c'\/(n'=n/\s'=s/\b'=b/\c'=c)
theorem E3.cl(h:E3 H P s b c){n t:Nat}{f:Int}{o:γ}(m:P n<=f):E3 (gM H n t f o) (upP P n f) s b c:=by
 obtain⟨Q,p,j,k⟩:=h;refine⟨Q,p,λq d a=>ny (j q d a) (MY m q),?_⟩;rcases k with k|⟨b0,hb0,⟨q0,hq0,hq0Q,hv0⟩,hmax⟩
 .left;intro q d a g i e;rcases e with e|⟨rfl,rfl,rfl,rfl⟩
  .exact k q d a g i e
  .exact ny (j q d a) m
 .right;refine⟨b0,hb0,⟨q0,hq0,hq0Q,.inl hv0⟩,?_⟩;intro q d a g i e l;rcases e with e|⟨rfl,rfl,rfl,rfl⟩
  .exact hmax q d a g i e l
  .have:=j q d a;omega
theorem PInv.cl(h:PInv H P){n s:Nat}{b:Int}{c:γ}(a:P n<=b)(e:0<b)(f:E3 H P s b c)(d:∀ m c',H m s b c'->c'=c):PInv (gM H n s b c) (upP P n b):=by
 refine⟨?_,?_,?_⟩
 .rintro m t b' c' (hv|⟨rfl,rfl,rfl,rfl⟩)
  .exact⟨(h.le m t b' c' hv).1,ny (h.le m t b' c' hv).2 (MY a m)⟩
  .exact⟨e,by unfold upP;rw[if_pos rfl];exact mT _⟩
 .rintro m m' t b' c' c2 (hv|⟨_,e1,e2,e3⟩) (hv'|⟨_,e1',e2',e3'⟩)
  .exact h.uniq m m' t b' c' c2 hv hv'
  .subst e1' e2' e3';exact d m c' hv
  .subst e1 e2 e3;exact(d m' c2 hv').symm
  .rw[e3,e3']
 .rintro m t b' c' (hv|⟨rfl,rfl,rfl,rfl⟩)
  .exact(h.safe m t b' c' hv).cl a
  .exact f.cl a
end
end
end
section
def upN{α:Type}(f:Nat->α)(n:Nat)(x:α):Nat->α:=λi=>if i=n then x else f i
theorem Dd{α:Type}(f:Nat->α)(n:Nat)(x:α):upN f n x n=x:=if_pos rfl
theorem D2{α:Type}(f:Nat->α){n i:Nat}(x:α)(h:i≠n):upN f n x i=f i:=if_neg h
end
section
theorem IL{l:List Vt}(h:BM l)(s:Int)(v:Vt):BK (Ae l s) v<=(decide (v∈l/\v.bt=s)).toNat:=by
 induction l with
 | nil=>simp[BK,Ae]
 | cons x xs c =>
  obtain⟨f,d⟩:=h;have c:=c d;have e:BK (Ae (x::xs) s) v=(if x.bt=s/\x=v then 1 else 0)+BK (Ae xs s) v:=by
   unfold BK Ae;rw[List.filter_cons];by_cases a:x.bt=s
   .rw[if_pos (by simpa using a),qX];by_cases b:x=v
    .have h1':v.bt=s:=b▸a;simp[b,h1'];omega
    .simp[a,b]
   .rw[if_neg (by simpa using a)];simp[a]
  rw[e];by_cases a:x.bt=s/\x=v
  .have b:¬ (v∈xs/\v.bt=s):=λg=>by
    have:=f v g.1;rw[<- a.2]at this
    omega
   rw[H' b]at c
   rw[if_pos a,O' ⟨a.2▸M',a.2▸a.1⟩];simp at c ⊢;omega
  .rw[if_neg a];by_cases b:v∈xs/\v.bt=s
   .rw[O' b]at c
    rw[O' ⟨I' _ b.1,b.2⟩];omega
   .rw[H' b]at c
    simp at c ⊢;omega
theorem Cx(l m:List Vt)(v:Vt):BK (l++m) v=BK l v+BK m v:=by unfold BK;rw[pl]
end
section
def Bf:Bal:=⟨0,0⟩
def Sf:Cmd:=⟨0,0,0,0,0⟩
def vtz:Vt:=⟨0,Bf,Sf⟩
def Em:Acc:=⟨Bf,[]⟩
structure Let where
 kind:Nat
 src:Nat
 dst:Nat
 hU:Bal
 cl:Vt
 mv:List Vt
 bt:Nat
 gC:List Cmd
def BC(k:Nat):Let:=⟨k,0,0,Bf,vtz,[],0,[]⟩
inductive Pend where
 | began (b:Bal) (vs:List Vt)
 | prom (to:Nat) (b:Bal) (vs:List Vt)
 | voted (to:Nat) (v:Vt)
 | ew (to:Nat) (b:Bal)
 | prop (v:Vt)
 | askNews (to:Nat)
 | start
 | tell (to:Nat) (bt:Nat)
structure Rnd where
 hU:Bal
 rN:Nat->Bool
 an:Nat->Acc
 bw:Nat->Nat
 next:Nat
 fa:List Cmd
def eQ:Rnd:=⟨Bf,λ_=>false,λ_=>Em,λ_=>0,0,[]⟩
structure Tol where
 n:Nat
 c:Int
 s:Int
 e:Int
 a:Int
structure Nod where
 up:Bool
 d:List Int
 sy:Int
 bad:Nat
 vo:Acc
 bu:List Pend
 cF:Int
 bn:Rnd
 ae:List Cmd
 done:Nat
 ni:Sto
 av:List Cmd
 bN:Cmd->Option Bal
structure Meet where
 ab:Nat->Nod
 br:List Let
 ed:List Tol
def Nod.bare(N:Nod)(up:Bool)(d:List Int)(sy:Int)(vo:Acc)(p:List Pend):Nod :=
 ⟨up,d,sy,N.bad,vo,p,0,eQ,[],0,AC,[],λ_=>none⟩
def CY:Nod:=⟨true,[],0,0,Em,[],0,eQ,[],0,AC,[],λ_=>none⟩
def Ao:Meet:=⟨λ_=>CY,[],[]⟩
def Meet.put(M:Meet)(i:Nat)(N:Nod):Meet:={ M with ab:=upN M.ab i N }
def Nod.au(N:Nod)(b:Bal):Nod × List Vt × Int :=
 if Cn N.vo b≠0 then(N,[],Cn N.vo b)
 else if b=N.vo.p then({ N with vo:=⟨b,N.vo.vs⟩ },N.vo.vs,0)
 else if CH N.d N.sy (Ac b) (Bu b)≠0 then(N,[],CH N.d N.sy (Ac b) (Bu b))
 else({ N with d:=FZ N.d N.sy (Ac b) (Bu b),sy:=GV N.d N.sy (Ac b) (Bu b),vo:=⟨b,N.vo.vs⟩ },N.vo.vs,0)
def Nod.cl(N:Nod)(v:Vt):Nod × Int :=
 if Bb N.vo v≠0 then(N,Bb N.vo v)
 else if v∈N.vo.vs then({ N with vo:=⟨v.b,Bn N.vo.vs v⟩ },0)
 else if CH N.d N.sy (Ah v) (Bj v)≠0 then(N,CH N.d N.sy (Ah v) (Bj v))
 else({ N with d:=FZ N.d N.sy (Ah v) (Bj v),sy:=GV N.d N.sy (Ah v) (Bj v),vo:=⟨v.b,Bn N.vo.vs v⟩ },0)
def Nod.wait(N:Nod)(p:Pend):Nod:={ N with bu:=N.bu++[p] }
def Nod.ew(N:Nod)(to:Nat)(e:Int):Nod:=if e=7 then N.wait (.ew to N.vo.p)else N
def Nod.leads(N:Nod):Bool:=decide (N.bn.hU≠Bf/\N.bn.hU=N.vo.p)
def Rnd.sh(r:Rnd):Bool:=decide (5<2*Jy r.rN)
def Dh(a:Acc):List Vt->Acc
 | []=>a
 | v::l=>Dh (if Bb a v=0 then⟨BI a v,Br a v⟩else a) l
def Rnd.sw(r:Rnd)(j:Nat)(vs:List Vt):Rnd:={ r with rN:=upN r.rN j true,an:=upN r.an j (Dh ⟨r.hU,vs⟩ (r.an j).vs) }
def Rnd.hZ(r:Rnd):List Acc:=[r.an 0,r.an 1,r.an 2,r.an 3,r.an 4]
def FG:Nat->Rnd->List Cmd->List Cmd
 | 0,_,l=>l
 | k+1,r,l=>if CX r.hZ (l.length:Int)=0 then FG k r (l++[CQ r.hZ (l.length:Int)])else l
def Nod.sf(N:Nod):Nod:={ N with ae:=FG 41 N.bn N.ae }
def Nod.lr(N:Nod)(bt:Nat)(gC:List Cmd):Nod:={ N with ae:=N.ae++gC.drop (N.ae.length-bt) }
def Nod.count(N:Nod)(j:Nat)(v:Vt):Nod :=
 if v.b≠N.bn.hU then N
 else if Bb (N.bn.an j) v≠0 then N
 else Nod.sf { N with bn:={ N.bn with an:=upN N.bn.an j ⟨BI (N.bn.an j) v,Br (N.bn.an j) v⟩ } }
def Hp(q:List Cmd):List Cmd->List Cmd
 | []=>q
 | c::l=>Hp (if q.length<40/\c∉q then q++[c]else q) l
def Nod.dT(N:Nod)(gC:List Cmd):Nod:=if N.leads then{ N with bn:={ N.bn with fa:=Hp N.bn.fa gC } }else N
def BW(f:Cmd->Option Bal)(c:Cmd)(b:Option Bal):Cmd->Option Bal:=λx=>if x=c then b else f x
def Nod.want(N:Nod)(c:Cmd):Nod:=if(N.bN c).isSome then N else{ N with av:=N.av++[c],bN:=BW N.bN c (some Bf) }
def Nod.fv(N:Nod)(c:Cmd):Nod:=if(N.bN c).isSome then{ N with av:=N.av.erase c,bN:=BW N.bN c none }else N
def Bd(b:Bal)(f:Cmd->Option Bal):List Cmd->List Cmd × (Cmd->Option Bal)
 | []=>([],f)
 | c::l=>if(f c).getD Bf≠b then(c::(Bd b (BW f c (some b)) l).1,(Bd b (BW f c (some b)) l).2)else Bd b f l
def Nod.take(N:Nod)(l:Let):Nod :=
 match l.kind with
 | 0=>if(N.au l.hU).2.2≠0 then N.ew l.src (N.au l.hU).2.2 else(N.au l.hU).1.wait (.prom l.src l.hU (N.au l.hU).2.1)
 | 1=>let K:=N.lr 0 l.gC
  if K.leads=false\/l.hU≠K.bn.hU\/K.bn.rN l.src=true then K
  else Nod.sf { K with bn:={ K.bn.sw l.src l.mv with bw:=upN K.bn.bw l.src l.gC.length } }
 | 2=>{ N with cF:=max N.cF l.hU.r }
 | 3=>if(N.cl l.cl).2≠0 then N.ew l.src (N.cl l.cl).2 else(N.cl l.cl).1.wait (.voted l.src l.cl)
 | 4=>N.count l.src l.cl
 | 5=>if N.ae.length<l.bt then N.wait (.askNews l.src)else N.lr l.bt l.gC
 | 6=>let K:=N.dT l.gC
  if l.bt<K.ae.length then K.wait (.tell l.src l.bt)else K
 | _=>N
def Meet.pd(M:Meet)(l:Let):Meet:=if(M.ab l.dst).up then M.put l.dst ((M.ab l.dst).take l)else M
def Nod.rk(N:Nod)(bt:Nat):Option Cmd :=
 if BZ (N.bn.hZ.map (·.vs)) (bt:Int)≠0 then none
 else if DV (N.bn.hZ.map (·.vs)) (bt:Int)then some (G8 (N.bn.hZ.map (·.vs)) (bt:Int))
 else N.bn.fa.find? λc=>decide (c∉N.ae)
def Nod.cx(N:Nod):Nod :=
 if N.leads=false\/N.bn.sh=false\/N.ae.length<N.bn.next then N
 else match N.rk N.ae.length with
  | none=>N
  | some c =>
   if(N.cl ⟨(N.ae.length:Int),N.bn.hU,c⟩).2≠0 then N
   else Nod.wait { (N.cl ⟨(N.ae.length:Int),N.bn.hU,c⟩).1 with bn:={ N.bn with next:=N.ae.length+1 } } (.prop ⟨(N.ae.length:Int),N.bn.hU,c⟩)
def Nod.lead(N:Nod)(i:Nat):Nod :=
 let b:Bal:=⟨max N.cF N.vo.p.r+1,(i:Int)⟩
 if(N.au b).2.2≠0 then N
 else Nod.wait { (N.au b).1 with bn:=⟨b,λ_=>false,λ_=>Em,λ_=>N.ae.length,0,[]⟩ } (.began b (N.au b).2.1)
def Nod.lp(N:Nod)(k:Int):Nod:=if Gt N.d N.sy k≠0 then N else N.bare false (KA N.d N.sy k) (KB N.d N.sy k) Em []
def Nod.start(N:Nod):Nod :=
 if Db N.d N.sy≠0 then N
 else if NE N.d N.sy<(N.d.length:Int)then N.bare true (JI N.d N.sy) (Mw N.d N.sy) (GB N.d N.sy) [.start]
 else N.bare true N.d N.sy (GB N.d N.sy) [.start]
def Meet.move(M:Meet)(k:Int)(at_:Nat):Meet :=
 match M.br[at_%M.br.length]? with
 | none=>M
 | some l =>
  let A:=if k≠6 then{ M with br:=M.br.eraseIdx (at_%M.br.length) }else M
  if k≠5 then A.pd l else A
def Meet.si(M:Meet):Meet:=M.br.foldl (λM l=>M.pd l) { M with br:=[] }
end
section
open Go.RowKit
section
def stA(s:Sto):Array Value:=#[.int .i64 (s.V 0),.int .i64 (s.V 1),.int .i64 (s.V 2),.int .i64 (s.V 3),.int .i64 (s.V 4),.int .i64 (s.V 5),.int .i64 (s.V 6),.int .i64 (s.V 7),.int .i64 (s.L 0),.int .i64 (s.L 1),.int .i64 (s.L 2),.int .i64 (s.L 3),.int .i64 (s.L 4),.int .i64 (s.L 5),.int .i64 (s.L 6),.int .i64 (s.L 7),.int .i64 (s.C 0),.int .i64 (s.A 0),.int .i64 (s.C 1),.int .i64 (s.A 1),.int .i64 (s.C 2),.int .i64 (s.A 2),.int .i64 (s.C 3),.int .i64 (s.A 3),.int .i64 (s.C 4),.int .i64 (s.A 4),.int .i64 (s.C 5),.int .i64 (s.A 5),.int .i64 (s.C 6),.int .i64 (s.A 6),.int .i64 (s.C 7),.int .i64 (s.A 7),.bool (s.R 0),.bool (s.R 1),.bool (s.R 2),.bool (s.R 3),.bool (s.R 4),.bool (s.R 5),.bool (s.R 6),.bool (s.R 7)]
theorem gP:(prog.info? 50).map (·.size)=some 2:=by kernel_rfl
theorem lT(s:Sto)(i:Nat)(h:i<8):(stA s)[i]?=some (.int .i64 (s.V i)):=by
 rcases(by omega:i=0\/i=1\/i=2\/i=3\/i=4\/i=5\/i=6\/i=7)with rfl|rfl|rfl|rfl|rfl|rfl|rfl|rfl<;>rfl
theorem lS(s:Sto)(i:Nat)(h:i<8):(stA s)[8+i]?=some (.int .i64 (s.L i)):=by
 rcases(by omega:i=0\/i=1\/i=2\/i=3\/i=4\/i=5\/i=6\/i=7)with rfl|rfl|rfl|rfl|rfl|rfl|rfl|rfl<;>rfl
theorem lR(s:Sto)(i:Nat)(h:i<8):(stA s)[16+i*2]?=some (.int .i64 (s.C i)):=by
 rcases(by omega:i=0\/i=1\/i=2\/i=3\/i=4\/i=5\/i=6\/i=7)with rfl|rfl|rfl|rfl|rfl|rfl|rfl|rfl<;>rfl
theorem lQ(s:Sto)(i:Nat)(h:i<8):(stA s)[16+i*2+1]?=some (.int .i64 (s.A i)):=by
 rcases(by omega:i=0\/i=1\/i=2\/i=3\/i=4\/i=5\/i=6\/i=7)with rfl|rfl|rfl|rfl|rfl|rfl|rfl|rfl<;>rfl
def Bs(w:World)(g:Nat)(s:Sto):Prop:=w.heap[g]?=some (.cells (stA s) 54)
variable{g:Nat}{s:Sto}{w:World}
theorem Bs.uq(h:Bs w g s)(i:Nat)(a:i<8):w.cell? ⟨g,i,none⟩=some (.int .i64 (s.V i)):=(cell_of_row _ _ i _ _ _ h).trans (lT s i a)
theorem Bs.uo(h:Bs w g s)(i:Nat)(a:i<8):w.cell? ⟨g,8+i,none⟩=some (.int .i64 (s.L i)):=(cell_of_row _ _ (8+i) _ _ _ h).trans (lS s i a)
theorem Bs.um(h:Bs w g s)(i:Nat)(a:i<8):w.cell? ⟨g,16+i*2,none⟩=some (.int .i64 (s.C i)):=(cell_of_row _ _ (16+i*2) _ _ _ h).trans (lR s i a)
theorem Bs.uk(h:Bs w g s)(i:Nat)(a:i<8):w.cell? ⟨g,16+i*2+1,none⟩=some (.int .i64 (s.A i)):=(cell_of_row _ _ (16+i*2+1) _ _ _ h).trans (lQ s i a)
theorem iO(a b c d:Int):∀ w,(binOp .neq 50 (.agg #[.int .i64 a,.int .i64 b]) (.agg #[.int .i64 c,.int .i64 d])).run prog w=.ok (.bool (!decide (a=c/\b=d))) w:=by
 intro w;rw[run_neq_struct,run_equalIn_agg w 9999 _ _ _ (by kernel_rfl) (by kernel_rfl)];unfold Program.fieldsOf;rw[underlying50];have e:=underlying3;have f:=underlying28;simp[Op.eqFields,go_sem,e,f]
 repeat' split
 all_goals simp_all
theorem ef(a b:Int):∀ w,(binOp .neq 50 (.agg #[.int .i64 a,.int .i64 b]) (.agg #[.int .i64 0,.int .i64 0])).run prog w=.ok (.bool (!decide (a=0/\b=0))) w:=iO a b 0 0
def vaL(f:Nat->Int):List Value:=[.int .i64 (f 0),.int .i64 (f 1),.int .i64 (f 2),.int .i64 (f 3),.int .i64 (f 4),.int .i64 (f 5),.int .i64 (f 6),.int .i64 (f 7)]
def vaA(f:Nat->Int):Array Value:=(vaL f).toArray
theorem bR(f:Nat->Int)(j:Nat)(u:Value)(h:(vaL f)[j]?=some u):j<8/\u=.int .i64 (f j):=by
 have a:j<8:=(V'.1 h).1;refine⟨a,?_⟩;rcases(by omega:j=0\/j=1\/j=2\/j=3\/j=4\/j=5\/j=6\/j=7)with rfl|rfl|rfl|rfl|rfl|rfl|rfl|rfl<;>(simp[vaL]at h;exact h.symm)
theorem Bs.ug(h:Bs w g s):w.rangeAt g 0 (vaL s.V):=by
 intro j u b;obtain⟨a,rfl⟩:=bR _ _ _ b;rw[nM];exact h.uq j a
theorem Bs.uf(h:Bs w g s):w.rangeAt g 8 (vaL s.L):=by
 intro j u b;obtain⟨a,rfl⟩:=bR _ _ _ b;exact h.uo j a
theorem jD(f:Nat->Int):(prog.info? 48).map (·.size)=some (vaL f).length:=by show _=some 8;kernel_rfl
theorem GU{d:Array Oper}{c:List Oper}{op:Oper}{a:Act}{Q:Exit->Act->World->Prop}(e:op.guard=none)(x:Operand)(i:op.op=.load 48 x)(b o:Nat)(j:a.eval x=.pointer (some ⟨b,o,none⟩))(f:Nat->Int)(g:w.rangeAt b o (vaL f))(h:wpList prog d Q c (a.put op.dst (.agg (vaA f))) w):wpList prog d Q (op::c) a w :=
 wpList_load_mid e 48 x i b o j (vaL f) _ g underlying48 rfl (jD f) h
theorem Vu(f:Nat->Int)(i:Nat)(a:i<8)(w:World):(Instr.index 48 (.agg (vaA f)) (.int .i64 (i:Int))).run prog w=.ok (.int .i64 (f i)) w:=by
 rcases(by omega:i=0\/i=1\/i=2\/i=3\/i=4\/i=5\/i=6\/i=7)with rfl|rfl|rfl|rfl|rfl|rfl|rfl|rfl<;>kernel_rfl
structure NX where
 tape:S3
 mv:S3
 synced:S3
 fa:S3
 ae:S3
 av:S3
 hv:Nat->S3
 bN:Option Nat
def AJ(i ob:Nat)(p:Nod)(x:NX):Array Value:=([iv (i:Int),.bool p.up,S3.v x.tape,iv p.sy,iv (p.bad:Int),pt ob 0,iv p.vo.p.r,iv p.vo.p.n,S3.v x.mv,S3.v x.synced,iv p.cF,iv p.bn.hU.r,iv p.bn.hU.n,.bool (p.bn.rN 0),.bool (p.bn.rN 1),.bool (p.bn.rN 2),.bool (p.bn.rN 3),.bool (p.bn.rN 4),iv ((p.bn.an 0).p.r),iv ((p.bn.an 0).p.n),S3.v (x.hv 0),iv ((p.bn.an 1).p.r),iv ((p.bn.an 1).p.n),S3.v (x.hv 1),iv ((p.bn.an 2).p.r),iv ((p.bn.an 2).p.n),S3.v (x.hv 2),iv ((p.bn.an 3).p.r),iv ((p.bn.an 3).p.n),S3.v (x.hv 3),iv ((p.bn.an 4).p.r),iv ((p.bn.an 4).p.n),S3.v (x.hv 4),iv (p.bn.bw 0:Int),iv (p.bn.bw 1:Int),iv (p.bn.bw 2:Int),iv (p.bn.bw 3:Int),iv (p.bn.bw 4:Int),iv (p.bn.next:Int),S3.v x.fa,S3.v x.ae,iv (p.done:Int)]++((stA p.ni).toList++[S3.v x.av,.map x.bN])).toArray
def FF(l:Let)(vs wh:S3):Array Value:=#[iv (l.kind:Int),iv (l.src:Int),iv (l.dst:Int),iv l.hU.r,iv l.hU.n,iv l.cl.bt,iv l.cl.b.r,iv l.cl.b.n,iv l.cl.w.k,iv l.cl.w.c,iv l.cl.w.s,iv l.cl.w.n,iv l.cl.w.v,S3.v vs,iv (l.bt:Int),S3.v wh]
def FY(t:Tol):List Value:=[iv (t.n:Int),iv t.c,iv t.s,iv t.e,iv t.a]
def cmV(c:Cmd):List Value:=[iv c.k,iv c.c,iv c.s,iv c.n,iv c.v]
def cmL(l:List Cmd):List Value:=l.flatMap cmV
theorem Cu(l m:List Cmd):cmL (l++m)=cmL l++cmL m:=by simp[cmL]
theorem BJ(l:List Cmd):(cmL l).length=l.length*5:=by
 induction l with
 | nil=>rfl
 | cons c l ih=>rw[cmL,pz,G'];show 5+(cmL l).length=_;rw[ih,nK];omega
theorem Pe(l:List Cmd):∀ u∈cmL l,u.oneCell'=true:=by
 intro u b;obtain⟨c,_,a⟩:=pW.1 b;simp only[cmV,mZ,Q',or_false]at a;rcases a with rfl|rfl|rfl|rfl|rfl<;>rfl
theorem Pd{l:List Cmd}{k:Nat}{c:Cmd}(h:l[k]?=some c){j:Nat}{u:Value}(a:(cmV c)[j]?=some u):(cmL l)[5*k+j]?=some u:=by
 induction l generalizing k with
 | nil=>cases h
 | cons d l ih =>
  rw[cmL,pz];cases k with
  | zero =>
   simp only[oE,Z']at h;subst h;rw[nk (by have:=(V'.1 a).1;omega)];simpa using a
  | succ k =>
   rw[nr (by show 5<=_;omega),show 5*(k+1)+j-(cmV d).length=5*k+j by show 5*(k+1)+j-5=_;omega];exact ih (by simpa using h)
theorem Lz(l:List Cmd)(k:Nat):(cmL l).drop (5*k)=cmL (l.drop k):=by
 induction l generalizing k with
 | nil=>simp[cmL]
 | cons c l ih =>
  cases k with
  | zero=>simp
  | succ k =>
   show(cmV c++cmL l).drop (5*(k+1))=cmL (l.drop k);rw[<- ih k,List.drop_append,show(cmV c).drop (5*(k+1))=[]from oc (by show 5<=_;omega),oJ,show 5*(k+1)-(cmV c).length=5*k by show 5*(k+1)-5=_;omega]
def Frz(g:Gh)(x:S3):Prop:=∀ a,x.a=some a->g.t a.block=.z
structure FSl(g:Gh)(w:World)(x:S3)(l:List Int):Prop where
 s:Sl w x.v l
 z:l≠[]->Frz g x
structure FSv(g:Gh)(w:World)(x:S3)(l:List Vt):Prop where
 s:Sv w x.v l
 z:l≠[]->Frz g x
end
section
variable{B:Nat}{T:List Tg}{g g':Gh}{w w':World}
section
variable{b i nb ob r:Nat}{bs:List Nat}{f:Cmd->Option Bal}{l:List Let}{x:S3}
theorem Cg.zc(c:Cg B T g w g' w')(e:Tg.z∉T){b:Nat}(d:b<w.heap.size)(a:g.t b=.z):w'.heap[b]?=w.heap[b]?:=c.same b d (by rw[a];exact e) (λh=>by rw[a]at h;cases h)
theorem FSl.ch{l:List Int}(h:FSl g w x l)(c:Cg B T g w g' w')(v:Tg.z∉T:=by simp):FSl g' w' x l:=by
 obtain⟨⟨⟨a,r,q,o,p,j⟩,k,m⟩,s⟩:=h;simp only[Value.slice.injEq]at q;obtain⟨rfl,e,rfl⟩:=q;rcases j with j|⟨b,off,ha,hbs,hcell⟩
 .exact⟨⟨⟨_,_,by simp only[Value.slice.injEq,and_true,true_and];exact e,o,p,.inl j⟩,k,m⟩,λh=>absurd j h⟩
 .have hne:∀ _:l≠[],g.t b=.z:=λh=>s h _ ha;by_cases f:l=[]
  .exact⟨⟨⟨_,_,by simp only[Value.slice.injEq,and_true,true_and];exact e,o,p,.inl f⟩,k,m⟩,λh=>absurd f h⟩
  .refine⟨⟨⟨_,_,by simp only[Value.slice.injEq,and_true,true_and];exact e,o,p,.inr ⟨b,off,ha,X' hbs c.size,λi u=>?_⟩⟩,k,m⟩,λ_ y d=>?_⟩
   .rw[World.cell?_of_block (w:=w) (c.zc v hbs (hne f))];exact hcell i u
   .rw[ha]at d;simp only[Z']at d;subst d;rw[c.tag hbs (λh=>absurd ((hne f).symm.trans h) (by simp))];exact hne f
theorem FSv.ch{l:List Vt}(h:FSv g w x l)(c:Cg B T g w g' w')(A:Tg.z∉T:=by simp):FSv g' w' x l:=by
 obtain⟨⟨⟨a,q,p,m,o,f⟩,k⟩,r⟩:=h;simp only[Value.slice.injEq]at p;obtain⟨rfl,e,rfl⟩:=p;rcases f with f|⟨b,off,ha,hbs,hcell⟩
 .exact⟨⟨⟨_,_,by simp only[Value.slice.injEq,and_true,true_and];exact e,m,o,.inl f⟩,k⟩,λh=>absurd f h⟩
 .by_cases hl:l=[]
  .exact⟨⟨⟨_,_,by simp only[Value.slice.injEq,and_true,true_and];exact e,m,o,.inl hl⟩,k⟩,λh=>absurd hl h⟩
  .have hzb:g.t b=.z:=r hl _ ha;refine⟨⟨⟨_,_,by simp only[Value.slice.injEq,and_true,true_and];exact e,m,o,.inr ⟨b,off,ha,X' hbs c.size,λi v s j u y=>?_⟩⟩,k⟩,λ_ C d=>?_⟩
   .rw[World.cell?_of_block (w:=w) (c.zc A hbs hzb)];exact hcell i v s j u y
   .rw[ha]at d;simp only[Z']at d;subst d;rw[c.tag hbs (λh=>absurd (hzb.symm.trans h) (by simp))];exact hzb
structure Rc(g:Gh)(w:World)(x:S3)(l:List Cmd):Prop where
 len:x.n=l.length
 cap:x.n<=x.c
 th:x.a=none->x.c=0
 ex:l=[]\/∃ b off,x.a=some ⟨b,off,none⟩/\b<w.heap.size/\(∀ j u,(cmL l)[j]?=some u->w.cell? ⟨b,off+j,none⟩=some u)/\(g.t b=.z\/off+5*l.length<=g.k b)
theorem Rc.nil(g:Gh)(w:World):Rc g w s30 []:=⟨rfl,A' _,λ_=>rfl,.inl rfl⟩
theorem Rc.ch{l:List Cmd}(h:Rc g w x l)(c:Cg B T g w g' w')(d:Tg.z∉T:=by simp):Rc g' w' x l:=by
 refine⟨h.len,h.cap,h.th,?_⟩;rcases h.ex with h1|⟨b,off,h1,h2,h3,h4⟩
 .exact .inl h1
 .refine .inr ⟨b,off,h1,X' h2 c.size,λj u a=>?_,?_⟩
  .rcases h4 with h4|h4
   .rw[World.cell?_of_block (w:=w) (c.zc d h2 h4)];exact h3 j u a
   .have hjl:j<(cmL l).length:=(V'.1 a).1;rw[BJ]at hjl
    rw[c.sK b h2 (off+j) (by omega)];exact h3 j u a
  .rcases h4 with h4|h4
   .exact .inl ((c.tag h2 (by rw[h4];intro h;cases h)).trans h4)
   .exact .inr (mS h4 (c.sL b h2))
structure Box(g:Gh)(w:World)(b:Nat)(cs:Array Value)(t:TypeId):Prop where
 r:w.heap[b]?=some (.cells cs t)
 z:g.t b=.z
theorem Box.ch{a:Array Value}{t:TypeId}(h:Box g w b a t)(c:Cg B T g w g' w')(d:Tg.z∉T:=by simp):Box g' w' b a t:=⟨(c.zc d (rl h.r) h.z).trans h.r,(c.tag (rl h.r) (by rw[h.z];intro h;cases h)).trans h.z⟩
def CP(g:Gh)(w:World)(b:Nat)(l:Let):Prop:=∃ vs wh,Box g w b (FF l vs wh) 183/\FSv g w vs l.mv/\Rc g w wh l.gC
theorem CP.ch{l:Let}(h:CP g w b l)(c:Cg B T g w g' w')(a:Tg.z∉T:=by simp):CP g' w' b l:=let ⟨vs,wh,h1,h2,h3⟩:=h;⟨vs,wh,h1.ch c a,h2.ch c a,h3.ch c a⟩
def Lk(g:Gh)(w:World)(nb:Nat)(v:Value):Pend->Prop
 | .began b vs=>∃ b1 b2 b3 x,v=.func (.func 94) #[] #[pt b1 0,pt b2 0,pt b3 0]/\Box g w b1 #[pt nb 0] 116/\Box g w b2 #[iv b.r,iv b.n] 121/\Box g w b3 #[S3.v x] 122/\FSv g w x vs
 | .prom to b vs=>∃ b1 b2 b3 x lb l,v=.func (.func 122) #[] #[pt b1 0,pt b2 0,pt b3 0]/\Box g w b1 #[pt nb 0] 116/\Box g w b2 #[pt lb 0] 184/\Box g w b3 #[S3.v x] 122/\FSv g w x vs/\CP g w lb l/\l.src=to/\l.hU=b
 | .voted to u=>∃ b1 b2 lb l,v=.func (.func 128) #[] #[pt b1 0,pt b2 0]/\Box g w b1 #[pt nb 0] 116/\Box g w b2 #[pt lb 0] 184/\CP g w lb l/\l.src=to/\l.cl=u
 | .ew to b=>∃ b1 b2 b3,v=.func (.func 156) #[] #[pt b1 0,pt b2 0,pt b3 0]/\Box g w b1 #[pt nb 0] 116/\Box g w b2 #[iv (to:Int)] 3/\Box g w b3 #[iv b.r,iv b.n] 121
 | .prop u=>∃ b1 b2,v=.func (.func 143) #[] #[pt b1 0,pt b2 0]/\Box g w b1 #[pt nb 0] 116/\Box g w b2 (vtA u) 181
 | .askNews to=>∃ b1 b2 lb l,v=.func (.func 130) #[] #[pt b1 0,pt b2 0]/\Box g w b1 #[pt nb 0] 116/\Box g w b2 #[pt lb 0] 184/\CP g w lb l/\l.src=to
 | .start=>∃ b1,v=.func (.func 107) #[] #[pt b1 0]/\Box g w b1 #[pt nb 0] 116
 | .tell to bt=>∃ b1 b2 lb l,v=.func (.func 132) #[] #[pt b1 0,pt b2 0]/\Box g w b1 #[pt nb 0] 116/\Box g w b2 #[pt lb 0] 184/\CP g w lb l/\l.src=to/\l.bt=bt
theorem Lk.ch{v:Value}{q:Pend}(h:Lk g w nb v q)(c:Cg B T g w g' w')(a:Tg.z∉T:=by simp):Lk g' w' nb v q:=by
 cases q with
 | began b vs=>obtain⟨d,i,p,x,e,f,j,k,m⟩:=h;exact⟨d,i,p,x,e,f.ch c a,j.ch c a,k.ch c a,m.ch c a⟩
 | prom to b vs=>obtain⟨d,i,p,x,o,l,e,f,j,k,m,r,s⟩:=h;exact⟨d,i,p,x,o,l,e,f.ch c a,j.ch c a,k.ch c a,m.ch c a,r.ch c a,s⟩
 | voted to u=>obtain⟨d,i,o,l,e,f,j,k,m⟩:=h;exact⟨d,i,o,l,e,f.ch c a,j.ch c a,k.ch c a,m⟩
 | ew to b=>obtain⟨d,i,p,e,f,j,k⟩:=h;exact⟨d,i,p,e,f.ch c a,j.ch c a,k.ch c a⟩
 | prop u=>obtain⟨d,i,e,f,j⟩:=h;exact⟨d,i,e,f.ch c a,j.ch c a⟩
 | askNews to=>obtain⟨d,i,o,l,e,f,j,k,m⟩:=h;exact⟨d,i,o,l,e,f.ch c a,j.ch c a,k.ch c a,m⟩
 | start=>obtain⟨d,e,f⟩:=h;exact⟨d,e,f.ch c a⟩
 | tell to bt=>obtain⟨d,i,o,l,e,f,j,k,m⟩:=h;exact⟨d,i,o,l,e,f.ch c a,j.ch c a,k.ch c a,m⟩
def mkA(x:Cmd × Bal × Nat):MapEntry:={ key:=.agg (cmV x.1).toArray,val:=.agg #[iv x.2.1.r,iv x.2.1.n],born:=x.2.2 }
structure AskAt(g:Gh)(w:World)(τ:Tg)(b:Nat)(f:Cmd->Option Bal):Prop where
 t:g.t b=τ
 k:g.k b=0
 ex:∃ (es:List (Cmd × Bal × Nat)) (clock:Nat),w.heap[b]?=some (.map (es.map mkA).toArray clock)/\(∀ x∈es,x.2.2<clock)/\(es.map (·.2.2)).Nodup/\(es.map (·.1)).Nodup/\∀ c,f c=(es.find? λx=>decide (c=x.1)).map (·.2.1)
def X0(g:Gh)(w:World)(i:Nat)(f:Cmd->Option Bal):Option Nat->Prop
 | some b=>AskAt g w (.n 5 i) b f
 | none=>f=λ_=>none
structure Pends(g:Gh)(w:World)(nb:Nat)(vs:List Value)(l:List Pend):Prop where
 len:vs.length=l.length
 at_:∀ (k:Nat) (v:Value) (q:Pend),vs[k]?=some v->l[k]?=some q->Lk g w nb v q
structure NodeAt(g:Gh)(w:World)(i nb ob:Nat)(x:NX)(p:Nod):Prop where
 row:w.heap[nb]?=some (.cells (AJ i ob p x) 136)
 tag:g.t nb=.n 0 i
 sL:g.k nb=0
 tape:FSl g w x.tape p.d
 mv:FSv g w x.mv p.vo.vs
 an:∀ j,j<5->FSv g w (x.hv j) (p.bn.an j).vs
 bu:∃ vs,OwnS g w (.n 1 i) true 1 1 x.synced vs/\Pends g w nb vs p.bu
 fa:OwnS g w (.n 2 i) false 24 5 x.fa (cmL p.bn.fa)
 ae:OwnS g w (.n 3 i) true 24 5 x.ae (cmL p.ae)
 av:OwnS g w (.n 4 i) false 24 5 x.av (cmL p.av)
 bN:X0 g w i p.bN x.bN
 sS:p.up=true->∃ b,x.bN=some b
structure Lets(g:Gh)(w:World)(bs:List Nat)(l:List Let):Prop where
 len:bs.length=l.length
 at_:∀ (k b:Nat) (m:Let),bs[k]?=some b->l[k]?=some m->CP g w b m
structure OutAt(g:Gh)(w:World)(ob:Nat)(lt tl:S3)(ls:List Let)(ts:List Tol):Prop where
 row:w.heap[ob]?=some (.cells #[lt.v,tl.v] 113)
 tag:g.t ob=.n 50 0
 sL:g.k ob=0
 br:∃ bs,OwnS g w (.n 51 0) false 184 1 lt (bs.map (pt · 0))/\Lets g w bs ls
 ed:OwnS g w (.n 52 0) false 142 5 tl (ts.flatMap FY)
theorem Pends.ch{a:List Value}{l:List Pend}(h:Pends g w nb a l)(c:Cg B T g w g' w')(e:Tg.z∉T:=by simp):Pends g' w' nb a l:=⟨h.len,λk v q b d=>(h.at_ k v q b d).ch c e⟩
theorem Lets.ch(h:Lets g w bs l)(c:Cg B T g w g' w')(d:Tg.z∉T:=by simp):Lets g' w' bs l:=⟨h.len,λk v q a b=>(h.at_ k v q a b).ch c d⟩
theorem Lets.snoc{m:Let}(h:Lets g w bs l)(f:CP g w b m):Lets g w (bs++[b]) (l++[m]):=by
 refine⟨by simp[h.len],λk c q a d=>?_⟩;by_cases e:k<bs.length
 .rw[nk e]at a
  rw[nk (by rw[<- h.len];exact e)]at d
  exact h.at_ k c q a d
 .rw[nr (by omega)]at a
  rw[nr (by rw[<- h.len];omega),<- h.len]at d
  cases hx:k-bs.length with
  | zero=>rw[hx]at a d;simp at a d;subst a d;exact f
  | succ n=>rw[hx]at a;simp at a
theorem Cg.rc(c:Cg B T g w g' w'){b:Nat}{o:Obj}{r i:Nat}(h:w.heap[b]?=some o)(a:g.t b=.n r i)(d:Tg.n r i∉T):w'.heap[b]?=some o/\g'.t b=.n r i/\g'.k b=g.k b :=
 ⟨(c.same b (rl h) (by rw[a];exact d) (λh=>by rw[a]at h;cases h)).trans h,(c.tag (rl h) (by rw[a];intro h;cases h)).trans a,c.tm b (rl h) (by rw[a];exact d) (by rw[a];intro h;cases h)⟩
theorem AskAt.ch(h:AskAt g w (.n r i) b f)(c:Cg B T g w g' w')(hn:Tg.n r i∉T:=by simp):AskAt g' w' (.n r i) b f:=by
 obtain⟨e,j,d,k,m,o⟩:=h;have a:=c.rc m e hn;exact⟨a.2.1,a.2.2.trans j,d,k,a.1,o⟩
theorem X0.ch{a:Option Nat}(h:X0 g w i f a)(c:Cg B T g w g' w')(hn:Tg.n 5 i∉T:=by simp):X0 g' w' i f a:=by
 cases a with
 | none=>exact h
 | some b=>exact AskAt.ch h c hn
theorem NodeAt.ch{x:NX}{p:Nod}(h:NodeAt g w i nb ob x p)(c:Cg B T g w g' w')(a:Tg.z∉T:=by simp)(hn:∀ r,r<6->Tg.n r i∉T:=by simp):NodeAt g' w' i nb ob x p:=by
 have b:=c.rc h.row h.tag (hn 0 (by omega));obtain⟨k,d,e⟩:=h.bu;exact⟨b.1,b.2.1,b.2.2.trans h.sL,h.tape.ch c a,h.mv.ch c a,λj f=>(h.an j f).ch c a,⟨k,d.ch c (hn 1 (by omega)) (by simp),e.ch c a⟩,h.fa.ch c (hn 2 (by omega)) (by simp),h.ae.ch c (hn 3 (by omega)) (by simp),h.av.ch c (hn 4 (by omega)) (by simp),h.bN.ch c (hn 5 (by omega)),h.sS⟩
theorem OutAt.ch{lt d:S3}{b:List Let}{e:List Tol}(h:OutAt g w ob lt d b e)(c:Cg B T g w g' w')(k:Tg.z∉T:=by simp)(hn:∀ r,50<=r->Tg.n r 0∉T:=by simp):OutAt g' w' ob lt d b e:=by
 have a:=c.rc h.row h.tag (hn 50 (by omega));obtain⟨f,i,j⟩:=h.br;exact⟨a.1,a.2.1,a.2.2.trans h.sL,⟨f,i.ch c (hn 51 (by omega)) (by simp),j.ch c k⟩,h.ed.ch c (hn 52 (by omega)) (by simp)⟩
end
end
section
def TN(i:Nat):List Tg:=[.n 0 i,.n 1 i,.n 2 i,.n 3 i,.n 4 i,.n 5 i,.n 50 0,.n 51 0,.n 52 0,.n 60 0]
theorem Bx(i:Nat):Tg.z∉TN i:=by simp[TN]
def NS(i nb ob:Nat)(g:Gh)(w:World)(p:Nod)(ls:List Let)(ts:List Tol):Prop:=∃ x lt tl,NodeAt g w i nb ob x p/\OutAt g w ob lt tl ls ts/\Jr g w
variable{B i nb ob:Nat}{T:List Tg}{e:TypeId}{g g':Gh}{l:List Pend}{ls:List Let}{p:Nod}{ts:List Tol}{w w':World}{x:S3}{τ:Tg}
theorem nsC{c:Nat}{x:NX}{lt b:S3}{L:List Sh}(d:NodeAt g w i nb ob x p)(e:OutAt g w ob lt b ls ts)(C:Cg B T g w g' w')(K:Kn c g' w' L)(a:Tg.z∉T:=by simp)(f:∀ r,r<6->Tg.n r i∉T:=by simp)(h:∀ r,50<=r->Tg.n r 0∉T:=by simp):NS i nb ob g' w' p ls ts:=⟨x,lt,b,d.ch C a f,e.ch C a h,K.new⟩
def NP(i nb ob:Nat)(g:Gh)(w:World)(v:Value)(p:Nod)(ls:List Let)(ts:List Tol):Ending->World->Prop:=λe w'=>∃ g',e=.returned v/\NS i nb ob g' w' p ls ts/\Cg w.heap.size (TN i) g w g' w'
theorem NS.new(h:NS i nb ob g w p ls ts):Jr g w:=let ⟨_,_,_,_,_,h⟩:=h;h
theorem NS.af(h:NS i nb ob g w p ls ts)(b:Bw w w'):NS i nb ob g w' p ls ts :=
 let ⟨x,lt,tl,h1,h2,h3⟩:=h
 have c:=Cg.eb (B:=0) (T:=[]) (g:=g) b
 ⟨x,lt,tl,h1.ch c,h2.ch c,λk a=>h3 k (mS b.size a)⟩
theorem NS.sr(h:NS i nb ob g w p ls ts)(c:Cg B [] g w g' w')(a:Jr g' w'):NS i nb ob g' w' p ls ts :=
 let ⟨x,lt,tl,h1,h2,_⟩:=h
 ⟨x,lt,tl,h1.ch c,h2.ch c,a⟩
theorem NodeAt.sQ{b:Nat}{x:NX}(h:NodeAt g w i nb ob x p)(a:x.bN=some b):AskAt g w (.n 5 i) b p.bN:=by have:=h.bN;rw[a]at this;exact this
theorem Ci(h:∃ vs,OwnS g w (.n 1 i) true 1 1 x vs/\Pends g w nb vs l)(c:Cg B T g w g' w')(b:Tg.z∉T:=by simp)(a:Tg.n 1 i∉T:=by simp):∃ vs,OwnS g' w' (.n 1 i) true 1 1 x vs/\Pends g' w' nb vs l :=
 let ⟨vs,h1,h2⟩:=h
 ⟨vs,h1.ch c a (by simp),h2.ch c b⟩
theorem Ep{l:List Let}(h:∃ bs:List Nat,OwnS g w (.n 51 0) false 184 1 x (bs.map (pt · 0))/\Lets g w bs l)(c:Cg B T g w g' w')(b:Tg.z∉T:=by simp)(a:Tg.n 51 0∉T:=by simp):∃ bs:List Nat,OwnS g' w' (.n 51 0) false 184 1 x (bs.map (pt · 0))/\Lets g' w' bs l :=
 let ⟨bs,h1,h2⟩:=h
 ⟨bs,h1.ch c a (by simp),h2.ch c b⟩
theorem B9{a:Nat->S3}{f:Nat->Acc}(h:∀ j,j<5->FSv g w (a j) (f j).vs)(c:Cg B T g w g' w')(d:Tg.z∉T:=by simp):∀ j,j<5->FSv g' w' (a j) (f j).vs:=λj b=>(h j b).ch c d
theorem Pends.snoc{d:List Value}{v:Value}{q:Pend}(h:Pends g w nb d l)(f:Lk g w nb v q):Pends g w nb (d++[v]) (l++[q]):=by
 refine⟨by simp[h.len],λk c m a b=>?_⟩;by_cases e:k<d.length
 .rw[nk e]at a
  rw[nk (by rw[<- h.len];exact e)]at b
  exact h.at_ k c m a b
 .rw[nr (by omega)]at a
  rw[nr (by rw[<- h.len];omega),<- h.len]at b
  cases hx:k-d.length with
  | zero=>rw[hx]at a b;simp at a b;subst a b;exact f
  | succ n=>rw[hx]at a;simp at a
theorem OwnS.num{a:Bool}{l:List Cmd}(h:OwnS g w τ a e 5 x (cmL l)):x.n=l.length:=by have:=h.len;rw[BJ]at this;omega
theorem OwnS.rc{l:List Cmd}(h:OwnS g w τ true e 5 x (cmL l)):Rc g w x l:=by
 have a:=h.num;rcases h.ex with⟨h1,h2,h3⟩|⟨b,cur,h1,h2,h3,h4,h5,h6,h7,h8⟩
 .exact⟨a,by omega,λ_=>h3,.inl (Y' (by omega))⟩
 .refine⟨a,h3,λh=>(by rw[h1]at h;cases h),.inr ⟨b,0,h1,rl h2,λj u c=>?_,.inr ?_⟩⟩
  .obtain⟨b',hb',_,hc⟩:=h.cell c;rw[h1]at hb'
   simp only[Z',Addr.mk.injEq,and_true]at hb';subst hb';rw[nM];exact hc
  .rw[h8,BJ];simp;omega
end
end
end Go.Proofs.YthkjeoamjgnpoaaGreatDoor
