/- Part 4 of the walk. -/
import Derived.Great.BuildSlice
import Derived.Test.YthohlalejhgbmaaGreatDoorZ3
set_option maxRecDepth 100000
set_option maxHeartbeats 4000000
open Go.Proofs.Tryz
set_option linter.unusedVariables false
namespace Go.Proofs.YthohlalejhgbmaaGreatDoor
section
section
structure Bal where
 r:Int
 n:Int
theorem Bal.eq_iff(a b:Bal):(a.r=b.r/\a.n=b.n)↔a=b:=by
 cases a;cases b;simp
instance:DecidableEq Bal:=λa b=>decidable_of_iff _ (Bal.eq_iff a b)
structure Cmd where
 k:Int
 c:Int
 s:Int
 n:Int
 v:Int
theorem Cmd.eq_iff(a b:Cmd):(a.k=b.k/\a.c=b.c/\a.s=b.s/\a.n=b.n/\a.v=b.v)↔a=b:=by
 cases a;cases b;simp
instance:DecidableEq Cmd:=λa b=>decidable_of_iff _ (Cmd.eq_iff a b)
structure Vt where
 au:Int
 b:Bal
 w:Cmd
theorem Vt.eq_iff(a b:Vt):(a.au=b.au/\a.b=b.b/\a.w=b.w)↔a=b:=by
 cases a;cases b;simp
instance:DecidableEq Vt:=λa b=>decidable_of_iff _ (Vt.eq_iff a b)
instance:Inhabited Vt:=⟨⟨0,⟨0,0⟩,⟨0,0,0,0,0⟩⟩⟩
structure Acc where
 p:Bal
 vs:List Vt
def Bal.lt(a b:Bal):Prop:=a.r<b.r\/(a.r=b.r/\a.n<b.n)
instance (a b:Bal):Decidable (a.lt b):=by unfold Bal.lt;exact inferInstance
def Bal.key(a:Bal):Int:=5*a.r+a.n
def Ad(a:Bal):Prop:=(1<=a.r/\a.r<=65536)/\0<=a.n/\a.n<=4
instance (a:Bal):Decidable (Ad a):=by unfold Ad;exact inferInstance
def Cmd.e(c:Cmd):Int:=AW c.k c.c c.s c.n c.v
def Ak(v:Vt):Prop:=(0<=v.au/\v.au<=39)/\Ad v.b/\v.w.e=0
instance (v:Vt):Decidable (Ak v):=by unfold Ak;exact inferInstance
def At(a:Bal):Prop:=Ad a\/(a.r=0/\a.n=0)
instance (a:Bal):Decidable (At a):=by unfold At;exact inferInstance
def B2:List Vt->Prop
 | []=>True
 | u::us=>(∀ v∈us,u.au<v.au)/\B2 us
def Ty:(l:List Vt)->Decidable (B2 l)
 | []=>isTrue trivial
 | u::us=>@instDecidableAnd _ _ inferInstance (Ty us)
instance (l:List Vt):Decidable (B2 l):=Ty l
def Ah(a:Acc):Prop:=At a.p/\(∀ v∈a.vs,Ak v/\¬ a.p.lt v.b)/\B2 a.vs
instance (a:Acc):Decidable (Ah a):=by unfold Ah;exact inferInstance
variable{a b:Bal}{l:List Vt}{v:Vt}
theorem IJ(c:At a)(d:At b):a.lt b↔a.key<b.key:=by
 unfold At Ad at c d;unfold Bal.lt Bal.key;omega
theorem H6(c:At a)(d:At b)(h:a.key=b.key):a=b:=by
 unfold At Ad at c d;unfold Bal.key at h;exact(Bal.eq_iff a b).1 (by omega)
theorem Ad.pr(h:Ad a):At a:=.inl h
theorem Ad.pos(h:Ad a):5<=a.key:=by unfold Ad at h;unfold Bal.key;omega
def EP(a:Acc):Int:=if Ah a then 0 else 5
def Cl(a:Acc)(b:Bal):Int:=if ¬ Ah a then 5 else if ¬ Ad b then 2 else if b.lt a.p then 7 else 0
def AV(a:Acc)(v:Vt):Int:=if ¬ Ah a then 5 else if ¬ Ak v then 2 else if v.b.lt a.p then 7 else 0
def Ba:List Vt->Vt->List Vt
 | [],v=>[v]
 | u::us,v=>if u.au<v.au then u::Ba us v else if u.au=v.au then v::us else v::u::us
theorem BR{u:Vt}(h:B2 l):u∈Ba l v↔u=v\/(u∈l/\u.au≠v.au):=by
 induction l with
 | nil=>simp[Ba]
 | cons x xs b =>
  obtain⟨c,a⟩:=h;have b:=b a;rw[Ba];split
  .rename_i h1
   rw[jQ,b];constructor
   .rintro(rfl|rfl|⟨h2,h3⟩)
    .exact .inr ⟨P',by omega⟩
    .exact .inl rfl
    .exact .inr ⟨O' _ h2,h3⟩
   .rintro(rfl|⟨h2,h3⟩)
    .exact .inr (.inl rfl)
    .rcases jQ.1 h2 with rfl|h2
     .exact .inl rfl
     .exact .inr (.inr ⟨h2,h3⟩)
  .split
   .rename_i h1 h2
    rw[jQ];constructor
    .rintro(rfl|h3)
     .exact .inl rfl
     .have:=c u h3;exact .inr ⟨O' _ h3,by omega⟩
    .rintro(rfl|⟨h3,h4⟩)
     .exact .inl rfl
     .rcases jQ.1 h3 with rfl|h3
      .exact absurd h2 h4
      .exact .inr h3
   .rename_i h1 h2
    rw[jQ];constructor
    .rintro(rfl|h3)
     .exact .inl rfl
     .rcases jQ.1 h3 with rfl|h4
      .exact .inr ⟨h3,h2⟩
      .have:=c u h4;exact .inr ⟨h3,by omega⟩
    .rintro(rfl|⟨h3,h4⟩)
     .exact .inl rfl
     .exact .inr h3
theorem IF(v:Vt)(h:B2 l):B2 (Ba l v):=by
 induction l with
 | nil=>exact⟨λu b=>(N' b).elim,trivial⟩
 | cons x xs ih =>
  obtain⟨c,a⟩:=h;rw[Ba];split
  .rename_i h1
   refine⟨λu b=>?_,ih a⟩;rcases(BR a).1 b with rfl|⟨h2,_⟩
   .exact h1
   .exact c u h2
  .split
   .rename_i h1 h2
    exact⟨λu b=>by have:=c u b;omega,a⟩
   .rename_i h1 h2
    refine⟨λu b=>?_,c,a⟩;rcases jQ.1 b with rfl|h3
    .omega
    .have:=c u h3;omega
def BQ:List Vt->Option Vt->Option Vt
 | [],o=>o
 | v::l,none=>BQ l (some v)
 | v::l,some u=>if u.b.lt v.b then BQ l (some v)else BQ l (some u)
theorem QH(l:List Vt)(u:Vt)(k:∀ v∈l,At v.b)(f:At u.b):∃ x,BQ l (some u)=some x/\(x=u\/x∈l)/\u.b.key<=x.b.key/\∀ v∈l,v.b.key<=x.b.key:=by
 induction l generalizing u with
 | nil=>exact⟨u,rfl,.inl rfl,kH _,λ_ h=>by cases h⟩
 | cons v l ih =>
  have i:=k v P';have j:∀ x∈l,At x.b:=λx hx=>k x (O' _ hx);rw[BQ];split
  .rename_i h1
   have a:=(IJ f i).1 h1;obtain⟨x,e,hx,c,d⟩:=ih v j i;refine⟨x,e,?_,by omega,?_⟩
   .rcases hx with rfl|hx
    .exact .inr P'
    .exact .inr (O' _ hx)
   .intro y hy;rcases jQ.1 hy with rfl|hy
    .exact c
    .exact d y hy
  .rename_i h1
   have a:¬ u.b.key<v.b.key:=λg=>h1 ((IJ f i).2 g);obtain⟨x,e,hx,c,d⟩:=ih u j f;refine⟨x,e,?_,c,?_⟩
   .rcases hx with rfl|hx
    .exact .inl rfl
    .exact .inr (O' _ hx)
   .intro y hy;rcases jQ.1 hy with rfl|hy
    .omega
    .exact d y hy
theorem QF(l:List Vt)(a:∀ v∈l,At v.b):(l=[]/\BQ l none=none)\/∃ x,BQ l none=some x/\x∈l/\∀ v∈l,v.b.key<=x.b.key:=by
 cases l with
 | nil=>exact .inl ⟨rfl,rfl⟩
 | cons v l =>
  right;obtain⟨x,e,hx,c,d⟩:=QH l v (λx hx=>a x (O' _ hx)) (a v P');refine⟨x,e,?_,?_⟩
  .rcases hx with rfl|hx
   .exact P'
   .exact O' _ hx
  .intro y hy;rcases jQ.1 hy with rfl|hy
   .exact c
   .exact d y hy
def Af(l:List Vt)(s:Int):List Vt:=l.filter λv=>decide (v.au=s)
theorem B1{s:Int}:v∈Af l s↔v∈l/\v.au=s:=by simp[Af]
def CM(ls:List (List Vt))(s:Int):Int:=if ¬ (0<=s/\s<=39)then 2 else if ∀ l∈ls,∀ v∈l,Ak v then 0 else 5
def GD(ls:List (List Vt))(s:Int):Option Vt:=BQ (Af ls.flatten s) none
def BO(l:List Vt)(v:Vt):Nat:=l.countP λu=>decide (u=v)
def GN(l:List Vt)(m:Nat):Option Vt:=l.find? λv=>decide (m<2*BO l v)
end
end
section
open Go.RowKit
section
def vtC(v:Vt):List Value:=[.int .i64 v.au,.int .i64 v.b.r,.int .i64 v.b.n,.int .i64 v.w.k,.int .i64 v.w.c,.int .i64 v.w.s,.int .i64 v.w.n,.int .i64 v.w.v]
def vtA(v:Vt):Array Value:=(vtC v).toArray
theorem Ce(v:Vt):(vtC v).length=8:=rfl
theorem dg(v:Vt):∀ u∈vtC v,u.oneCell'=true:=by
 intro u a;simp only[vtC,jQ,N',or_false]at a;rcases a with rfl|rfl|rfl|rfl|rfl|rfl|rfl|rfl<;>rfl
def vtL(l:List Vt):List Value:=l.flatMap vtC
theorem Mb(v:Vt)(l:List Vt):vtL (v::l)=vtC v++vtL l:=rfl
theorem SF(l m:List Vt):vtL (l++m)=vtL l++vtL m:=by simp[vtL]
theorem CH(l:List Vt):(vtL l).length=l.length*8:=by
 induction l with
 | nil=>rfl
 | cons v l ih=>rw[Mb,M',ih,Ce,ke];omega
theorem TH(l:List Vt):∀ u∈vtL l,u.oneCell'=true:=by
 intro u a;obtain⟨v,_,b⟩:=mp.1 a;exact dg v u b
theorem dh(l:List Vt)(i:Nat)(v:Vt)(h:l[i]?=some v)(j:Nat)(u:Value)(a:(vtC v)[j]?=some u):(vtL l)[8*i+j]?=some u:=by
 induction l generalizing i with
 | nil=>simp at h
 | cons x l ih =>
  have b:j<8:=by have:=(U'.1 a).1;rwa [Ce]at this
  rw[Mb];cases i with
  | zero =>
   simp at h;subst h;rw[jO (by rw[Ce];omega)];simpa using a
  | succ i =>
   rw[jP (by rw[Ce];omega),Ce,show 8*(i+1)+j-8=8*i+j by omega];exact ih i (by simpa using h)
theorem Zd(l:List Vt)(m:Nat)(u:Value)(h:(vtL l)[m]?=some u):∃ v,l[m/8]?=some v/\(vtC v)[m%8]?=some u:=by
 induction l generalizing m with
 | nil=>simp[vtL]at h
 | cons x l ih =>
  rw[Mb]at h
  rcases kt m 8 with hm|hm
  .rw[jO (by rw[Ce];omega)]at h
   exact⟨x,by rw[Nat.div_eq_of_lt hm];rfl,by rwa [mU hm]⟩
  .rw[jP (by rw[Ce];omega),Ce]at h
   obtain⟨v,a,b⟩:=ih (m-8) h;refine⟨v,?_,?_⟩
   .rw[show m/8=(m-8)/8+1 by omega];simpa using a
   .rw[show m%8=(m-8)%8 by omega];exact b
structure Sv(w:World)(x:Value)(l:List Vt):Prop where
 ex:∃ a cap,x=.slice a l.length cap/\l.length<=cap/\(a=none->cap=0)/\(l=[]\/∃ b off,a=some ⟨b,off,none⟩/\b<w.heap.size/\∀ i v,l[i]?=some v->w.rangeAt b (off+8*i) (vtC v))
 len:l.length<=2199023255488
variable{B base e n:Nat}{P:Program}{Q:Exit->Act->World->Prop}{a:Act}{l:List Vt}{ops:Array Oper}{w w':World}{x:Value}
theorem Sv.ab(h:Sv w x l)(e:Bw w w'):Sv w' x l:=by
 obtain⟨⟨a,c,rfl,g,n,d⟩,f⟩:=h;refine⟨⟨a,c,rfl,g,n,?_⟩,f⟩;rcases d with d|⟨b,off,ha,hbs,hcell⟩
 .exact .inl d
 .exact .inr ⟨b,off,ha,Y' hbs e.size,λi v k j u m=>(e.cell (p:=⟨b,off+8*i+j,none⟩) hbs).trans (hcell i v k j u m)⟩
theorem Sv.nil(w:World):Sv w (.slice none 0 0) []:=⟨⟨none,0,rfl,by simp,by simp,.inl rfl⟩,by simp⟩
theorem Sv.shape(h:Sv w x l):∃ a cap,x=.slice a l.length cap:=by
 obtain⟨⟨a,cap,e,_⟩,_⟩:=h;exact⟨a,cap,e⟩
theorem Sv.spot{a:Option Addr}{c:Nat}(h:Sv w (.slice a n c) l)(i:Nat)(v:Vt)(f:l[i]?=some v):∃ b off,a=some ⟨b,off,none⟩/\b<w.heap.size/\w.rangeAt b (off+8*i) (vtC v):=by
 obtain⟨⟨j,d,e,k,m,g⟩,_⟩:=h;simp only[Value.slice.injEq]at e;obtain⟨rfl,rfl,rfl⟩:=e;rcases g with rfl|⟨b,off,rfl,hb,hcell⟩
 .simp at f
 .exact⟨b,off,rfl,hb,hcell i v f⟩
theorem Sv.kc(h:w.ownsRow base e 8 x l.length (vtL l))(f:l.length<=2199023255488):Sv w x l:=by
 refine⟨?_,f⟩;rcases h.2 with⟨rfl,h0⟩|⟨g,cap,cur,rfl,_,hg,hn,_,hcs,ht⟩
 .exact⟨none,0,by rw[h0],by omega,λ_=>rfl,.inl (Z' h0)⟩
 .refine⟨_,cap,rfl,hn,by simp,.inr ⟨g,0,rfl,(H'.1 hg).1,λi v c j u d=>?_⟩⟩;have b:=h.cells (g:=g) rfl (8*i+j) u (dh l i v c j u d);have a:(⟨g,0,none⟩:Addr).add (8*i+j)=⟨g,8*i+j,none⟩:=by unfold Addr.add;split<;>simp_all
  rw[a]at b
  rw[kl];exact b
theorem MA(w:World)(c t s e:Nat)(z:Value)(C:P.underlying t=some (.slice e))(h:(P.info? e).map (λi=>(i.zero,i.size,i.bytes))=some (some z,8,64))(r:z.cells.size=8)(x:Value)(l:List Vt)(d:w.ownsRow c e 8 x l.length (vtL l))(u:Value)(m:List Vt)(M:Sv w u m)(B:l.length+m.length<=2199023255552)(g:c<=w.heap.size) :
  ∃ v' w',(Builtin.append_ #[t,t] s #[x,u]).run P w=.ok v' w'/\w'.ownsRow c e 8 v' (l++m).length (vtL (l++m))/\w.grownBy w' x.ownBlock:=by
 obtain⟨i,y,N,q,o⟩:=info_parts h;obtain⟨⟨a,n,rfl,O,J,D⟩,_⟩:=M;cases a with
 | none =>
  have p:=J rfl;subst p;have I:m=[]:=Z' (by omega);subst I;refine⟨x,w,?_,by simpa using d,⟨rfl,rfl,rfl,A' _,λ_ _ _=>rfl⟩⟩;exact run_append_owned_none (P:=P) (w:=w) c t s e i 8 C y x l.length _ d
 | some ad =>
  have f:∀ j u,(vtL m)[j]?=some u->w.cell? (ad.add j)=some u:=by
   intro j u A;rcases D with rfl|⟨b,off,hab,_,hcell⟩
   .simp[vtL]at A
   .obtain rfl:ad=⟨b,off,none⟩:=by simpa using hab
    obtain⟨v,E,F⟩:=Zd m j u A;have k:(⟨b,off,none⟩:Addr).add j=⟨b,off+j,none⟩:=by unfold Addr.add;split<;>simp_all
    rw[k];have G:=hcell (j/8) v E (j%8) u F
    rwa [show off+8*(j/8)+j%8=off+j by omega]at G
  obtain⟨v',w',L,K,H,_⟩:=run_append_own (P:=P) w c t s e i z 8 64 C y N q o r (by decide) x l.length _ d ad m.length n (vtL m) (CH m) f (TH m)
   (by unfold maxLen;omega) (by omega) g
  exact⟨v',w',L,by rw[SF,M'];exact K,H⟩
theorem Bj(w:World){n:Array Oper}{c:List Oper}{o:Oper}{a:Act}{Q:Exit->Act->World->Prop}(p:o.guard=none)(s x:Operand)(t:TypeId)(y:o.op=.call { callee:=.builtin .append,args:=#[s,x],argTypes:=#[t,t] })(b e:Nat)(z:Value)(B:P.underlying t=some (.slice e))(f:(P.info? e).map (λi=>(i.zero,i.size,i.bytes))=some (some z,8,64))(q:z.cells.size=8)(v u:Value)(A:a.eval s=v)(D:a.eval x=u)(l m:List Vt)(j:w.ownsRow b e 8 v l.length (vtL l))(C:Sv w u m)(g:l.length+m.length<=2199023255552)(d:b<=w.heap.size)(h:∀ v' w',w'.ownsRow b e 8 v' (l++m).length (vtL (l++m))->w.grownBy w' v.ownBlock->wpList P n Q c (a.put o.dst v') w'):wpList P n Q (o::c) a w:=by
 refine wpList_plain p λK r=>?_;obtain⟨v',w',k,E,F⟩:=MA (P:=P) w b t o.type e z B f q v l j u m C g d;unfold Oper.wp execOp;simp only[y,resolve,invoke,builtin,Sem.run_bind,Sem.run_pure,Result.andThen_ok,mn,kf,lh,A,D,k];exact r _ _ (h v' w' E F)
theorem Sv.one(w:World)(v:Vt)(e:TypeId){g:Nat}(b:g=w.heap.size):Sv (w.alloc (.cells (vtA v) e)) (.slice (some ⟨g,0,none⟩) 1 1) [v]:=by
 subst b;refine⟨⟨_,1,rfl,A' _,by simp,.inr ⟨w.heap.size,0,rfl,by simp,λi u a j x c=>?_⟩⟩,by simp⟩;cases i with
 | zero =>
  simp at a;subst a;rw[cell_of_row _ _ (0+8*0+j) _ _ _ (heap_alloc_new w (.cells (vtA v) e))];simpa[vtA]using c
 | succ i=>simp at a
def zVt:Value:=.agg zV8
theorem Et:(prog.info? 148).map (λi=>(i.zero,i.size,i.bytes))=some (some zVt,8,64):=by kernel_rfl
theorem Y6(v:Vt):(prog.info? 148).map (·.size)=some (vtC v).length:=by show _=some 8;kernel_rfl
theorem Re:prog.elem 89=148:=by kernel_rfl
theorem Sw(w:World):(Go.sizeOf 148).run prog w=.ok 8 w:=by
 obtain⟨i,b,_,a,_⟩:=info_parts Et;simp[sizeOf,typeInfo,b,a]
theorem IS(b o n c:Nat)(i:Nat)(a:i<n)(w:World):(Instr.indexAt 89 (.slice (some ⟨b,o,none⟩) n c) (.int .i64 (i:Int))).run prog w=.ok (.pointer (some ⟨b,o+8*i,none⟩)) w:=by
 rw[run_indexAt_slice (P:=prog) w 89 _ n c .i64 _ underlying89,if_pos ⟨by omega,by omega⟩,Re,Sw];simp[Result.andThen,Addr.add_mid,Nat.mul_comm]
theorem CF{l:List Oper}(h:wpList P ops Q l a w):wpList P ops Q l a w:=h
theorem Fr(l:List Vt)(k:Nat)(v:Vt)(h:l[k]?=some v):l.take (k+1)=l.take k++[v]:=by
 obtain⟨a,e⟩:=U'.1 h;rw[jT a,e]
def acA(p:Bal)(x:Value):Array Value:=#[.int .i64 p.r,.int .i64 p.n,x]
theorem VR:(prog.info? 88).map (·.size)=some 2:=by kernel_rfl
theorem RX(h:Below B w w'){b o:Nat}{a:List Value}(c:b<B)(d:w.rangeAt b o a):w'.rangeAt b o a :=
 λj v e=>(h.cell (p:=⟨b,o+j,none⟩) c).trans (d j v e)
theorem Ec{a:World}(h:Below B a w){g:Nat}(c:B<=g)(b:Array Value):Below B a (w.setRow g b) :=
 h.trans ⟨rfl,rfl,rfl,by simp,λk d=>setRow_other w g k b (by omega)⟩
theorem dl{S:World->Prop}{op:Oper}(e:Region.wanted op (yielded ops a.tmps)=true)(x:Operand)(d:op.op=.load 148 x)(g:Nat)(f:a.eval x=.pointer (some ⟨g,0,none⟩))(v:Vt)(c:∀ w,S w->w.heap[g]?=some (.cells (vtA v) 148)):YieldsIf prog ops S op (.agg (vtA v)) a :=
 .inl ⟨e,λw b=>by
  unfold execOp;simp only[d,f,Instr.loadAt,Instr.sureAddr,Sem.run_bind,Sem.run_pure,Result.andThen_ok,run_loadVar_row w g 148 148 _ (0,0) _ (c w b) underlying148 rfl (show _=some (vtA v).size from Y6 v)]⟩
theorem i5{P:Program}{f:Func}{p u v:Tmp}{c:TypeId}(h:f.results=#[.cell p c,.tmp u,.tmp v])(a:Array Value)(w:World)(g:Nat)(t:TypeId)(b:Array Value)(fr:Nat × Nat)(d:TypeDesc)(l:a.getD p undef=.pointer (some ⟨g,0,none⟩))(j:w.heap[g]?=some (.cells b t fr))(m:P.underlying c=some d)(i:(match d with|.struct _|.array _ _=>true|_=>false)=true)(k:(P.info? c).map (·.size)=some b.size) :
  (results f a).run P w=.ok (.tuple #[.agg b,a.getD u undef,a.getD v undef]) w:=by
 have e:a[p]?.getD undef=.pointer (some ⟨g,0,none⟩):=by simpa using l
 simp[results,h,e,asAddr,run_loadVar_row w g t c b fr d j m i k]
theorem RU{a:Nat}{v:Value}{b:List Value}(h:w.ownsRow base e a v n b)(c:∀ k,v.ownBlock=some k->w'.heap[k]?=w.heap[k]?):w'.ownsRow base e a v n b:=by
 refine⟨h.1,?_⟩;rcases h.2 with h2|⟨g,cap,cur,hv,hb,hg,hr⟩
 .exact .inl h2
 .exact .inr ⟨g,cap,cur,hv,hb,(c g (by rw[hv];rfl)).trans hg,hr⟩
theorem gp(v:Vt):(prog.info? 148).map (·.size)=some (vtA v).size:=by show _=some 8;kernel_rfl
theorem dA{P:Program}{f:Func}{p u:Tmp}{c:TypeId}(h:f.results=#[.cell p c,.tmp u])(a:Array Value)(w:World)(g:Nat)(t:TypeId)(b:Array Value)(fr:Nat × Nat)(d:TypeDesc)(l:a.getD p undef=.pointer (some ⟨g,0,none⟩))(j:w.heap[g]?=some (.cells b t fr))(m:P.underlying c=some d)(i:(match d with|.struct _|.array _ _=>true|_=>false)=true)(k:(P.info? c).map (·.size)=some b.size) :
  (results f a).run P w=.ok (.tuple #[.agg b,a.getD u undef]) w:=by
 have e:a[p]?.getD undef=.pointer (some ⟨g,0,none⟩):=by simpa using l
 simp[results,h,e,asAddr,run_loadVar_row w g t c b fr d j m i k]
def cmC(c:Cmd):Array Value:=cmA c.k c.c c.s c.n c.v
theorem ZY(a b c d:Int):∀ w,(binOp .eql 88 (.agg #[.int .i64 a,.int .i64 b]) (.agg #[.int .i64 c,.int .i64 d])).run prog w=.ok (.bool (decide (a=c/\b=d))) w:=by
 intro w;rw[run_eql_struct,run_equalIn_agg w 9999 _ _ _ (by kernel_rfl) (by kernel_rfl)];unfold Program.fieldsOf;rw[underlying88];have e:=underlying3;simp[Op.eqFields,go_sem,e]
 repeat' split
 all_goals simp_all
theorem WI(a b c d e f g h i j k l m n o p:Int):∀ w,(binOp .eql 148 (.agg #[.int .i64 a,.int .i64 b,.int .i64 c,.int .i64 d,.int .i64 e,.int .i64 f,.int .i64 g,.int .i64 h]) (.agg #[.int .i64 i,.int .i64 j,.int .i64 k,.int .i64 l,.int .i64 m,.int .i64 n,.int .i64 o,.int .i64 p])).run prog w=.ok (.bool (decide (a=i/\b=j/\c=k/\d=l/\e=m/\f=n/\g=o/\h=p))) w:=by
 intro w;rw[run_eql_struct,run_equalIn_agg w 9999 _ _ _ (by kernel_rfl) (by kernel_rfl)];unfold Program.fieldsOf;rw[underlying148];have q:=underlying3;have r:=underlying88;have s:=underlying47;simp[Op.eqFields,go_sem,q,r,s]
 repeat' split
 all_goals simp_all
end
end
section
section
def Ms(l:List Vt)(v:Vt):Nat->List Vt
 | 0=>[]
 | k+1=>Ms l v k++(if(k:Int)=v.au then[v]else Af l k)
variable{a b l:List Vt}{v:Vt}
theorem Qe(c:B2 a)(d:B2 b)(h:∀ x∈a,∀ y∈b,x.au<y.au):B2 (a++b):=by
 induction a with
 | nil=>exact d
 | cons x xs ih =>
  refine⟨λu hu=>?_,ih c.2 (λy e=>h y (O' _ e))⟩;rcases Q'.1 hu with hu|hu
  .exact c.1 u hu
  .exact h x P' u hu
theorem J5(h:B2 l)(q:Vt->Bool):B2 (l.filter q):=by
 induction l with
 | nil=>trivial
 | cons x xs ih =>
  rw[List.filter_cons];split
  .exact⟨λu a=>h.1 u (List.mem_filter.1 a).1,ih h.2⟩
  .exact ih h.2
theorem Yk(c:B2 a)(d:B2 b)(h:∀ u,u∈a↔u∈b):a=b:=by
 induction a generalizing b with
 | nil =>
  cases b with
  | nil=>rfl
  | cons y ys=>exact absurd ((h y).2 P') (N')
 | cons x xs ih =>
  cases b with
  | nil=>exact absurd ((h x).1 P') (N')
  | cons y ys =>
   have f:x=y:=by
    rcases jQ.1 ((h x).1 P')with e|e
    .exact e
    .rcases jQ.1 ((h y).2 P')with e'|e'
     .exact e'.symm
     .have:=c.1 y e';have:=d.1 x e;omega
   subst f;rw[ih c.2 d.2 (λu=>?_)];constructor
   .intro hu;rcases jQ.1 ((h u).1 (O' _ hu))with rfl|e
    .have:=c.1 u hu;omega
    .exact e
   .intro hu;rcases jQ.1 ((h u).2 (O' _ hu))with rfl|e
    .have:=d.1 u hu;omega
    .exact e
theorem Pw(k:Nat)(u:Vt):u∈Ms l v k↔(0<=u.au/\u.au<k)/\(u=v\/(u∈l/\u.au≠v.au)):=by
 induction k with
 | zero=>simp[Ms];omega
 | succ k ih =>
  rw[Ms,Q',ih];by_cases a:(k:Int)=v.au
  .rw[if_pos a,G'];constructor
   .rintro(⟨h1,h2⟩|rfl)
    .exact⟨by omega,h2⟩
    .exact⟨by omega,.inl rfl⟩
   .rintro⟨h1,rfl|⟨h2,h3⟩⟩
    .exact .inr rfl
    .exact .inl ⟨by omega,.inr ⟨h2,h3⟩⟩
  .rw[if_neg a,B1];constructor
   .rintro(⟨h1,h2⟩|⟨h1,h2⟩)
    .exact⟨by omega,h2⟩
    .exact⟨by omega,.inr ⟨h1,by omega⟩⟩
   .rintro⟨h1,rfl|⟨h2,h3⟩⟩
    .exact .inl ⟨by omega,.inl rfl⟩
    .by_cases h4:u.au=k
     .exact .inr ⟨h2,h4⟩
     .exact .inl ⟨by omega,.inr ⟨h2,h3⟩⟩
theorem IP(h:B2 l)(s:Int):(Af l s).length<=1:=by
 match e:Af l s with
 | []=>simp
 | [_]=>simp
 | x::y::r =>
  have a:B2 (Af l s):=J5 h _;have b:=(B1.1 (show x∈Af l s by rw[e];simp)).2;have c:=(B1.1 (show y∈Af l s by rw[e];simp)).2;rw[e]at a
  have:=a.1 y P';omega
theorem WY(v:Vt)(h:B2 l)(k:Nat):(Ms l v k).length<=k:=by
 induction k with
 | zero=>simp[Ms]
 | succ k ih =>
  rw[Ms,M'];have:=IP h k;split
  .simp;omega
  .omega
theorem Ur(v:Vt)(h:B2 l)(k:Nat):B2 (Ms l v k):=by
 induction k with
 | zero=>trivial
 | succ k ih =>
  rw[Ms];refine Qe ih ?_ ?_
  .split
   .exact⟨λu a=>(N' a).elim,trivial⟩
   .exact J5 h _
  .intro x hx y hy;have b:=((Pw k x).1 hx).1;split at hy
   .obtain rfl:y=v:=by simpa using hy
    omega
   .have:=(B1.1 hy).2;omega
theorem aF(k:Nat)(h:B2 l)(b:∀ u∈l,0<=u.au/\u.au<k)(c:0<=v.au/\v.au<k):Ms l v k=Ba l v:=by
 refine Yk (Ur v h k) (IF v h) λu=>?_;rw[Pw,BR h];constructor
 .exact λa=>a.2
 .rintro(rfl|⟨h1,h2⟩)
  .exact⟨c,.inl rfl⟩
  .exact⟨b u h1,.inr ⟨h1,h2⟩⟩
theorem Jx(l:List Vt)(u:Vt)(s:Int):Af (l++[u]) s=Af l s++(if u.au=s then[u]else[]):=by
 unfold Af;rw[ma];by_cases h:u.au=s<;>simp[h]
theorem Vy(a:List (List Vt))(j:Nat)(l:List Vt)(h:a[j]?=some l):(a.take (j+1)).flatten=(a.take j).flatten++l:=by
 obtain⟨b,e⟩:=U'.1 h;rw[jT b,e];simp
theorem Dm(a b:List Vt)(s:Int):Af (a++b) s=Af a s++Af b s:=by unfold Af;rw[ma]
end
end
section
open Go.RowKit
section
structure Sac(w:World)(x:Value)(ac:List Acc):Prop where
 ex:∃ a cap,x=.slice a ac.length cap/\(ac=[]\/∃ b off,a=some ⟨b,off,none⟩/\b<w.heap.size/\∀ (i:Nat) (A:Acc),ac[i]?=some A->∃ y,w.rangeAt b (off+3*i) [.int .i64 A.p.r,.int .i64 A.p.n,y]/\Sv w y A.vs)
 len:ac.length<=3518437208780
variable{ac:List Acc}{s:Int}{w:World}{x:Value}
theorem Sac.ab{f:World}(h:Sac w x ac)(e:Bw w f):Sac f x ac:=by
 obtain⟨⟨a,c,rfl,d⟩,g⟩:=h;refine⟨⟨a,c,rfl,?_⟩,g⟩;rcases d with d|⟨b,off,ha,hbs,hc⟩
 .exact .inl d
 .refine .inr ⟨b,off,ha,Y' hbs e.size,λi A l=>?_⟩;obtain⟨y,j,k⟩:=hc i A l;exact⟨y,RX e hbs j,k.ab e⟩
theorem Sac.shape(h:Sac w x ac):∃ a cap,x=.slice a ac.length cap:=by
 obtain⟨⟨a,cap,e,_⟩,_⟩:=h;exact⟨a,cap,e⟩
theorem Sac.spot{a:Option Addr}{n c:Nat}(h:Sac w (.slice a n c) ac)(i:Nat)(A:Acc)(f:ac[i]?=some A):∃ b off y,a=some ⟨b,off,none⟩/\b<w.heap.size/\w.rangeAt b (off+3*i) [.int .i64 A.p.r,.int .i64 A.p.n,y]/\Sv w y A.vs:=by
 obtain⟨⟨j,d,e,g⟩,_⟩:=h;simp only[Value.slice.injEq]at e;obtain⟨rfl,rfl,rfl⟩:=e;rcases g with rfl|⟨b,off,rfl,hb,hc⟩
 .simp at f
 .obtain⟨y,h3,h4⟩:=hc i A f;exact⟨b,off,y,rfl,hb,h3,h4⟩
theorem eL:prog.elem 214=91:=by kernel_rfl
theorem ga(w:World):(Go.sizeOf 91).run prog w=.ok 3 w:=by
 have h:(prog.info? 91).map (·.size)=some 3:=by kernel_rfl
 cases hi:prog.info? 91 with
 | none=>rw[hi]at h;cases h
 | some i =>
  rw[hi]at h
  simp at h;simp[sizeOf,typeInfo,hi,h]
theorem Vi(b o n c:Nat)(i:Nat)(a:i<n)(w:World):(Instr.indexAt 214 (.slice (some ⟨b,o,none⟩) n c) (.int .i64 (i:Int))).run prog w=.ok (.pointer (some ⟨b,o+3*i,none⟩)) w:=by
 rw[run_indexAt_slice (P:=prog) w 214 _ n c .i64 _ underlying214,if_pos ⟨by omega,by omega⟩,eL,ga];simp[Result.andThen,Addr.add_mid,Nat.mul_comm]
def DU(ac:List Acc)(s:Int):List Vt:=Af (ac.map (·.vs)).flatten s
def Dp(ac:List Acc)(s:Int):Int:=if ¬ ((0<=s/\s<=39)/\(1<=(ac.length:Int)/\(ac.length:Int)<=5))then 2 else if ¬ ∀ a∈ac,Ah a then 5 else if(GN (DU ac s) ac.length).isSome then 0 else 9
def CE(ac:List Acc)(s:Int):Cmd:=if Dp ac s=0 then((GN (DU ac s) ac.length).map (·.w)).getD ⟨0,0,0,0,0⟩else⟨0,0,0,0,0⟩
theorem Df(h:¬ ((0<=s/\s<=39)/\(1<=(ac.length:Int)/\(ac.length:Int)<=5))):CE ac s=⟨0,0,0,0,0⟩/\Dp ac s=2:=by
 have e:Dp ac s=2:=if_pos h;exact⟨if_neg (by rw[e];decide),e⟩
theorem Ua(h:(0<=s/\s<=39)/\(1<=(ac.length:Int)/\(ac.length:Int)<=5))(b:¬ ∀ a∈ac,Ah a):CE ac s=⟨0,0,0,0,0⟩/\Dp ac s=5:=by
 have e:Dp ac s=5:=by unfold Dp;rw[if_neg (λg=>g h),if_pos b]
 exact⟨if_neg (by rw[e];decide),e⟩
theorem Wg(h:(0<=s/\s<=39)/\(1<=(ac.length:Int)/\(ac.length:Int)<=5))(b:∀ a∈ac,Ah a)(c:GN (DU ac s) ac.length=none):CE ac s=⟨0,0,0,0,0⟩/\Dp ac s=9:=by
 have e:Dp ac s=9:=by unfold Dp;rw[if_neg (λg=>g h),if_neg (λg=>g b),c];rfl
 exact⟨if_neg (by rw[e];decide),e⟩
theorem Wi(h:(0<=s/\s<=39)/\(1<=(ac.length:Int)/\(ac.length:Int)<=5))(c:∀ a∈ac,Ah a){x:Vt}(b:GN (DU ac s) ac.length=some x):CE ac s=x.w/\Dp ac s=0:=by
 have e:Dp ac s=0:=by unfold Dp;rw[if_neg (λg=>g h),if_neg (λg=>g c),b];rfl
 exact⟨by unfold CE;rw[if_pos e,b];rfl,e⟩
theorem eE{c:List Acc}(h:∀ a∈c,Ah a)(s:Int):(Af (c.map (·.vs)).flatten s).length<=c.length:=by
 induction c with
 | nil=>simp[Af]
 | cons a c ih =>
  have e:=IP (h a P').2.2 s;have f:=ih (λb d=>h b (O' _ d));simp only[kf,List.flatten_cons,ke];rw[Dm,M'];omega
theorem S6(ac:List Acc)(j:Nat)(a:Acc)(h:ac[j]?=some a):((ac.take (j+1)).map (·.vs)).flatten=((ac.take j).map (·.vs)).flatten++a.vs:=by
 obtain⟨b,e⟩:=U'.1 h;rw[jT b,e];simp
end
end
section
end
section
open Go.RowKit
section
def baA(b:Bal):Array Value:=#[.int .i64 b.r,.int .i64 b.n]
theorem Nu(l:List Vt)(v:Vt):B2 (l++[v])↔B2 l/\∀ u∈l,u.au<v.au:=by
 induction l with
 | nil=>exact⟨λ_=>⟨trivial,λu hu=>(N' hu).elim⟩,λ_=>⟨λu hu=>(N' hu).elim,trivial⟩⟩
 | cons x xs ih =>
  show((∀ u∈xs++[v],x.au<u.au)/\B2 (xs++[v]))↔((∀ u∈xs,x.au<u.au)/\B2 xs)/\∀ u∈x::xs,u.au<v.au;rw[ih];constructor
  .rintro⟨h1,h2,h3⟩;refine⟨⟨λu hu=>h1 u (ks _ hu),h2⟩,λu hu=>?_⟩;rcases jQ.1 hu with rfl|hu
   .exact h1 v (kw _ P')
   .exact h3 u hu
  .rintro⟨⟨h1,h2⟩,h3⟩;refine⟨λu hu=>?_,h2,λu hu=>h3 u (O' _ hu)⟩;rcases Q'.1 hu with hu|hu
   .exact h1 u hu
   .obtain rfl:u=v:=by simpa using hu
    exact h3 x P'
def ED(a:Acc)(b:Bal):Bal:=if Cl a b=0 then b else⟨0,0⟩
def Du(a:Acc)(b:Bal):List Vt:=if Cl a b=0 then a.vs else[]
def BG(a:Acc)(v:Vt):Bal:=if AV a v=0 then v.b else⟨0,0⟩
def Bu(a:Acc)(v:Vt):List Vt:=if AV a v=0 then Ba a.vs v else[]
def GC(ls:List (List Vt))(s:Int):Cmd:=if CM ls s=0 then((GD ls s).map (·.w)).getD ⟨0,0,0,0,0⟩else⟨0,0,0,0,0⟩
def Fx(ls:List (List Vt))(s:Int):Bool:=if CM ls s=0 then(GD ls s).isSome else false
variable{l:List Vt}{ls:List (List Vt)}{s:Int}
theorem Lt(h:¬ (0<=s/\s<=39)):GC ls s=⟨0,0,0,0,0⟩/\Fx ls s=false/\CM ls s=2:=by
 have e:CM ls s=2:=if_pos h;exact⟨if_neg (by rw[e];decide),if_neg (by rw[e];decide),e⟩
theorem Se(h:0<=s/\s<=39)(a:¬ ∀ l∈ls,∀ v∈l,Ak v):GC ls s=⟨0,0,0,0,0⟩/\Fx ls s=false/\CM ls s=5:=by
 have e:CM ls s=5:=by unfold CM;rw[if_neg (λg=>g h),if_neg a]
 exact⟨if_neg (by rw[e];decide),if_neg (by rw[e];decide),e⟩
theorem YQ{j:Nat}(h:ls[j]?=some l)(b:∀ l∈ls.take j,∀ v∈l,Ak v)(c:∀ v∈l,Ak v):∀ l∈ls.take (j+1),∀ v∈l,Ak v:=by
 obtain⟨d,e⟩:=U'.1 h;rw[jT d,e];intro l' a;rcases Q'.1 a with g|g
 .exact b l' g
 .obtain rfl:l'=l:=by simpa using g
  exact c
theorem YR{k:Nat}{u:Vt}(h:l[k]?=some u)(a:∀ v∈l.take k,Ak v)(b:Ak u):∀ v∈l.take (k+1),Ak v:=by
 rw[Fr l k u h];intro v c;rcases Q'.1 c with g|g
 .exact a v g
 .obtain rfl:v=u:=by simpa using g
  exact b
def AZ(d:List Int)(s:Int):Prop:=d.length<=100000/\0<=s/\s<=(d.length:Int)
instance (d:List Int) (s:Int):Decidable (AZ d s):=by unfold AZ;exact inferInstance
def CZ(d:List Int)(s:Int):Int:=if AZ d s then 0 else 5
def Hg(d:List Int)(s:Int):List Int:=if AZ d s then d else[]
def Iv(d:List Int)(s:Int):Int:=if AZ d s then(d.length:Int)else 0
def FA(d:List Int)(s k:Int):Int:=if k<(d.length:Int)-s then s+k else(d.length:Int)
def Gx(d:List Int)(s k:Int):Int:=if ¬ AZ d s then 5 else if k<0 then 2 else 0
def JH(d:List Int)(s k:Int):List Int:=if Gx d s k=0 then d.take (FA d s k).toNat else[]
def JI(d:List Int)(s k:Int):Int:=if Gx d s k=0 then FA d s k else 0
def tpA(x:Value)(s:Int):Array Value:=#[x,.int .i64 s]
theorem LW:(prog.info? 101).map (·.size)=some 2:=by kernel_rfl
theorem YU(x:Option Addr)(n c:Nat)(s:Int):(#[.slice x n c,.int .i64 s]:Array Value).all (·.oneCell')=true:=by simp[Value.oneCell']
end
end
section
section
def D0(b:List Int):List Int:=(b.length:Int)::b
def AG(b:List Int):List Int:=D0 b++(dig (D0 b)).take 4
theorem Cj(b:List Int):(D0 b).length=b.length+1:=rfl
theorem Be(b:List Int):(AG b).length=b.length+5:=by
 unfold AG;rw[M',Cj,X',Ao];omega
def Bo(b:Bal):List Int:=1::(Ab b.r++Ab b.n)
def Bd(v:Vt):List Int:=2::(Ab v.au++(Ab v.b.r++(Ab v.b.n++CS v.w.k v.w.c v.w.s v.w.n v.w.v)))
theorem Q3(v:Vt):(Bd v).length=33:=rfl
theorem UX(b:Bal):∀ x∈Bo b,0<=x/\x<256:=by
 intro x hx;rcases jQ.1 hx with rfl|hx
 .omega
 .rcases Q'.1 hx with hx|hx
  .exact Au _ x hx
  .exact Au _ x hx
theorem V9(v:Vt):∀ x∈Bd v,0<=x/\x<256:=by
 intro x hx;rcases jQ.1 hx with rfl|hx
 .omega
 .rcases Q'.1 hx with hx|hx
  .exact Au _ x hx
  .rcases Q'.1 hx with hx|hx
   .exact Au _ x hx
   .rcases Q'.1 hx with hx|hx
    .exact Au _ x hx
    .exact Gj _ _ _ _ _ x hx
variable{N k m n:Nat}{a b c:Acc}{all:List Acc}{bs:List (List Int)}{r:List Int}
theorem KY{b:List Int}(a:∀ x∈b,0<=x/\x<256)(c:b.length<=255):∀ x∈D0 b,0<=x/\x<256:=by
 intro x hx;rcases jQ.1 hx with rfl|hx
 .omega
 .exact a x hx
theorem L3{b:List Int}(a:∀ x∈b,0<=x/\x<256)(c:b.length<=255):∀ x∈AG b,0<=x/\x<256:=by
 intro x hx;rcases Q'.1 hx with hx|hx
 .exact KY a c x hx
 .exact CT _ x (jU hx)
def ZO(l:List Int):Cmd:=⟨Ac l 0,Ac l 4,Ac l 8,Ac l 12,Ac l 16⟩
def F6(b:List Int):Bal:=⟨Ac b 1,Ac b 5⟩
def Fu(b:List Int):Vt:=⟨Ac b 1,⟨Ac b 5,Ac b 9⟩,ZO (b.drop 13)⟩
def Dr(a:Acc)(b:List Int):Option Acc :=
 if b.length=9/\b.getD 0 0=1 then(if Cl a (F6 b)=0 then some ⟨F6 b,a.vs⟩else none)
 else if b.length=33/\b.getD 0 0=2 then(if Ca (b.drop 13)=0 then(if AV a (Fu b)=0 then some ⟨(Fu b).b,Ba a.vs (Fu b)⟩else none)else none)
 else none
def BJ(r:List Int)(a:Acc):Option (Acc × Nat) :=
 if r=[]then none
 else if r.length<(r.getD 0 0).toNat+5 then none
 else if(dig (r.take ((r.getD 0 0).toNat+1))).take 4≠(r.drop ((r.getD 0 0).toNat+1)).take 4 then none
 else(Dr a ((r.take ((r.getD 0 0).toNat+1)).drop 1)).map λx=>(x,(r.getD 0 0).toNat+5)
def a0:Acc:=⟨⟨0,0⟩,[]⟩
def Jt(r:List Int)(p:Nat × Acc):Nat × Acc:=match BJ (r.drop p.1) p.2 with
 | none=>p
 | some (c,m)=>(p.1+m,c)
def itR(r:List Int):Nat->Nat × Acc
 | 0=>(0,a0)
 | k+1=>Jt r (itR r k)
def DY(r:List Int):Nat × Acc:=itR r r.length
theorem LJ(h:BJ r a=some (c,m)):5<=m/\m<=r.length:=by
 unfold BJ at h;split at h
 .cases h
 .split at h
  .cases h
  .split at h
   .cases h
   .obtain⟨x,_,e⟩:=lu.1 h;injection e with e1 e2
    omega
theorem GS{p:Nat × Acc}(h:BJ (r.drop p.1) p.2=none):Jt r p=p:=by
 unfold Jt;rw[h]
theorem Fd(h:BJ (r.drop n) b=some (c,m)):Jt r (n,b)=(n+m,c):=by
 unfold Jt;rw[show BJ (r.drop (n,b).1) (n,b).2=some (c,m)from h]
theorem U6(h:itR r k=(n,b))(a:BJ (r.drop n) b=none)(j:Nat):itR r (k+j)=(n,b):=by
 induction j with
 | zero=>exact h
 | succ j ih =>
  rw[<- kM,itR,ih];exact GS a
theorem Oz(h:itR r k=(n,b))(c:k<=r.length)(a:BJ (r.drop n) b=none):DY r=(n,b):=by
 have:=U6 h a (r.length-k);rw[show k+(r.length-k)=r.length by omega]at this
 exact this
theorem Xl(r:List Int)(k:Nat):(itR r k).1<=r.length:=by
 induction k with
 | zero=>exact j' _
 | succ k ih =>
  rw[itR];unfold Jt;split
  .exact ih
  .rename_i c m h
   have:=(LJ h).2;rw[jL]at this
   show(itR r k).1+m<=r.length;omega
theorem Ny{r':List Int}(h:BJ r a=some (c,m))(b:r'.take m=r.take m):BJ r' a=some (c,m):=by
 have s:=LJ h;have d:m<=r'.length:=by
  have e:=congrArg List.length b;rw[X',X']at e
  omega
 unfold BJ at h;split at h
 .cases h
 rename_i p
 split at h
 .cases h
 rename_i q
 split at h
 .cases h
 rename_i f
 obtain⟨x,o,e⟩:=lu.1 h;injection e with e1 e2
 have i:r'.getD 0 0=r.getD 0 0:=by
  have e:=congrArg (λl=>l.getD 0 0) b;simp only[kb,kJ]at e ⊢;rw[if_pos (by omega),if_pos (by omega)]at e
  exact e
 have n:∀ k,k<=m->r'.take k=r.take k:=λk j=>by
  have e:=congrArg (List.take k) b;rw[lO,lO,kQ j]at e
  exact e
 have g:(r'.drop ((r.getD 0 0).toNat+1)).take 4=(r.drop ((r.getD 0 0).toNat+1)).take 4:=by
  have e:=congrArg (List.drop ((r.getD 0 0).toNat+1)) b;rw[mM,mM,show m-((r.getD 0 0).toNat+1)=4 by omega]at e
  exact e
 unfold BJ;rw[i,if_neg (by rintro rfl;simp at d;omega),if_neg (by omega),n _ (by omega),g,if_neg f,o,ku,e1,e2]
theorem FD(r:List Int){N n m:Nat}(h:n+m<=N):((r.take N).drop n).take m=(r.drop n).take m:=by
 rw[mM,lO,kQ (by omega)]
theorem Xm(r:List Int)(k:Nat):(itR r k).1<=(itR r (k+1)).1:=by
 rw[itR];unfold Jt;split
 .exact A' _
 .show(itR r k).1<=(itR r k).1+_;omega
theorem Xn(h:(itR r k).1<=N):itR (r.take N) k=itR r k:=by
 induction k with
 | zero=>rfl
 | succ k b =>
  have i:=Xm r k;have b:=b (by omega);rw[itR,b];cases e:BJ (r.drop (itR r k).1) (itR r k).2 with
  | none =>
   have a:BJ ((r.take N).drop (itR r k).1) (itR r k).2=none:=by
    cases e3:BJ ((r.take N).drop (itR r k).1) (itR r k).2 with
    | none=>rfl
    | some x =>
     obtain⟨c,m⟩:=x;have g:=(LJ e3).2;rw[jL,X']at g
     have:=Ny (r':=r.drop (itR r k).1) e3 (FD r (by omega)).symm;rw[e]at this
     cases this
   rw[GS a,itR,GS e]
  | some x =>
   obtain⟨c,m⟩:=x;have d:itR r (k+1)=((itR r k).1+m,c):=by rw[itR];exact Fd e
   rw[d]at h ⊢
   have f:(itR r k).1+m<=N:=h;have a:=Ny (r':=(r.take N).drop (itR r k).1) e (FD r f);exact Fd a
theorem Tx(r:List Int):(DY r).1<=r.length:=Xl r r.length
theorem Sz(b x:List Int)(a:Acc):BJ (AG b++x) a=(Dr a b).map λc=>(c,b.length+5):=by
 have d:=Be b;have h:(AG b++x).getD 0 0=(b.length:Int):=rfl;have i:((b.length:Int)).toNat=b.length:=kx _;have j:(AG b++x).take (b.length+1)=D0 b:=by
  unfold AG;rw[jI,kg (by rw[Cj];omega),jS (by rw[Cj];omega)]
 have f:((AG b++x).drop (b.length+1)).take 4=(dig (D0 b)).take 4:=by
  unfold AG;rw[jI,mW (by rw[Cj];omega),l8 (by rw[Cj];omega),lE,
   kg (by rw[X',Ao];omega),lO]
  rfl
 unfold BJ;rw[h,i,if_neg (by intro e;have:=congrArg List.length e;rw[M',d]at this;simp at this),if_neg (by rw[M',d];omega),j,f,if_neg (λg=>g rfl)];rfl
theorem S1(b x:List Int)(a:Acc){k:Nat}(e:k<b.length+5):BJ ((AG b++x).take k) a=none:=by
 have d:=Be b;cases k with
 | zero=>rfl
 | succ k =>
  have c:((AG b++x).take (k+1)).getD 0 0=(b.length:Int):=rfl;unfold BJ;rw[c,kx];split
  .rfl
  .rw[if_pos (by rw[X',M',d];omega)]
theorem W9(a:Acc){b:Bal}(g:Ad b):Dr a (Bo b)=if Cl a b=0 then some ⟨b,a.vs⟩else none:=by
 have c:=g;unfold Ad at c;have d:Ac (Bo b) 1=b.r:=Bz b.r (by omega) (by omega) [1] (Ab b.n);have f:Ac (Bo b) 5=b.n:=by
  have:=Bz b.n (by omega) (by omega) (1::Ab b.r) [];rw[ki]at this
  exact this
 have e:F6 (Bo b)=b:=by unfold F6;rw[d,f]
 unfold Dr;rw[if_pos ⟨rfl,rfl⟩,e]
theorem Wp{k c s n v:Int}(h:AW k c s n v=0):Ca (CS k c s n v)=0/\ZO (CS k c s n v)=⟨k,c,s,n,v⟩:=by
 have j:=E7 h;have i:=j.2;unfold InC at i;have a:=UK k c s n v (by omega) (by omega);have b:=UL k c s n v (by omega) (by omega);have d:=UM k c s n v (by omega) (by omega);have e:=RI k c s n v (by omega) (by omega);have f:=RJ k c s n v (by omega) (by omega);unfold Ca ZO;rw[if_neg (λg=>g (BI k c s n v)),a,b,d,e,f];exact⟨h,rfl⟩
theorem WB(a:Acc){v:Vt}(p:Ak v):Dr a (Bd v)=if AV a v=0 then some ⟨v.b,Ba a.vs v⟩else none:=by
 have g:=p;unfold Ak Ad at g;obtain⟨d,⟨r,n⟩,⟨k,c,s,f,x⟩⟩:=v;simp only at g;have l:Ac (Bd ⟨d,⟨r,n⟩,⟨k,c,s,f,x⟩⟩) 1=d:=Bz d (by omega) (by omega) [2] (Ab r++(Ab n++CS k c s f x));have m:Ac (Bd ⟨d,⟨r,n⟩,⟨k,c,s,f,x⟩⟩) 5=r:=Bz r (by omega) (by omega) (2::Ab d) (Ab n++CS k c s f x);have o:Ac (Bd ⟨d,⟨r,n⟩,⟨k,c,s,f,x⟩⟩) 9=n:=Bz n (by omega) (by omega) (2::(Ab d++Ab r)) (CS k c s f x);have i:(Bd ⟨d,⟨r,n⟩,⟨k,c,s,f,x⟩⟩).drop 13=CS k c s f x:=rfl;have j:=Wp (k:=k) (c:=c) (s:=s) (n:=f) (v:=x) g.2.2;have e:Fu (Bd ⟨d,⟨r,n⟩,⟨k,c,s,f,x⟩⟩)=⟨d,⟨r,n⟩,⟨k,c,s,f,x⟩⟩:=by unfold Fu;rw[l,m,o,i,j.2]
 unfold Dr;rw[if_neg (by rintro⟨h,_⟩;cases h),if_pos ⟨rfl,rfl⟩,e,i,if_pos j.1]
def Az(bs:List (List Int)):List Int:=bs.flatMap AG
theorem Ci(l m:List (List Int)):Az (l++m)=Az l++Az m:=by simp[Az]
structure Chn(all:List Acc)(bs:List (List Int)):Prop where
 len:all.length=bs.length+1
 first:all[0]?=some a0
 step:∀ (i:Nat) (b:List Int) (a c:Acc),bs[i]?=some b->all[i]?=some a->all[i+1]?=some c->Dr a b=some c
theorem Chn.at(h:Chn all bs)(j:Nat)(b:j<=bs.length):∃ a,all[j]?=some a:=⟨_,E' (by have:=h.len;omega)⟩
theorem LS(a:List (List Int))(j:Nat)(b:List Int)(h:a[j]?=some b):a.take (j+1)=a.take j++[b]:=by
 obtain⟨c,e⟩:=U'.1 h;rw[jT c,e]
theorem KS(a:List (List Int))(j:Nat)(x:List Int):(Az a++x).drop (Az (a.take j)).length=Az (a.drop j)++x:=by
 have e:Az a=Az (a.take j)++Az (a.drop j):=by rw[<- Ci,kO]
 rw[e,jI,mW (A' _),l8 (A' _),lE]
theorem KT(a:List (List Int))(j:Nat)(b:List Int)(h:a[j]?=some b):Az (a.drop j)=AG b++Az (a.drop (j+1)):=by
 obtain⟨c,e⟩:=U'.1 h;rw[kz c,e];rfl
theorem Chn.it(h:Chn all bs)(x:List Int)(j:Nat)(l:j<=bs.length){a:Acc}(d:all[j]?=some a):itR (Az bs++x) j=((Az (bs.take j)).length,a):=by
 induction j generalizing a with
 | zero =>
  rw[h.first]at d
  obtain rfl:=kK d;rfl
 | succ j g =>
  obtain⟨i,c⟩:=h.at j (by omega);have g:=g (by omega) c;obtain⟨b,f⟩:∃ b,bs[j]?=some b:=⟨_,E' (by omega)⟩;have k:=h.step j b i a f c d;have e:BJ ((Az bs++x).drop (Az (bs.take j)).length) i=some (a,b.length+5):=by
   rw[KS,KT bs j b f,jI,Sz,k];rfl
  rw[itR,g,Fd e,LS bs j b f,Ci,M']
  congr 1
  show _=(Az (bs.take j)).length+(Az [b]).length;simp[Az,Be]
theorem Pr(a:List (List Int)):a.length<=(Az a).length:=by
 induction a with
 | nil=>exact j' _
 | cons b a ih =>
  show a.length+1<=(AG b++Az a).length;rw[M',Be];omega
theorem eF(a:List (List Int))(k:Nat):∃ j,j<=a.length/\(Az (a.take j)).length<=k/\(j=a.length\/k<(Az (a.take (j+1))).length):=by
 have:∀ n,n<=a.length->∃ j,j<=n/\(Az (a.take j)).length<=k/\(j=n\/k<(Az (a.take (j+1))).length):=by
  intro n;induction n with
  | zero=>intro _;exact⟨0,A' _,by simp[Az],.inl rfl⟩
  | succ n ih =>
   intro d;obtain⟨j,c,b,h3⟩:=ih (by omega);rcases h3 with rfl|h3
   .rcases kt k (Az (a.take (j+1))).length with h4|h4
    .exact⟨j,by omega,b,.inr h4⟩
    .exact⟨j+1,A' _,h4,.inl rfl⟩
   .exact⟨j,by omega,b,.inr h3⟩
 exact this a.length (A' _)
theorem Chn.pX(h:Chn all bs)(k:Nat):∃ j a,j<=bs.length/\all[j]?=some a/\DY ((Az bs).take k)=((Az (bs.take j)).length,a)/\(Az (bs.take j)).length<=k/\(j=bs.length\/k<(Az (bs.take (j+1))).length):=by
 obtain⟨j,d,i,h3⟩:=eF bs k;obtain⟨a,l⟩:=h.at j d;refine⟨j,a,d,l,?_,i,h3⟩;have f:=h.it [] j d l;rw[ki]at f
 have g:itR ((Az bs).take k) j=((Az (bs.take j)).length,a):=by
  rw[Xn (by rw[f];exact i),f]
 have c:=KS bs j [];rw[ki,ki]at c
 refine Oz g ?_ ?_
 .rw[X'];have m:=Pr (bs.take j);rw[X']at m
  have n:(Az (bs.take j)).length<=(Az bs).length:=by
   have:=congrArg List.length c;rw[jL]at this
   have e:Az bs=Az (bs.take j)++Az (bs.drop j):=by rw[<- Ci,kO]
   rw[e,M'];omega
  omega
 .rw[mM,c];rcases h3 with rfl|h3
  .rw[l8 (A' _)];simp[Az,BJ]
  .rcases kt j bs.length with hj|hj
   .obtain⟨b,hb⟩:∃ b,bs[j]?=some b:=⟨_,E' hj⟩;rw[KT bs j b hb];refine S1 b _ a ?_;rw[LS bs j b hb,Ci,M']at h3
    have e:(Az [b]).length=b.length+5:=by simp[Az,Be]
    omega
   .rw[l8 hj];simp[Az,BJ]
end
end
section
open Go.RowKit
def fbO(r:List Int):Option (List Int) :=
 if r=[]then none
 else if r.length<(r.getD 0 0).toNat+5 then none
 else if(dig (r.take ((r.getD 0 0).toNat+1))).take 4≠(r.drop ((r.getD 0 0).toNat+1)).take 4 then none
 else some ((r.take ((r.getD 0 0).toNat+1)).drop 1)
theorem SW{r b:List Int}(h:fbO r=some b):b.length+5<=r.length/\b.length=(r.getD 0 0).toNat:=by
 unfold fbO at h;split at h
 .cases h
 .split at h
  .cases h
  .split at h
   .cases h
   .injection h with h
    subst h;rw[jL,X'];omega
theorem LI(r:List Int)(a:Acc):BJ r a=(fbO r).bind λb=>(Dr a b).map λc=>(c,b.length+5):=by
 have d:∀ b,fbO r=some b->b.length=(r.getD 0 0).toNat:=λb h=>(SW h).2;unfold BJ;unfold fbO at d ⊢;by_cases f:r=[]
 .rw[if_pos f,if_pos f];rfl
 .rw[if_neg f]at d ⊢
  rw[if_neg f];by_cases g:r.length<(r.getD 0 0).toNat+5
  .rw[if_pos g,if_pos g];rfl
  .rw[if_neg g]at d ⊢
   rw[if_neg g];by_cases i:(dig (r.take ((r.getD 0 0).toNat+1))).take 4≠(r.drop ((r.getD 0 0).toNat+1)).take 4
   .rw[if_pos i,if_pos i];rfl
   .rw[if_neg i]at d ⊢
    rw[if_neg i];have e:=d _ rfl;show _=(Dr a _).map _;rw[e]
theorem Di(l:List Int)(n i:Nat):Ac (l.drop n) i=Ac l (n+i):=by
 unfold Ac;simp only[kb,kA,kM]
def GO(a:Acc)(b:List Int):Int :=
 if b.length=9/\b.getD 0 0=1 then Cl a (F6 b)
 else if b.length=33/\b.getD 0 0=2 then(if Ca (b.drop 13)=0 then AV a (Fu b)else Ca (b.drop 13))
 else 3
def FB(a:Acc)(b:List Int):Acc :=
 if b.length=9/\b.getD 0 0=1 then⟨ED a (F6 b),Du a (F6 b)⟩
 else if b.length=33/\b.getD 0 0=2 then(if Ca (b.drop 13)=0 then⟨BG a (Fu b),Bu a (Fu b)⟩else a0)
 else a0
theorem Pk(a:Acc)(b:List Int):Dr a b=if GO a b=0 then some (FB a b)else none:=by
 unfold Dr GO FB;by_cases d:b.length=9/\b.getD 0 0=1
 .rw[if_pos d,if_pos d,if_pos d];by_cases c:Cl a (F6 b)=0
  .rw[if_pos c,if_pos c];unfold ED Du;rw[if_pos c,if_pos c]
  .rw[if_neg c,if_neg c]
 .rw[if_neg d,if_neg d,if_neg d];by_cases c:b.length=33/\b.getD 0 0=2
  .rw[if_pos c,if_pos c,if_pos c];by_cases e:Ca (b.drop 13)=0
   .rw[if_pos e,if_pos e,if_pos e];by_cases f:AV a (Fu b)=0
    .rw[if_pos f,if_pos f];unfold BG Bu;rw[if_pos f,if_pos f]
    .rw[if_neg f,if_neg f]
   .rw[if_neg e,if_neg e,if_neg e]
  .rw[if_neg c,if_neg c,if_neg c,if_neg (by decide)]
def voV(l:List Int):Vt:=if Ca (l.drop 12)=0 then⟨Ac l 0,⟨Ac l 4,Ac l 8⟩,ZO (l.drop 12)⟩else⟨0,⟨0,0⟩,⟨0,0,0,0,0⟩⟩
theorem db{l:List Int}(h:Ca (l.drop 12)=0):∃ m0 m1 m2 m3 m4:Int,JJ (l.drop 12)=#[.int .i64 m0,.int .i64 m1,.int .i64 m2,.int .i64 m3,.int .i64 m4]/\voV l=⟨Ac l 0,⟨Ac l 4,Ac l 8⟩,⟨m0,m1,m2,m3,m4⟩⟩:=by
 refine⟨Ac (l.drop 12) 0,Ac (l.drop 12) 4,Ac (l.drop 12) 8,Ac (l.drop 12) 12,Ac (l.drop 12) 16,?_,?_⟩
 .unfold JJ;rw[if_pos h];rfl
 .unfold voV;rw[if_pos h];rfl
theorem da{l:List Int}(h:¬ Ca (l.drop 12)=0):JJ (l.drop 12)=zV5/\voV l=⟨0,⟨0,0⟩,⟨0,0,0,0,0⟩⟩:=by
 unfold voV JJ;rw[if_neg h,if_neg h];exact⟨rfl,rfl⟩
theorem Q2(b:List Int)(h:Ca (b.drop 13)=0):voV (b.drop 1)=Fu b:=by
 unfold voV Fu;rw[l6,if_pos h,Di,Di,Di]
theorem K7(b:List Int):(⟨Ac (b.drop 1) 0,Ac (b.drop 1) 4⟩:Bal)=F6 b:=by
 unfold F6;rw[Di,Di]
def FP(d:List Int)(s:Int):Acc:=if AZ d s then(DY d).2 else a0
def M0(d:List Int)(s:Int):Int:=if AZ d s then((DY d).1:Int)else 0
def IR(d:List Int)(s:Int):List Int:=if AZ d s then d.take (DY d).1 else[]
def L9(d:List Int)(s:Int):Int:=if AZ d s then(if((DY d).1:Int)<s then((DY d).1:Int)else s)else 0
end
section
def Hc(d:List Int)(s:Int)(k:Nat):Int:=if ¬ AZ d s then 5 else if 100000<d.length+k then 8 else 0
def CQ(d:List Int)(s:Int)(may:Prop)[Decidable may] (b:List Int):Int:=if Hc d s (b.length+5)≠0 then Hc d s (b.length+5)else if may then 0 else 2
def Ft(d:List Int)(s:Int)(may:Prop)[Decidable may] (b:List Int):List Int:=if CQ d s may b=0 then d++AG b else[]
def Gc(d:List Int)(s:Int)(may:Prop)[Decidable may] (b:List Int):Int:=if CQ d s may b=0 then s else 0
theorem bI(b:Bal):Cl a0 b=if Ad b then 0 else 2:=by
 have a:Ah a0:=⟨.inr ⟨rfl,rfl⟩,λv c=>(N' c).elim,trivial⟩;unfold Cl;rw[if_neg (λg=>g a)];by_cases h:Ad b
 .rw[if_neg (λg=>g h),if_pos h,if_neg];intro g;unfold Ad at h;unfold Bal.lt a0 at g;simp only at g;omega
 .rw[if_pos h,if_neg h]
theorem dc(v:Vt):AV a0 v=if Ak v then 0 else 2:=by
 have a:Ah a0:=⟨.inr ⟨rfl,rfl⟩,λv c=>(N' c).elim,trivial⟩;unfold AV;rw[if_neg (λg=>g a)];by_cases h:Ak v
 .rw[if_neg (λg=>g h),if_pos h,if_neg];intro g;have b:=h.2.1;unfold Ad at b;unfold Bal.lt a0 at g;simp only at g;omega
 .rw[if_pos h,if_neg h]
end
section
open Go.RowKit
section
def Bi{α:Type}(f:Nat->α)(i:Nat)(x:α):Nat->α:=λj=>if j=i then x else f j
variable{i:Nat}{m:Cmd}{α:Type}
theorem Ih(f:Nat->α)(i:Nat)(x:α):Bi f i x i=x:=if_pos rfl
theorem Ii(f:Nat->α){i j:Nat}(x:α)(h:j≠i):Bi f i x j=f j:=if_neg h
structure Sto where
 V:Nat->Int
 L:Nat->Int
 C:Nat->Int
 A:Nat->Int
 R:Nat->Bool
def AD:Sto:=⟨λ_=>0,λ_=>0,λ_=>0,λ_=>0,λ_=>false⟩
def ClB(l c a:Int):Prop:=(0<=l/\l<=1048577)/\(l=0->c=0/\a=0)
instance (l c a:Int):Decidable (ClB l c a):=by unfold ClB;exact inferInstance
def VaB(v:Int):Prop:=0<=v/\v<=1073741824
instance (v:Int):Decidable (VaB v):=by unfold VaB;exact inferInstance
def Gw(s:Sto):Prop:=(∀ i,i<8->VaB (s.V i))/\∀ i,i<8->ClB (s.L i) (s.C i) (s.A i)
noncomputable instance (s:Sto):Decidable (Gw s):=Classical.propDecidable _
theorem YD:Gw AD:=⟨λ_ _=>by unfold VaB AD;simp,λ_ _=>by unfold ClB AD;simp⟩
noncomputable def MB(s:Sto):Int:=if Gw s then 0 else 5
variable{s:Sto}
theorem cI(h:Gw s):MB s=0:=if_pos h
theorem Ks(h:¬ Gw s):MB s=5:=if_neg h
def JP(s:Sto)(m:Cmd):Int:=if m.k=1 then m.v else if m.k=2 then s.V m.n.toNat else 0
def JQ(s:Sto)(m:Cmd):Sto :=
 ⟨if m.k=1 then Bi s.V m.n.toNat m.v else s.V,Bi s.L m.c.toNat (m.s+1),Bi s.C m.c.toNat 0,Bi s.A m.c.toNat (JP s m),if m.k=3 then Bi s.R m.n.toNat true else s.R⟩
def dnS(s:Sto)(m:Cmd):Sto:=if m.k≠0/\¬ m.s<s.L m.c.toNat/\s.R m.c.toNat=false then JQ s m else s
def dnC(s:Sto)(m:Cmd):Int :=
 if m.k=0 then 0 else if s.L m.c.toNat=m.s+1 then s.C m.c.toNat else if m.s<s.L m.c.toNat then 7 else if s.R m.c.toNat=true then 11 else 0
def dnA(s:Sto)(m:Cmd):Int :=
 if m.k=0 then 0 else if s.L m.c.toNat=m.s+1 then s.A m.c.toNat else if m.s<s.L m.c.toNat then 0 else if s.R m.c.toNat=true then 0 else JP s m
noncomputable def doE(s:Sto)(m:Cmd):Int:=if Gw s then m.e else 5
noncomputable def doS(s:Sto)(m:Cmd):Sto:=if doE s m=0 then dnS s m else AD
noncomputable def doC(s:Sto)(m:Cmd):Int:=if doE s m=0 then dnC s m else 0
noncomputable def doA(s:Sto)(m:Cmd):Int:=if doE s m=0 then dnA s m else 0
theorem ZR(h:Gw s):doE s m=m.e:=if_pos h
theorem Wy(h:doE s m=0):doS s m=dnS s m:=if_pos h
theorem Wu(h:doE s m=0):doC s m=dnC s m:=if_pos h
theorem Ws(h:doE s m=0):doA s m=dnA s m:=if_pos h
theorem Wx(h:doE s m≠0):doS s m=AD:=if_neg h
theorem Wt(h:doE s m≠0):doC s m=0:=if_neg h
theorem Kk(h:m.e=0):(0<=m.k/\m.k<=3)/\InC m.c m.s m.n m.v:=E7 h
theorem PF(b:Gw s)(h:m.e=0):VaB (JP s m):=by
 obtain⟨c,a⟩:=Kk h;unfold InC at a;unfold JP;split
 .unfold VaB;omega
 .split
  .exact b.1 _ (by omega)
  .unfold VaB;omega
theorem ZQ(b:Gw s)(h:m.e=0):Gw (dnS s m):=by
 obtain⟨f,d⟩:=Kk h;unfold InC at d;unfold dnS;split
 .refine⟨λi a=>?_,λi a=>?_⟩
  .simp only[JQ];split
   .unfold Bi;split
    .unfold VaB;omega
    .exact b.1 i a
   .exact b.1 i a
  .simp only[JQ];by_cases e:i=m.c.toNat
   .subst e;rw[Ih,Ih,Ih];unfold ClB;omega
   .rw[Ii _ _ e,Ii _ _ e,Ii _ _ e];exact b.2 i a
 .exact b
def AnB(s:Sto):Prop:=∀ i,i<8->(s.C i=0)/\VaB (s.A i)
theorem cH:AnB AD:=λ_ _=>by unfold VaB AD;simp
theorem eG(b:Gw s)(a:AnB s)(h:m.e=0):AnB (dnS s m):=by
 unfold dnS;split
 .intro i hi;simp only[JQ];by_cases e:i=m.c.toNat
  .subst e;rw[Ih,Ih];exact⟨rfl,PF b h⟩
  .rw[Ii _ _ e,Ii _ _ e];exact a i hi
 .exact a
theorem gX(g:Gw s)(d:AnB s)(h:m.e=0):(dnC s m=0\/dnC s m=7\/dnC s m=11)/\VaB (dnA s m):=by
 obtain⟨i,b⟩:=Kk h;unfold InC at b;have a:=d m.c.toNat (by omega);have f:=PF g h;unfold dnC dnA;split
 .unfold VaB;omega
 .split
  .exact⟨.inl a.1,a.2⟩
  .split
   .unfold VaB;omega
   .split
    .unfold VaB;omega
    .exact⟨.inl rfl,f⟩
def lnk(sum:List Int)(m:Cmd)(c a:Int):List Int:=dig (sum++(CS m.k m.c m.s m.n m.v++(Ab c++Ab a)))
theorem RD(b:List Int)(m:Cmd)(c a:Int):(lnk b m c a).length=32:=Ao _
def sAt(f:Nat->Cmd):Nat->Sto
 | 0=>AD
 | i+1=>dnS (sAt f i) (f i)
def cAt(f:Nat->Cmd)(i:Nat):Int:=dnC (sAt f i) (f i)
def aAt(f:Nat->Cmd)(i:Nat):Int:=dnA (sAt f i) (f i)
def gAt(f:Nat->Cmd):Nat->List Int
 | 0=>List.replicate 32 0
 | i+1=>lnk (gAt f i) (f i) (cAt f i) (aAt f i)
theorem Rp(f:Nat->Cmd)(i:Nat):(gAt f i).length=32:=by
 cases i with
 | zero=>rfl
 | succ i=>exact RD _ _ _ _
theorem co{f:Nat->Cmd}(h:∀ j,j<i->(f j).e=0):Gw (sAt f i)/\AnB (sAt f i):=by
 induction i with
 | zero=>exact⟨YD,cH⟩
 | succ i ih =>
  have a:=ih (λj b=>h j (by omega));exact⟨ZQ a.1 (h i (by omega)),eG a.1 a.2 (h i (by omega))⟩
end
end
section
def KE(Q:Nat->Bool):Nat:=(Q 0).toNat+(Q 1).toNat+(Q 2).toNat+(Q 3).toNat+(Q 4).toNat
theorem Lh(Q R:Nat->Bool)(d:3<=KE Q)(e:3<=KE R):∃ q,q<5/\Q q=true/\R q=true:=by
 apply nm;intro h;have a:∀ q,q<5->(Q q).toNat+(R q).toNat<=1:=by
  intro q f;cases b:Q q<;>cases c:R q<;>simp;exact h ⟨q,f,b,c⟩
 have g:=a 0 (by omega);have b:=a 1 (by omega);have c:=a 2 (by omega);have i:=a 3 (by omega);have j:=a 4 (by omega);unfold KE at d e;omega
section
variable{γ:Type}
section
def Ch(H:Nat->Nat->Int->γ->Prop)(s:Nat)(b:Int)(c:γ):Prop:=∃ Q:Nat->Bool,3<=KE Q/\∀ q,q<5->Q q=true->H q s b c
def DD(H:Nat->Nat->Int->γ->Prop)(P:Nat->Int)(s:Nat)(b:Int)(c:γ):Prop :=
 ∃ Q:Nat->Bool,3<=KE Q/\(∀ q,q<5->Q q=true->b<=P q) /\
  ((∀ q,q<5->Q q=true->∀ b' c',H q s b' c'->b<=b') \/
   ∃ b0,b0<b/\(∃ q,q<5/\Q q=true/\H q s b0 c)/\∀ q,q<5->Q q=true->∀ b' c',H q s b' c'->b'<b->b'<=b0)
structure PInv(H:Nat->Nat->Int->γ->Prop)(P:Nat->Int):Prop where
 le:∀ n s b c,H n s b c->0<b/\b<=P n
 uniq:∀ n n' s b c c',H n s b c->H n' s b c'->c=c'
 safe:∀ n s b c,H n s b c->DD H P s b c
variable{H:Nat->Nat->Int->γ->Prop}{P:Nat->Int}{b:Int}{c:γ}{n s:Nat}
theorem PInv.later(h:PInv H P){s:Nat}{b:Int}{c1:γ}(o:Ch H s b c1):∀ (m:Nat) (b2:Int) (c2:γ) (n:Nat),b2.toNat=m->b<b2->H n s b2 c2->c2=c1:=by
 intro m;induction m using Nat.strongRecOn with
 | ind m ih =>
  intro b2 c2 n u g k;have v:=(h.le n s b2 c2 k).1;obtain⟨Q,p,t,e⟩:=h.safe n s b2 c2 k;obtain⟨l,d,f⟩:=o;obtain⟨q,i,c,j⟩:=Lh Q l p d;have a:=f q i j;rcases e with e|⟨b0,hb0,⟨q0,hq0,hq0Q,hv0⟩,hmax⟩
  .have:=e q i c b c1 a;omega
  .have hle:=hmax q i c b c1 a g;have r:=(h.le q0 s b0 c2 hv0).1;rcases(by omega:b=b0\/b<b0)with rfl|hlt0
   .exact h.uniq q0 q s b c2 c1 hv0 a
   .exact ih b0.toNat (by omega) b0 c2 q0 rfl hlt0 hv0
theorem PInv.agree(h:PInv H P){s:Nat}{d e:Int}{c1 f:γ}(i:Ch H s d c1)(j:Ch H s e f):c1=f:=by
 have a:∀ {b:Int} {c:γ},Ch H s b c->∃ n,H n s b c:=by
  rintro b c ⟨Q,k,r⟩;obtain⟨q,t,g,_⟩:=Lh Q Q k k;exact⟨q,r q t g⟩
 obtain⟨l,o⟩:=a i;obtain⟨m,p⟩:=a j;rcases(by omega:d<e\/d=e\/e<d)with hlt|rfl|hlt
 .exact(h.later i _ e f m rfl hlt p).symm
 .exact h.uniq l m s d c1 f o p
 .exact h.later j _ d c1 l rfl hlt o
def upP(P:Nat->Int)(n:Nat)(b:Int):Nat->Int:=λi=>if i=n then b else P i
theorem LY(h:P n<=b)(q:Nat):P q<=upP P n b q:=by
 unfold upP;split
 .rename_i e;rw[e];exact h
 .exact kH _
theorem DD.up(h:DD H P s b c){n:Nat}{d:Int}(i:P n<=d):DD H (upP P n d) s b c:=by
 obtain⟨Q,f,e,g⟩:=h;exact⟨Q,f,λq j a=>ko (e q j a) (LY i q),g⟩
theorem PInv.av(h:PInv H P){n:Nat}{b:Int}(e:P n<=b):PInv H (upP P n b) :=
 ⟨λm s a c d=>⟨(h.le m s a c d).1,ko (h.le m s a c d).2 (LY e m)⟩,h.uniq,λm s a c d=>(h.safe m s a c d).up e⟩
def ea(H:Nat->Nat->Int->γ->Prop)(n s:Nat)(b:Int)(c:γ):Nat->Nat->Int->γ->Prop:=λn' s' b' c'=>H n' s' b' c'\/(n'=n/\s'=s/\b'=b/\c'=c)
theorem DD.bN(h:DD H P s b c){n t:Nat}{f:Int}{o:γ}(m:P n<=f):DD (ea H n t f o) (upP P n f) s b c:=by
 obtain⟨Q,p,j,k⟩:=h;refine⟨Q,p,λq d a=>ko (j q d a) (LY m q),?_⟩;rcases k with k|⟨b0,hb0,⟨q0,hq0,hq0Q,hv0⟩,hmax⟩
 .left;intro q d a g i e;rcases e with e|⟨rfl,rfl,rfl,rfl⟩
  .exact k q d a g i e
  .exact ko (j q d a) m
 .right;refine⟨b0,hb0,⟨q0,hq0,hq0Q,.inl hv0⟩,?_⟩;intro q d a g i e l;rcases e with e|⟨rfl,rfl,rfl,rfl⟩
  .exact hmax q d a g i e l
  .have:=j q d a;omega
theorem PInv.bN(h:PInv H P){n s:Nat}{b:Int}{c:γ}(a:P n<=b)(e:0<b)(f:DD H P s b c)(d:∀ m c',H m s b c'->c'=c):PInv (ea H n s b c) (upP P n b):=by
 refine⟨?_,?_,?_⟩
 .rintro m t b' c' (hv|⟨rfl,rfl,rfl,rfl⟩)
  .exact⟨(h.le m t b' c' hv).1,ko (h.le m t b' c' hv).2 (LY a m)⟩
  .exact⟨e,by unfold upP;rw[if_pos rfl];exact kH _⟩
 .rintro m m' t b' c' c2 (hv|⟨_,e1,e2,e3⟩) (hv'|⟨_,e1',e2',e3'⟩)
  .exact h.uniq m m' t b' c' c2 hv hv'
  .subst e1' e2' e3';exact d m c' hv
  .subst e1 e2 e3;exact(d m' c2 hv').symm
  .rw[e3,e3']
 .rintro m t b' c' (hv|⟨rfl,rfl,rfl,rfl⟩)
  .exact(h.safe m t b' c' hv).bN a
  .exact f.bN a
end
end
end
section
def upN{α:Type}(f:Nat->α)(n:Nat)(x:α):Nat->α:=λi=>if i=n then x else f i
theorem Ey{α:Type}(f:Nat->α)(n:Nat)(x:α):upN f n x n=x:=if_pos rfl
theorem FY{α:Type}(f:Nat->α){n i:Nat}(x:α)(h:i≠n):upN f n x i=f i:=if_neg h
end
section
theorem Ic{l:List Vt}(h:B2 l)(s:Int)(v:Vt):BO (Af l s) v<=(decide (v∈l/\v.au=s)).toNat:=by
 induction l with
 | nil=>simp[BO,Af]
 | cons x xs c =>
  obtain⟨f,d⟩:=h;have c:=c d;have e:BO (Af (x::xs) s) v=(if x.au=s/\x=v then 1 else 0)+BO (Af xs s) v:=by
   unfold BO Af;rw[List.filter_cons];by_cases a:x.au=s
   .rw[if_pos (by simpa using a),nC];by_cases b:x=v
    .have h1':v.au=s:=b▸a;simp[b,h1'];omega
    .simp[a,b]
   .rw[if_neg (by simpa using a)];simp[a]
  rw[e];by_cases a:x.au=s/\x=v
  .have b:¬ (v∈xs/\v.au=s):=λg=>by
    have:=f v g.1;rw[<- a.2]at this
    omega
   rw[D' b]at c
   rw[if_pos a,I' ⟨a.2▸P',a.2▸a.1⟩];simp at c ⊢;omega
  .rw[if_neg a];by_cases b:v∈xs/\v.au=s
   .rw[I' b]at c
    rw[I' ⟨O' _ b.1,b.2⟩];omega
   .rw[D' b]at c
    simp at c ⊢;omega
theorem Ff(l m:List Vt)(v:Vt):BO (l++m) v=BO l v+BO m v:=by unfold BO;rw[nf]
end
section
def Bh:Bal:=⟨0,0⟩
def QS:Cmd:=⟨0,0,0,0,0⟩
def vtz:Vt:=⟨0,Bh,QS⟩
def DT:Acc:=⟨Bh,[]⟩
structure Let where
 kind:Nat
 src:Nat
 dst:Nat
 fv:Bal
 bN:Vt
 ln:List Vt
 au:Nat
 ed:List Cmd
def Cz(k:Nat):Let:=⟨k,0,0,Bh,vtz,[],0,[]⟩
inductive Pend where
 | began (b:Bal) (vs:List Vt)
 | prom (to:Nat) (b:Bal) (vs:List Vt)
 | voted (to:Nat) (v:Vt)
 | fa (to:Nat) (b:Bal)
 | prop (v:Vt)
 | askNews (to:Nat)
 | start
 | tell (to:Nat) (au:Nat)
structure Rnd where
 fv:Bal
 nX:Nat->Bool
 al:Nat->Acc
 cl:Nat->Nat
 next:Nat
 dW:List Cmd
def bX:Rnd:=⟨Bh,λ_=>false,λ_=>DT,λ_=>0,0,[]⟩
structure Tol where
 n:Nat
 c:Int
 s:Int
 e:Int
 a:Int
structure Nod where
 up:Bool
 d:List Int
 sy:Int
 bad:Nat
 vo:Acc
 bn:List Pend
 cn:Int
 br:Rnd
 ae:List Cmd
 done:Nat
 lr:Sto
 an:List Cmd
 bw:Cmd->Option Bal
structure Meet where
 af:Nat->Nod
 bt:List Let
 cF:List Tol
def Nod.bare(N:Nod)(up:Bool)(d:List Int)(sy:Int)(vo:Acc)(p:List Pend):Nod :=
 ⟨up,d,sy,N.bad,vo,p,0,bX,[],0,AD,[],λ_=>none⟩
def Dc:Nod:=⟨true,[],0,0,DT,[],0,bX,[],0,AD,[],λ_=>none⟩
def AQ:Meet:=⟨λ_=>Dc,[],[]⟩
def Meet.put(M:Meet)(i:Nat)(N:Nod):Meet:={ M with af:=upN M.af i N }
def Nod.av(N:Nod)(b:Bal):Nod × List Vt × Int :=
 if Cl N.vo b≠0 then(N,[],Cl N.vo b)
 else if b=N.vo.p then({ N with vo:=⟨b,N.vo.vs⟩ },N.vo.vs,0)
 else if CQ N.d N.sy (Ad b) (Bo b)≠0 then(N,[],CQ N.d N.sy (Ad b) (Bo b))
 else({ N with d:=Ft N.d N.sy (Ad b) (Bo b),sy:=Gc N.d N.sy (Ad b) (Bo b),vo:=⟨b,N.vo.vs⟩ },N.vo.vs,0)
def Nod.bN(N:Nod)(v:Vt):Nod × Int :=
 if AV N.vo v≠0 then(N,AV N.vo v)
 else if v∈N.vo.vs then({ N with vo:=⟨v.b,Ba N.vo.vs v⟩ },0)
 else if CQ N.d N.sy (Ak v) (Bd v)≠0 then(N,CQ N.d N.sy (Ak v) (Bd v))
 else({ N with d:=Ft N.d N.sy (Ak v) (Bd v),sy:=Gc N.d N.sy (Ak v) (Bd v),vo:=⟨v.b,Ba N.vo.vs v⟩ },0)
def Nod.wait(N:Nod)(p:Pend):Nod:={ N with bn:=N.bn++[p] }
def Nod.fa(N:Nod)(to:Nat)(e:Int):Nod:=if e=7 then N.wait (.fa to N.vo.p)else N
def Nod.leads(N:Nod):Bool:=decide (N.br.fv≠Bh/\N.br.fv=N.vo.p)
def Rnd.om(r:Rnd):Bool:=decide (5<2*KE r.nX)
def CI(a:Acc):List Vt->Acc
 | []=>a
 | v::l=>CI (if AV a v=0 then⟨BG a v,Bu a v⟩else a) l
def Rnd.og(r:Rnd)(j:Nat)(vs:List Vt):Rnd:={ r with nX:=upN r.nX j true,al:=upN r.al j (CI ⟨r.fv,vs⟩ (r.al j).vs) }
def Rnd.jv(r:Rnd):List Acc:=[r.al 0,r.al 1,r.al 2,r.al 3,r.al 4]
def II:Nat->Rnd->List Cmd->List Cmd
 | 0,_,l=>l
 | k+1,r,l=>if Dp r.jv (l.length:Int)=0 then II k r (l++[CE r.jv (l.length:Int)])else l
def Nod.nU(N:Nod):Nod:={ N with ae:=II 41 N.br N.ae }
def Nod.gC(N:Nod)(au:Nat)(ed:List Cmd):Nod:={ N with ae:=N.ae++ed.drop (N.ae.length-au) }
def Nod.count(N:Nod)(j:Nat)(v:Vt):Nod :=
 if v.b≠N.br.fv then N
 else if AV (N.br.al j) v≠0 then N
 else Nod.nU { N with br:={ N.br with al:=upN N.br.al j ⟨BG (N.br.al j) v,Bu (N.br.al j) v⟩ } }
def Mp(q:List Cmd):List Cmd->List Cmd
 | []=>q
 | c::l=>Mp (if q.length<40/\c∉q then q++[c]else q) l
def Nod.eo(N:Nod)(ed:List Cmd):Nod:=if N.leads then{ N with br:={ N.br with dW:=Mp N.br.dW ed } }else N
def Ez(f:Cmd->Option Bal)(c:Cmd)(b:Option Bal):Cmd->Option Bal:=λx=>if x=c then b else f x
def Nod.want(N:Nod)(c:Cmd):Nod:=if(N.bw c).isSome then N else{ N with an:=N.an++[c],bw:=Ez N.bw c (some Bh) }
def Nod.hZ(N:Nod)(c:Cmd):Nod:=if(N.bw c).isSome then{ N with an:=N.an.erase c,bw:=Ez N.bw c none }else N
def CP(b:Bal)(f:Cmd->Option Bal):List Cmd->List Cmd × (Cmd->Option Bal)
 | []=>([],f)
 | c::l=>if(f c).getD Bh≠b then(c::(CP b (Ez f c (some b)) l).1,(CP b (Ez f c (some b)) l).2)else CP b f l
def Nod.take(N:Nod)(l:Let):Nod :=
 match l.kind with
 | 0=>if(N.av l.fv).2.2≠0 then N.fa l.src (N.av l.fv).2.2 else(N.av l.fv).1.wait (.prom l.src l.fv (N.av l.fv).2.1)
 | 1=>let K:=N.gC 0 l.ed
  if K.leads=false\/l.fv≠K.br.fv\/K.br.nX l.src=true then K
  else Nod.nU { K with br:={ K.br.og l.src l.ln with cl:=upN K.br.cl l.src l.ed.length } }
 | 2=>{ N with cn:=max N.cn l.fv.r }
 | 3=>if(N.bN l.bN).2≠0 then N.fa l.src (N.bN l.bN).2 else(N.bN l.bN).1.wait (.voted l.src l.bN)
 | 4=>N.count l.src l.bN
 | 5=>if N.ae.length<l.au then N.wait (.askNews l.src)else N.gC l.au l.ed
 | 6=>let K:=N.eo l.ed
  if l.au<K.ae.length then K.wait (.tell l.src l.au)else K
 | _=>N
def Meet.nQ(M:Meet)(l:Let):Meet:=if(M.af l.dst).up then M.put l.dst ((M.af l.dst).take l)else M
def Nod.oo(N:Nod)(au:Nat):Option Cmd :=
 if CM (N.br.jv.map (·.vs)) (au:Int)≠0 then none
 else if Fx (N.br.jv.map (·.vs)) (au:Int)then some (GC (N.br.jv.map (·.vs)) (au:Int))
 else N.br.dW.find? λc=>decide (c∉N.ae)
def Nod.dT(N:Nod):Nod :=
 if N.leads=false\/N.br.om=false\/N.ae.length<N.br.next then N
 else match N.oo N.ae.length with
  | none=>N
  | some c =>
   if(N.bN ⟨(N.ae.length:Int),N.br.fv,c⟩).2≠0 then N
   else Nod.wait { (N.bN ⟨(N.ae.length:Int),N.br.fv,c⟩).1 with br:={ N.br with next:=N.ae.length+1 } } (.prop ⟨(N.ae.length:Int),N.br.fv,c⟩)
def Nod.lead(N:Nod)(i:Nat):Nod :=
 let b:Bal:=⟨max N.cn N.vo.p.r+1,(i:Int)⟩
 if(N.av b).2.2≠0 then N
 else Nod.wait { (N.av b).1 with br:=⟨b,λ_=>false,λ_=>DT,λ_=>N.ae.length,0,[]⟩ } (.began b (N.av b).2.1)
def Nod.lp(N:Nod)(k:Int):Nod:=if Gx N.d N.sy k≠0 then N else N.bare false (JH N.d N.sy k) (JI N.d N.sy k) DT []
def Nod.start(N:Nod):Nod :=
 if CZ N.d N.sy≠0 then N
 else if M0 N.d N.sy<(N.d.length:Int)then N.bare true (IR N.d N.sy) (L9 N.d N.sy) (FP N.d N.sy) [.start]
 else N.bare true N.d N.sy (FP N.d N.sy) [.start]
def Meet.move(M:Meet)(k:Int)(at_:Nat):Meet :=
 match M.bt[at_%M.bt.length]? with
 | none=>M
 | some l =>
  let A:=if k≠6 then{ M with bt:=M.bt.eraseIdx (at_%M.bt.length) }else M
  if k≠5 then A.nQ l else A
def Meet.oh(M:Meet):Meet:=M.bt.foldl (λM l=>M.nQ l) { M with bt:=[] }
end
section
open Go.RowKit
section
def stA(s:Sto):Array Value:=#[.int .i64 (s.V 0),.int .i64 (s.V 1),.int .i64 (s.V 2),.int .i64 (s.V 3),.int .i64 (s.V 4),.int .i64 (s.V 5),.int .i64 (s.V 6),.int .i64 (s.V 7),.int .i64 (s.L 0),.int .i64 (s.L 1),.int .i64 (s.L 2),.int .i64 (s.L 3),.int .i64 (s.L 4),.int .i64 (s.L 5),.int .i64 (s.L 6),.int .i64 (s.L 7),.int .i64 (s.C 0),.int .i64 (s.A 0),.int .i64 (s.C 1),.int .i64 (s.A 1),.int .i64 (s.C 2),.int .i64 (s.A 2),.int .i64 (s.C 3),.int .i64 (s.A 3),.int .i64 (s.C 4),.int .i64 (s.A 4),.int .i64 (s.C 5),.int .i64 (s.A 5),.int .i64 (s.C 6),.int .i64 (s.A 6),.int .i64 (s.C 7),.int .i64 (s.A 7),.bool (s.R 0),.bool (s.R 1),.bool (s.R 2),.bool (s.R 3),.bool (s.R 4),.bool (s.R 5),.bool (s.R 6),.bool (s.R 7)]
theorem eg:(prog.info? 39).map (·.size)=some 2:=by kernel_rfl
theorem iY(s:Sto)(i:Nat)(h:i<8):(stA s)[i]?=some (.int .i64 (s.V i)):=by
 rcases(by omega:i=0\/i=1\/i=2\/i=3\/i=4\/i=5\/i=6\/i=7)with rfl|rfl|rfl|rfl|rfl|rfl|rfl|rfl<;>rfl
theorem iX(s:Sto)(i:Nat)(h:i<8):(stA s)[8+i]?=some (.int .i64 (s.L i)):=by
 rcases(by omega:i=0\/i=1\/i=2\/i=3\/i=4\/i=5\/i=6\/i=7)with rfl|rfl|rfl|rfl|rfl|rfl|rfl|rfl<;>rfl
theorem iW(s:Sto)(i:Nat)(h:i<8):(stA s)[16+i*2]?=some (.int .i64 (s.C i)):=by
 rcases(by omega:i=0\/i=1\/i=2\/i=3\/i=4\/i=5\/i=6\/i=7)with rfl|rfl|rfl|rfl|rfl|rfl|rfl|rfl<;>rfl
theorem iV(s:Sto)(i:Nat)(h:i<8):(stA s)[16+i*2+1]?=some (.int .i64 (s.A i)):=by
 rcases(by omega:i=0\/i=1\/i=2\/i=3\/i=4\/i=5\/i=6\/i=7)with rfl|rfl|rfl|rfl|rfl|rfl|rfl|rfl<;>rfl
def Bs(w:World)(g:Nat)(s:Sto):Prop:=w.heap[g]?=some (.cells (stA s) 43)
variable{g:Nat}{s:Sto}{w:World}
theorem Bs.pI(h:Bs w g s)(i:Nat)(a:i<8):w.cell? ⟨g,i,none⟩=some (.int .i64 (s.V i)):=(cell_of_row _ _ i _ _ _ h).trans (iY s i a)
theorem Bs.pH(h:Bs w g s)(i:Nat)(a:i<8):w.cell? ⟨g,8+i,none⟩=some (.int .i64 (s.L i)):=(cell_of_row _ _ (8+i) _ _ _ h).trans (iX s i a)
theorem Bs.pG(h:Bs w g s)(i:Nat)(a:i<8):w.cell? ⟨g,16+i*2,none⟩=some (.int .i64 (s.C i)):=(cell_of_row _ _ (16+i*2) _ _ _ h).trans (iW s i a)
theorem Bs.pF(h:Bs w g s)(i:Nat)(a:i<8):w.cell? ⟨g,16+i*2+1,none⟩=some (.int .i64 (s.A i)):=(cell_of_row _ _ (16+i*2+1) _ _ _ h).trans (iV s i a)
theorem fs(a b c d:Int):∀ w,(binOp .neq 39 (.agg #[.int .i64 a,.int .i64 b]) (.agg #[.int .i64 c,.int .i64 d])).run prog w=.ok (.bool (!decide (a=c/\b=d))) w:=by
 intro w;rw[run_neq_struct,run_equalIn_agg w 9999 _ _ _ (by kernel_rfl) (by kernel_rfl)];unfold Program.fieldsOf;rw[underlying39];have e:=underlying3;have f:=underlying37;simp[Op.eqFields,go_sem,e,f]
 repeat' split
 all_goals simp_all
theorem bg(a b:Int):∀ w,(binOp .neq 39 (.agg #[.int .i64 a,.int .i64 b]) (.agg #[.int .i64 0,.int .i64 0])).run prog w=.ok (.bool (!decide (a=0/\b=0))) w:=fs a b 0 0
def vaL(f:Nat->Int):List Value:=[.int .i64 (f 0),.int .i64 (f 1),.int .i64 (f 2),.int .i64 (f 3),.int .i64 (f 4),.int .i64 (f 5),.int .i64 (f 6),.int .i64 (f 7)]
def vaA(f:Nat->Int):Array Value:=(vaL f).toArray
theorem YZ(f:Nat->Int)(j:Nat)(u:Value)(h:(vaL f)[j]?=some u):j<8/\u=.int .i64 (f j):=by
 have a:j<8:=(U'.1 h).1;refine⟨a,?_⟩;rcases(by omega:j=0\/j=1\/j=2\/j=3\/j=4\/j=5\/j=6\/j=7)with rfl|rfl|rfl|rfl|rfl|rfl|rfl|rfl<;>(simp[vaL]at h;exact h.symm)
theorem Bs.pD(h:Bs w g s):w.rangeAt g 0 (vaL s.V):=by
 intro j u b;obtain⟨a,rfl⟩:=YZ _ _ _ b;rw[kl];exact h.pI j a
theorem Bs.pC(h:Bs w g s):w.rangeAt g 8 (vaL s.L):=by
 intro j u b;obtain⟨a,rfl⟩:=YZ _ _ _ b;exact h.pH j a
theorem gn(f:Nat->Int):(prog.info? 36).map (·.size)=some (vaL f).length:=by show _=some 8;kernel_rfl
theorem Gb{d:Array Oper}{c:List Oper}{op:Oper}{a:Act}{Q:Exit->Act->World->Prop}(e:op.guard=none)(x:Operand)(i:op.op=.load 36 x)(b o:Nat)(j:a.eval x=.pointer (some ⟨b,o,none⟩))(f:Nat->Int)(g:w.rangeAt b o (vaL f))(h:wpList prog d Q c (a.put op.dst (.agg (vaA f))) w):wpList prog d Q (op::c) a w :=
 wpList_load_mid e 36 x i b o j (vaL f) _ g underlying36 rfl (gn f) h
theorem TC(f:Nat->Int)(i:Nat)(a:i<8)(w:World):(Instr.index 36 (.agg (vaA f)) (.int .i64 (i:Int))).run prog w=.ok (.int .i64 (f i)) w:=by
 rcases(by omega:i=0\/i=1\/i=2\/i=3\/i=4\/i=5\/i=6\/i=7)with rfl|rfl|rfl|rfl|rfl|rfl|rfl|rfl<;>kernel_rfl
structure NX where
 tape:S3
 ln:S3
 synced:S3
 dW:S3
 ae:S3
 an:S3
 hv:Nat->S3
 bw:Option Nat
def AB(i ob:Nat)(p:Nod)(x:NX):Array Value:=([iv (i:Int),.bool p.up,S3.v x.tape,iv p.sy,iv (p.bad:Int),pt ob 0,iv p.vo.p.r,iv p.vo.p.n,S3.v x.ln,S3.v x.synced,iv p.cn,iv p.br.fv.r,iv p.br.fv.n,.bool (p.br.nX 0),.bool (p.br.nX 1),.bool (p.br.nX 2),.bool (p.br.nX 3),.bool (p.br.nX 4),iv ((p.br.al 0).p.r),iv ((p.br.al 0).p.n),S3.v (x.hv 0),iv ((p.br.al 1).p.r),iv ((p.br.al 1).p.n),S3.v (x.hv 1),iv ((p.br.al 2).p.r),iv ((p.br.al 2).p.n),S3.v (x.hv 2),iv ((p.br.al 3).p.r),iv ((p.br.al 3).p.n),S3.v (x.hv 3),iv ((p.br.al 4).p.r),iv ((p.br.al 4).p.n),S3.v (x.hv 4),iv (p.br.cl 0:Int),iv (p.br.cl 1:Int),iv (p.br.cl 2:Int),iv (p.br.cl 3:Int),iv (p.br.cl 4:Int),iv (p.br.next:Int),S3.v x.dW,S3.v x.ae,iv (p.done:Int)]++((stA p.lr).toList++[S3.v x.an,.map x.bw])).toArray
def EX(l:Let)(vs wh:S3):Array Value:=#[iv (l.kind:Int),iv (l.src:Int),iv (l.dst:Int),iv l.fv.r,iv l.fv.n,iv l.bN.au,iv l.bN.b.r,iv l.bN.b.n,iv l.bN.w.k,iv l.bN.w.c,iv l.bN.w.s,iv l.bN.w.n,iv l.bN.w.v,S3.v vs,iv (l.au:Int),S3.v wh]
def FV(t:Tol):List Value:=[iv (t.n:Int),iv t.c,iv t.s,iv t.e,iv t.a]
def cmV(c:Cmd):List Value:=[iv c.k,iv c.c,iv c.s,iv c.n,iv c.v]
def cmL(l:List Cmd):List Value:=l.flatMap cmV
theorem BZ(l m:List Cmd):cmL (l++m)=cmL l++cmL m:=by simp[cmL]
theorem Bv(l:List Cmd):(cmL l).length=l.length*5:=by
 induction l with
 | nil=>rfl
 | cons c l ih=>rw[cmL,lT,M'];show 5+(cmL l).length=_;rw[ih,ke];omega
theorem NZ(l:List Cmd):∀ u∈cmL l,u.oneCell'=true:=by
 intro u b;obtain⟨c,_,a⟩:=mp.1 b;simp only[cmV,jQ,N',or_false]at a;rcases a with rfl|rfl|rfl|rfl|rfl<;>rfl
theorem NY{l:List Cmd}{k:Nat}{c:Cmd}(h:l[k]?=some c){j:Nat}{u:Value}(a:(cmV c)[j]?=some u):(cmL l)[5*k+j]?=some u:=by
 induction l generalizing k with
 | nil=>cases h
 | cons d l ih =>
  rw[cmL,lT];cases k with
  | zero =>
   simp only[kY,V']at h;subst h;rw[jO (by have:=(U'.1 a).1;omega)];simpa using a
  | succ k =>
   rw[jP (by show 5<=_;omega),show 5*(k+1)+j-(cmV d).length=5*k+j by show 5*(k+1)+j-5=_;omega];exact ih (by simpa using h)
theorem KD(l:List Cmd)(k:Nat):(cmL l).drop (5*k)=cmL (l.drop k):=by
 induction l generalizing k with
 | nil=>simp[cmL]
 | cons c l ih =>
  cases k with
  | zero=>simp
  | succ k =>
   show(cmV c++cmL l).drop (5*(k+1))=cmL (l.drop k);rw[<- ih k,List.drop_append,show(cmV c).drop (5*(k+1))=[]from kD (by show 5<=_;omega),lE,show 5*(k+1)-(cmV c).length=5*k by show 5*(k+1)-5=_;omega]
def Frz(g:Gh)(x:S3):Prop:=∀ a,x.a=some a->g.t a.block=.z
structure FSl(g:Gh)(w:World)(x:S3)(l:List Int):Prop where
 s:Sl w x.v l
 z:l≠[]->Frz g x
structure FSv(g:Gh)(w:World)(x:S3)(l:List Vt):Prop where
 s:Sv w x.v l
 z:l≠[]->Frz g x
end
section
variable{B:Nat}{T:List Tg}{g g':Gh}{w w':World}
section
variable{b i nb ob r:Nat}{bs:List Nat}{f:Cmd->Option Bal}{l:List Let}{x:S3}
theorem Cg.zc(c:Cg B T g w g' w')(e:Tg.z∉T){b:Nat}(d:b<w.heap.size)(a:g.t b=.z):w'.heap[b]?=w.heap[b]?:=c.same b d (by rw[a];exact e) (λh=>by rw[a]at h;cases h)
theorem FSl.ch{l:List Int}(h:FSl g w x l)(c:Cg B T g w g' w')(v:Tg.z∉T:=by simp):FSl g' w' x l:=by
 obtain⟨⟨⟨a,r,q,o,p,j⟩,k,m⟩,s⟩:=h;simp only[Value.slice.injEq]at q;obtain⟨rfl,e,rfl⟩:=q;rcases j with j|⟨b,off,ha,hbs,hcell⟩
 .exact⟨⟨⟨_,_,by simp only[Value.slice.injEq,and_true,true_and];exact e,o,p,.inl j⟩,k,m⟩,λh=>absurd j h⟩
 .have hne:∀ _:l≠[],g.t b=.z:=λh=>s h _ ha;by_cases f:l=[]
  .exact⟨⟨⟨_,_,by simp only[Value.slice.injEq,and_true,true_and];exact e,o,p,.inl f⟩,k,m⟩,λh=>absurd f h⟩
  .refine⟨⟨⟨_,_,by simp only[Value.slice.injEq,and_true,true_and];exact e,o,p,.inr ⟨b,off,ha,Y' hbs c.size,λi u=>?_⟩⟩,k,m⟩,λ_ y d=>?_⟩
   .rw[World.cell?_of_block (w:=w) (c.zc v hbs (hne f))];exact hcell i u
   .rw[ha]at d;simp only[V']at d;subst d;rw[c.tag hbs (λh=>absurd ((hne f).symm.trans h) (by simp))];exact hne f
theorem FSv.ch{l:List Vt}(h:FSv g w x l)(c:Cg B T g w g' w')(A:Tg.z∉T:=by simp):FSv g' w' x l:=by
 obtain⟨⟨⟨a,q,p,m,o,f⟩,k⟩,r⟩:=h;simp only[Value.slice.injEq]at p;obtain⟨rfl,e,rfl⟩:=p;rcases f with f|⟨b,off,ha,hbs,hcell⟩
 .exact⟨⟨⟨_,_,by simp only[Value.slice.injEq,and_true,true_and];exact e,m,o,.inl f⟩,k⟩,λh=>absurd f h⟩
 .by_cases hl:l=[]
  .exact⟨⟨⟨_,_,by simp only[Value.slice.injEq,and_true,true_and];exact e,m,o,.inl hl⟩,k⟩,λh=>absurd hl h⟩
  .have hzb:g.t b=.z:=r hl _ ha;refine⟨⟨⟨_,_,by simp only[Value.slice.injEq,and_true,true_and];exact e,m,o,.inr ⟨b,off,ha,Y' hbs c.size,λi v s j u y=>?_⟩⟩,k⟩,λ_ C d=>?_⟩
   .rw[World.cell?_of_block (w:=w) (c.zc A hbs hzb)];exact hcell i v s j u y
   .rw[ha]at d;simp only[V']at d;subst d;rw[c.tag hbs (λh=>absurd (hzb.symm.trans h) (by simp))];exact hzb
structure Rc(g:Gh)(w:World)(x:S3)(l:List Cmd):Prop where
 len:x.n=l.length
 cap:x.n<=x.c
 pc:x.a=none->x.c=0
 ex:l=[]\/∃ b off,x.a=some ⟨b,off,none⟩/\b<w.heap.size/\(∀ j u,(cmL l)[j]?=some u->w.cell? ⟨b,off+j,none⟩=some u)/\(g.t b=.z\/off+5*l.length<=g.k b)
theorem Rc.nil(g:Gh)(w:World):Rc g w s30 []:=⟨rfl,A' _,λ_=>rfl,.inl rfl⟩
theorem Rc.ch{l:List Cmd}(h:Rc g w x l)(c:Cg B T g w g' w')(d:Tg.z∉T:=by simp):Rc g' w' x l:=by
 refine⟨h.len,h.cap,h.pc,?_⟩;rcases h.ex with h1|⟨b,off,h1,h2,h3,h4⟩
 .exact .inl h1
 .refine .inr ⟨b,off,h1,Y' h2 c.size,λj u a=>?_,?_⟩
  .rcases h4 with h4|h4
   .rw[World.cell?_of_block (w:=w) (c.zc d h2 h4)];exact h3 j u a
   .have hjl:j<(cmL l).length:=(U'.1 a).1;rw[Bv]at hjl
    rw[c.oN b h2 (off+j) (by omega)];exact h3 j u a
  .rcases h4 with h4|h4
   .exact .inl ((c.tag h2 (by rw[h4];intro h;cases h)).trans h4)
   .exact .inr (jG h4 (c.oM b h2))
structure Box(g:Gh)(w:World)(b:Nat)(cs:Array Value)(t:TypeId):Prop where
 r:w.heap[b]?=some (.cells cs t)
 z:g.t b=.z
theorem Box.ch{a:Array Value}{t:TypeId}(h:Box g w b a t)(c:Cg B T g w g' w')(d:Tg.z∉T:=by simp):Box g' w' b a t:=⟨(c.zc d (rl h.r) h.z).trans h.r,(c.tag (rl h.r) (by rw[h.z];intro h;cases h)).trans h.z⟩
def Cx(g:Gh)(w:World)(b:Nat)(l:Let):Prop:=∃ vs wh,Box g w b (EX l vs wh) 150/\FSv g w vs l.ln/\Rc g w wh l.ed
theorem Cx.ch{l:Let}(h:Cx g w b l)(c:Cg B T g w g' w')(a:Tg.z∉T:=by simp):Cx g' w' b l:=let ⟨vs,wh,h1,h2,h3⟩:=h;⟨vs,wh,h1.ch c a,h2.ch c a,h3.ch c a⟩
def Kz(g:Gh)(w:World)(nb:Nat)(v:Value):Pend->Prop
 | .began b vs=>∃ b1 b2 b3 x,v=.func (.func 60) #[] #[pt b1 0,pt b2 0,pt b3 0]/\Box g w b1 #[pt nb 0] 83/\Box g w b2 #[iv b.r,iv b.n] 88/\Box g w b3 #[S3.v x] 89/\FSv g w x vs
 | .prom to b vs=>∃ b1 b2 b3 x lb l,v=.func (.func 88) #[] #[pt b1 0,pt b2 0,pt b3 0]/\Box g w b1 #[pt nb 0] 83/\Box g w b2 #[pt lb 0] 151/\Box g w b3 #[S3.v x] 89/\FSv g w x vs/\Cx g w lb l/\l.src=to/\l.fv=b
 | .voted to u=>∃ b1 b2 lb l,v=.func (.func 94) #[] #[pt b1 0,pt b2 0]/\Box g w b1 #[pt nb 0] 83/\Box g w b2 #[pt lb 0] 151/\Cx g w lb l/\l.src=to/\l.bN=u
 | .fa to b=>∃ b1 b2 b3,v=.func (.func 125) #[] #[pt b1 0,pt b2 0,pt b3 0]/\Box g w b1 #[pt nb 0] 83/\Box g w b2 #[iv (to:Int)] 3/\Box g w b3 #[iv b.r,iv b.n] 88
 | .prop u=>∃ b1 b2,v=.func (.func 109) #[] #[pt b1 0,pt b2 0]/\Box g w b1 #[pt nb 0] 83/\Box g w b2 (vtA u) 148
 | .askNews to=>∃ b1 b2 lb l,v=.func (.func 96) #[] #[pt b1 0,pt b2 0]/\Box g w b1 #[pt nb 0] 83/\Box g w b2 #[pt lb 0] 151/\Cx g w lb l/\l.src=to
 | .start=>∃ b1,v=.func (.func 73) #[] #[pt b1 0]/\Box g w b1 #[pt nb 0] 83
 | .tell to au=>∃ b1 b2 lb l,v=.func (.func 98) #[] #[pt b1 0,pt b2 0]/\Box g w b1 #[pt nb 0] 83/\Box g w b2 #[pt lb 0] 151/\Cx g w lb l/\l.src=to/\l.au=au
theorem Kz.ch{v:Value}{q:Pend}(h:Kz g w nb v q)(c:Cg B T g w g' w')(a:Tg.z∉T:=by simp):Kz g' w' nb v q:=by
 cases q with
 | began b vs=>obtain⟨d,i,p,x,e,f,j,k,m⟩:=h;exact⟨d,i,p,x,e,f.ch c a,j.ch c a,k.ch c a,m.ch c a⟩
 | prom to b vs=>obtain⟨d,i,p,x,o,l,e,f,j,k,m,r,s⟩:=h;exact⟨d,i,p,x,o,l,e,f.ch c a,j.ch c a,k.ch c a,m.ch c a,r.ch c a,s⟩
 | voted to u=>obtain⟨d,i,o,l,e,f,j,k,m⟩:=h;exact⟨d,i,o,l,e,f.ch c a,j.ch c a,k.ch c a,m⟩
 | fa to b=>obtain⟨d,i,p,e,f,j,k⟩:=h;exact⟨d,i,p,e,f.ch c a,j.ch c a,k.ch c a⟩
 | prop u=>obtain⟨d,i,e,f,j⟩:=h;exact⟨d,i,e,f.ch c a,j.ch c a⟩
 | askNews to=>obtain⟨d,i,o,l,e,f,j,k,m⟩:=h;exact⟨d,i,o,l,e,f.ch c a,j.ch c a,k.ch c a,m⟩
 | start=>obtain⟨d,e,f⟩:=h;exact⟨d,e,f.ch c a⟩
 | tell to au=>obtain⟨d,i,o,l,e,f,j,k,m⟩:=h;exact⟨d,i,o,l,e,f.ch c a,j.ch c a,k.ch c a,m⟩
def mkA(x:Cmd × Bal × Nat):MapEntry:={ key:=.agg (cmV x.1).toArray,val:=.agg #[iv x.2.1.r,iv x.2.1.n],born:=x.2.2 }
structure AskAt(g:Gh)(w:World)(τ:Tg)(b:Nat)(f:Cmd->Option Bal):Prop where
 t:g.t b=τ
 k:g.k b=0
 ex:∃ (es:List (Cmd × Bal × Nat)) (clock:Nat),w.heap[b]?=some (.map (es.map mkA).toArray clock)/\(∀ x∈es,x.2.2<clock)/\(es.map (·.2.2)).Nodup/\(es.map (·.1)).Nodup/\∀ c,f c=(es.find? λx=>decide (c=x.1)).map (·.2.1)
def VD(g:Gh)(w:World)(i:Nat)(f:Cmd->Option Bal):Option Nat->Prop
 | some b=>AskAt g w (.n 5 i) b f
 | none=>f=λ_=>none
structure Pends(g:Gh)(w:World)(nb:Nat)(vs:List Value)(l:List Pend):Prop where
 len:vs.length=l.length
 at_:∀ (k:Nat) (v:Value) (q:Pend),vs[k]?=some v->l[k]?=some q->Kz g w nb v q
structure NodeAt(g:Gh)(w:World)(i nb ob:Nat)(x:NX)(p:Nod):Prop where
 row:w.heap[nb]?=some (.cells (AB i ob p x) 103)
 tag:g.t nb=.n 0 i
 oM:g.k nb=0
 tape:FSl g w x.tape p.d
 ln:FSv g w x.ln p.vo.vs
 al:∀ j,j<5->FSv g w (x.hv j) (p.br.al j).vs
 bn:∃ vs,OwnS g w (.n 1 i) true 1 1 x.synced vs/\Pends g w nb vs p.bn
 dW:OwnS g w (.n 2 i) false 47 5 x.dW (cmL p.br.dW)
 ae:OwnS g w (.n 3 i) true 47 5 x.ae (cmL p.ae)
 an:OwnS g w (.n 4 i) false 47 5 x.an (cmL p.an)
 bw:VD g w i p.bw x.bw
 oO:p.up=true->∃ b,x.bw=some b
structure Lets(g:Gh)(w:World)(bs:List Nat)(l:List Let):Prop where
 len:bs.length=l.length
 at_:∀ (k b:Nat) (m:Let),bs[k]?=some b->l[k]?=some m->Cx g w b m
structure OutAt(g:Gh)(w:World)(ob:Nat)(lt tl:S3)(ls:List Let)(ts:List Tol):Prop where
 row:w.heap[ob]?=some (.cells #[lt.v,tl.v] 80)
 tag:g.t ob=.n 50 0
 oM:g.k ob=0
 bt:∃ bs,OwnS g w (.n 51 0) false 151 1 lt (bs.map (pt · 0))/\Lets g w bs ls
 cF:OwnS g w (.n 52 0) false 109 5 tl (ts.flatMap FV)
theorem Pends.ch{a:List Value}{l:List Pend}(h:Pends g w nb a l)(c:Cg B T g w g' w')(e:Tg.z∉T:=by simp):Pends g' w' nb a l:=⟨h.len,λk v q b d=>(h.at_ k v q b d).ch c e⟩
theorem Lets.ch(h:Lets g w bs l)(c:Cg B T g w g' w')(d:Tg.z∉T:=by simp):Lets g' w' bs l:=⟨h.len,λk v q a b=>(h.at_ k v q a b).ch c d⟩
theorem Lets.snoc{m:Let}(h:Lets g w bs l)(f:Cx g w b m):Lets g w (bs++[b]) (l++[m]):=by
 refine⟨by simp[h.len],λk c q a d=>?_⟩;by_cases e:k<bs.length
 .rw[jO e]at a
  rw[jO (by rw[<- h.len];exact e)]at d
  exact h.at_ k c q a d
 .rw[jP (by omega)]at a
  rw[jP (by rw[<- h.len];omega),<- h.len]at d
  cases hx:k-bs.length with
  | zero=>rw[hx]at a d;simp at a d;subst a d;exact f
  | succ n=>rw[hx]at a;simp at a
theorem Cg.rc(c:Cg B T g w g' w'){b:Nat}{o:Obj}{r i:Nat}(h:w.heap[b]?=some o)(a:g.t b=.n r i)(d:Tg.n r i∉T):w'.heap[b]?=some o/\g'.t b=.n r i/\g'.k b=g.k b :=
 ⟨(c.same b (rl h) (by rw[a];exact d) (λh=>by rw[a]at h;cases h)).trans h,(c.tag (rl h) (by rw[a];intro h;cases h)).trans a,c.pg b (rl h) (by rw[a];exact d) (by rw[a];intro h;cases h)⟩
theorem AskAt.ch(h:AskAt g w (.n r i) b f)(c:Cg B T g w g' w')(hn:Tg.n r i∉T:=by simp):AskAt g' w' (.n r i) b f:=by
 obtain⟨e,j,d,k,m,o⟩:=h;have a:=c.rc m e hn;exact⟨a.2.1,a.2.2.trans j,d,k,a.1,o⟩
theorem VD.ch{a:Option Nat}(h:VD g w i f a)(c:Cg B T g w g' w')(hn:Tg.n 5 i∉T:=by simp):VD g' w' i f a:=by
 cases a with
 | none=>exact h
 | some b=>exact AskAt.ch h c hn
theorem NodeAt.ch{x:NX}{p:Nod}(h:NodeAt g w i nb ob x p)(c:Cg B T g w g' w')(a:Tg.z∉T:=by simp)(hn:∀ r,r<6->Tg.n r i∉T:=by simp):NodeAt g' w' i nb ob x p:=by
 have b:=c.rc h.row h.tag (hn 0 (by omega));obtain⟨k,d,e⟩:=h.bn;exact⟨b.1,b.2.1,b.2.2.trans h.oM,h.tape.ch c a,h.ln.ch c a,λj f=>(h.al j f).ch c a,⟨k,d.ch c (hn 1 (by omega)) (by simp),e.ch c a⟩,h.dW.ch c (hn 2 (by omega)) (by simp),h.ae.ch c (hn 3 (by omega)) (by simp),h.an.ch c (hn 4 (by omega)) (by simp),h.bw.ch c (hn 5 (by omega)),h.oO⟩
theorem OutAt.ch{lt d:S3}{b:List Let}{e:List Tol}(h:OutAt g w ob lt d b e)(c:Cg B T g w g' w')(k:Tg.z∉T:=by simp)(hn:∀ r,50<=r->Tg.n r 0∉T:=by simp):OutAt g' w' ob lt d b e:=by
 have a:=c.rc h.row h.tag (hn 50 (by omega));obtain⟨f,i,j⟩:=h.bt;exact⟨a.1,a.2.1,a.2.2.trans h.oM,⟨f,i.ch c (hn 51 (by omega)) (by simp),j.ch c k⟩,h.cF.ch c (hn 52 (by omega)) (by simp)⟩
end
end
section
def TN(i:Nat):List Tg:=[.n 0 i,.n 1 i,.n 2 i,.n 3 i,.n 4 i,.n 5 i,.n 50 0,.n 51 0,.n 52 0,.n 60 0]
theorem Bg(i:Nat):Tg.z∉TN i:=by simp[TN]
def NS(i nb ob:Nat)(g:Gh)(w:World)(p:Nod)(ls:List Let)(ts:List Tol):Prop:=∃ x lt tl,NodeAt g w i nb ob x p/\OutAt g w ob lt tl ls ts/\I4 g w
variable{B i nb ob:Nat}{T:List Tg}{e:TypeId}{g g':Gh}{l:List Pend}{ls:List Let}{p:Nod}{ts:List Tol}{w w':World}{x:S3}{τ:Tg}
theorem nsC{c:Nat}{x:NX}{lt b:S3}{L:List Sh}(d:NodeAt g w i nb ob x p)(e:OutAt g w ob lt b ls ts)(C:Cg B T g w g' w')(K:Kn c g' w' L)(a:Tg.z∉T:=by simp)(f:∀ r,r<6->Tg.n r i∉T:=by simp)(h:∀ r,50<=r->Tg.n r 0∉T:=by simp):NS i nb ob g' w' p ls ts:=⟨x,lt,b,d.ch C a f,e.ch C a h,K.new⟩
def NP(i nb ob:Nat)(g:Gh)(w:World)(v:Value)(p:Nod)(ls:List Let)(ts:List Tol):Ending->World->Prop:=λe w'=>∃ g',e=.returned v/\NS i nb ob g' w' p ls ts/\Cg w.heap.size (TN i) g w g' w'
theorem NS.new(h:NS i nb ob g w p ls ts):I4 g w:=let ⟨_,_,_,_,_,h⟩:=h;h
theorem NS.ab(h:NS i nb ob g w p ls ts)(b:Bw w w'):NS i nb ob g w' p ls ts :=
 let ⟨x,lt,tl,h1,h2,h3⟩:=h
 have c:=Cg.bu (B:=0) (T:=[]) (g:=g) b
 ⟨x,lt,tl,h1.ch c,h2.ch c,λk a=>h3 k (jG b.size a)⟩
theorem NS.nW(h:NS i nb ob g w p ls ts)(c:Cg B [] g w g' w')(a:I4 g' w'):NS i nb ob g' w' p ls ts :=
 let ⟨x,lt,tl,h1,h2,_⟩:=h
 ⟨x,lt,tl,h1.ch c,h2.ch c,a⟩
theorem NodeAt.oL{b:Nat}{x:NX}(h:NodeAt g w i nb ob x p)(a:x.bw=some b):AskAt g w (.n 5 i) b p.bw:=by have:=h.bw;rw[a]at this;exact this
theorem BP(h:∃ vs,OwnS g w (.n 1 i) true 1 1 x vs/\Pends g w nb vs l)(c:Cg B T g w g' w')(b:Tg.z∉T:=by simp)(a:Tg.n 1 i∉T:=by simp):∃ vs,OwnS g' w' (.n 1 i) true 1 1 x vs/\Pends g' w' nb vs l :=
 let ⟨vs,h1,h2⟩:=h
 ⟨vs,h1.ch c a (by simp),h2.ch c b⟩
theorem D5{l:List Let}(h:∃ bs:List Nat,OwnS g w (.n 51 0) false 151 1 x (bs.map (pt · 0))/\Lets g w bs l)(c:Cg B T g w g' w')(b:Tg.z∉T:=by simp)(a:Tg.n 51 0∉T:=by simp):∃ bs:List Nat,OwnS g' w' (.n 51 0) false 151 1 x (bs.map (pt · 0))/\Lets g' w' bs l :=
 let ⟨bs,h1,h2⟩:=h
 ⟨bs,h1.ch c a (by simp),h2.ch c b⟩
theorem Bl{a:Nat->S3}{f:Nat->Acc}(h:∀ j,j<5->FSv g w (a j) (f j).vs)(c:Cg B T g w g' w')(d:Tg.z∉T:=by simp):∀ j,j<5->FSv g' w' (a j) (f j).vs:=λj b=>(h j b).ch c d
theorem Pends.snoc{d:List Value}{v:Value}{q:Pend}(h:Pends g w nb d l)(f:Kz g w nb v q):Pends g w nb (d++[v]) (l++[q]):=by
 refine⟨by simp[h.len],λk c m a b=>?_⟩;by_cases e:k<d.length
 .rw[jO e]at a
  rw[jO (by rw[<- h.len];exact e)]at b
  exact h.at_ k c m a b
 .rw[jP (by omega)]at a
  rw[jP (by rw[<- h.len];omega),<- h.len]at b
  cases hx:k-d.length with
  | zero=>rw[hx]at a b;simp at a b;subst a b;exact f
  | succ n=>rw[hx]at a;simp at a
theorem OwnS.num{a:Bool}{l:List Cmd}(h:OwnS g w τ a e 5 x (cmL l)):x.n=l.length:=by have:=h.len;rw[Bv]at this;omega
theorem OwnS.rc{l:List Cmd}(h:OwnS g w τ true e 5 x (cmL l)):Rc g w x l:=by
 have a:=h.num;rcases h.ex with⟨h1,h2,h3⟩|⟨b,cur,h1,h2,h3,h4,h5,h6,h7,h8⟩
 .exact⟨a,by omega,λ_=>h3,.inl (Z' (by omega))⟩
 .refine⟨a,h3,λh=>(by rw[h1]at h;cases h),.inr ⟨b,0,h1,rl h2,λj u c=>?_,.inr ?_⟩⟩
  .obtain⟨b',hb',_,hc⟩:=h.cell c;rw[h1]at hb'
   simp only[V',Addr.mk.injEq,and_true]at hb';subst hb';rw[kl];exact hc
  .rw[h8,Bv];simp;omega
end
end
end Go.Proofs.YthohlalejhgbmaaGreatDoor
