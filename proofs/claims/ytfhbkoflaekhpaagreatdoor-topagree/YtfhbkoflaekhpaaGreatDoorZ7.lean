/- Part 7 of the walk. -/
import Derived.Great.BuildSlice
import Derived.Test.YtfhbkoflaekhpaaGreatDoorZ6
import Derived.Test.YtfhbkoflaekhpaaGreatDoorZ5
set_option maxRecDepth 100000
set_option maxHeartbeats 4000000
open Go.Proofs.Tryz
set_option linter.unusedVariables false
namespace Go.Proofs.YtfhbkoflaekhpaaGreatDoor
section
open Go.RowKit
section
variable{P:Program}{fn:Func}{R:Ending→World→Prop}{B:Nat}{T:List Tg}{g:Gh}{w:World}
theorem Kn.at{L:List Sh}(h:Kn B g w L)(k:Nat){x:Sh}(hx:L[k]?=some x):w.heap[x.g]?=some x.o:=(h.row x (List.mem_of_getElem? hx)).1
theorem Kn.ats{L:List Sh}(h:Kn B g w L)(k b:Nat)(cs:Array Value)(e:TypeId)(t:Tg)(v:Bool)(hx:L[k]?=some ⟨b,.cells cs e,t,v⟩):w.heap[b]?=some (.cells cs e):=h.at k hx
theorem Kn.isN{L:List Sh}(h:Kn B g w L)(k b:Nat)(o:Obj)(r i:Nat)(hx:L[k]?=some ⟨b,o,.n r i,false⟩):w.heap[b]?=some o∧g.t b=.n r i∧g.k b=0 :=
 have h1:=h.row _ (List.mem_of_getElem? hx)
 ⟨h1.1,h1.2.1,h1.2.2.2 (by simp)⟩
theorem Kn.isZ{L:List Sh}(h:Kn B g w L)(k b:Nat)(o:Obj)(v:Bool)(hx:L[k]?=some ⟨b,o,.z,v⟩):w.heap[b]?=some o∧g.t b=.z :=
 have h1:=h.row _ (List.mem_of_getElem? hx)
 ⟨h1.1,h1.2.1⟩
theorem CY{L:List Sh}(h:Kn B g w L)(k b:Nat)(news:List Value)(e:TypeId)(t:Tg)(v:Bool)(hx:L[k]?=some ⟨b,.cells news.toArray e,t,v⟩):∀ j u,news[j]?=some u→w.cell? ((⟨b,0,none⟩:Addr).add j)=some u:=by
 intro j u hj;have h1:=h.at k hx;have:(⟨b,0,none⟩:Addr).add j=⟨b,j,none⟩:=by unfold Addr.add;split<;>simp_all
 rw[this,cell_of_row _ _ _ _ _ _ h1];simpa using hj
def Dn(s:Xs)(i':Nat):Option (Sem Next):=(opN s i').map fun x=>execOp s.f.ev x.2.2
theorem Dg{s:Xs}{i':Nat}{S:Sem Next}(h:Dn s i'=some S){ops:Array Oper}{i:Nat}{o:Oper}(ho:opN s i'=some (ops,i,o)):execOp s.f.ev o=S:=by
 unfold Dn at h;rw[ho]at h
 simpa using h
theorem BQ{s:Xs}{i':Nat}{S:Sem Next}(h:Dn s i'=some S):(opN s i').isSome=true:=by
 unfold Dn at h;cases hx:opN s i' with
 | none=>rw[hx]at h;cases h
 | some x=>rfl
theorem Jw{s:Xs}(i':Nat){τ:Tg}{kp:Bool}{x:S3}{xs:List Value}(t ty e:TypeId)(sz bytes:Nat)(z:Value)(a:Addr)(m c:Nat)(news:List Value)(hx:OwnS g w τ kp e sz x xs)
  (hsem:Dn s i'=some (Builtin.append_ #[t,t] ty #[x.v,.slice (some a) m c]>>=fun v=>pure (.value v)))(hob:(nxt s i' undef s.L).o.map Ob.l'=(nxt s i' undef s.L).o.map Ob.r')(hT:s.L.all (fun y=>[τ].all fun t=>y.t.ne t)=true)
  (ht:P.underlying t=some (.slice e))(hinfo:(P.info? e).map (fun i=>(i.zero,i.size,i.bytes))=some (some z,sz,bytes))(hzs:Nat.beq z.cells.size sz=true)(hsz:0<sz)(hm:0<m)(hl:news.length=m*sz)(h1:∀ u∈news,u.oneCell'=true)
  (hnews:Kn B g w s.L→∀ j u,news[j]?=some u→w.cell? (a.add j)=some u)(h63:x.n+m≤maxLen)(hbytes:(x.n+m)*bytes≤140737488355328)
  (hk:∀ x' g' w',OwnS g' w' τ kp e sz x' (xs++news)→x'.n=x.n+m→(∀ B T,τ∈T→Cg B T g w g' w')→Ik g' w'→GG P fn R B T (nxt s i' (S3.v x') s.L).s g' w'):GG P fn R B T s g w:=by
 refine Kw i' s.L hob (BQ hsem) fun hK ops i o hop=>?_;obtain⟨x',w',g',hr,h2,h3,h4,h5⟩:=fQ (P:=P) (B:=w.heap.size) (T:=[τ]) t ty e sz bytes z ht hinfo (Nat.eq_of_beq_eq_true hzs) hsz (List.mem_singleton.2 rfl) hx hK.new a m c news hm hl (hnews hK) h1 h63 hbytes;refine⟨x'.v,w',g',.inl ?_,hK.ch h4 h5 hT,hk x' g' w' h2 h3 (fun B T hT=>(h4.ret (B:=B)).mono fun t ht=>by rw[List.mem_singleton.1 ht];exact hT) h5⟩;rw[Dg hsem hop,Sem.run_bind,hr,Result.andThen_ok];rfl
end
end
section
structure Bal where
 r:Int
 n:Int
theorem Bal.eq_iff(a b:Bal):(a.r=b.r∧a.n=b.n)↔a=b:=by
 cases a;cases b;simp
instance:DecidableEq Bal:=fun a b=>decidable_of_iff _ (Bal.eq_iff a b)
structure Cmd where
 k:Int
 c:Int
 s:Int
 n:Int
 v:Int
theorem Cmd.eq_iff(a b:Cmd):(a.k=b.k∧a.c=b.c∧a.s=b.s∧a.n=b.n∧a.v=b.v)↔a=b:=by
 cases a;cases b;simp
instance:DecidableEq Cmd:=fun a b=>decidable_of_iff _ (Cmd.eq_iff a b)
structure Vt where
 slot:Int
 b:Bal
 w:Cmd
theorem Vt.eq_iff(a b:Vt):(a.slot=b.slot∧a.b=b.b∧a.w=b.w)↔a=b:=by
 cases a;cases b;simp
instance:DecidableEq Vt:=fun a b=>decidable_of_iff _ (Vt.eq_iff a b)
instance:Inhabited Vt:=⟨⟨0,⟨0,0⟩,⟨0,0,0,0,0⟩⟩⟩
structure Acc where
 p:Bal
 vs:List Vt
def Bal.lt(a b:Bal):Prop:=a.r<b.r∨(a.r=b.r∧a.n<b.n)
instance (a b:Bal):Decidable (a.lt b):=by unfold Bal.lt;exact inferInstance
def Bal.key(a:Bal):Int:=5*a.r+a.n
def Ab(a:Bal):Prop:=(1≤a.r∧a.r≤65536)∧0≤a.n∧a.n≤4
instance (a:Bal):Decidable (Ab a):=by unfold Ab;exact inferInstance
def Cmd.e(c:Cmd):Int:=Ba c.k c.c c.s c.n c.v
def Ak(v:Vt):Prop:=(0≤v.slot∧v.slot≤39)∧Ab v.b∧v.w.e=0
instance (v:Vt):Decidable (Ak v):=by unfold Ak;exact inferInstance
def Aw(a:Bal):Prop:=Ab a∨(a.r=0∧a.n=0)
instance (a:Bal):Decidable (Aw a):=by unfold Aw;exact inferInstance
def B1:List Vt→Prop
 | []=>True
 | u::us=>(∀ v∈us,u.slot<v.slot)∧B1 us
def SE:(l:List Vt)→Decidable (B1 l)
 | []=>isTrue trivial
 | u::us=>@instDecidableAnd _ _ inferInstance (SE us)
instance (l:List Vt):Decidable (B1 l):=SE l
def An(a:Acc):Prop:=Aw a.p∧(∀ v∈a.vs,Ak v∧¬ a.p.lt v.b)∧B1 a.vs
instance (a:Acc):Decidable (An a):=by unfold An;exact inferInstance
theorem Iy{a b:Bal}(ha:Aw a)(hb:Aw b):a.lt b↔a.key<b.key:=by
 unfold Aw Ab at ha hb;unfold Bal.lt Bal.key;omega
theorem Hj{a b:Bal}(ha:Aw a)(hb:Aw b)(h:a.key=b.key):a=b:=by
 unfold Aw Ab at ha hb;unfold Bal.key at h;exact(Bal.eq_iff a b).1 (by omega)
theorem Ab.pr{a:Bal}(h:Ab a):Aw a:=.inl h
theorem Ab.pos{a:Bal}(h:Ab a):5≤a.key:=by unfold Ab at h;unfold Bal.key;omega
def Gd(a:Acc):Int:=if An a then 0 else 5
def BN(a:Acc)(b:Bal):Int:=if ¬ An a then 5 else if ¬ Ab b then 2 else if b.lt a.p then 7 else 0
def AO(a:Acc)(v:Vt):Int:=if ¬ An a then 5 else if ¬ Ak v then 2 else if v.b.lt a.p then 7 else 0
def AY:List Vt→Vt→List Vt
 | [],v=>[v]
 | u::us,v=>if u.slot<v.slot then u::AY us v else if u.slot=v.slot then v::us else v::u::us
theorem Ct{l:List Vt}{v u:Vt}(h:B1 l):u∈AY l v↔u=v∨(u∈l∧u.slot≠v.slot):=by
 induction l with
 | nil=>simp[AY]
 | cons x xs ih =>
  obtain⟨hx,hxs⟩:=h;have ih:=ih hxs;rw[AY];split
  ·rename_i h1
   rw[List.mem_cons,ih];constructor
   ·rintro(rfl|rfl|⟨h2,h3⟩)
    ·exact .inr ⟨List.mem_cons_self,by omega⟩
    ·exact .inl rfl
    ·exact .inr ⟨List.mem_cons_of_mem _ h2,h3⟩
   ·rintro(rfl|⟨h2,h3⟩)
    ·exact .inr (.inl rfl)
    ·rcases List.mem_cons.1 h2 with rfl|h2
     ·exact .inl rfl
     ·exact .inr (.inr ⟨h2,h3⟩)
  ·split
   ·rename_i h1 h2
    rw[List.mem_cons];constructor
    ·rintro(rfl|h3)
     ·exact .inl rfl
     ·have:=hx u h3;exact .inr ⟨List.mem_cons_of_mem _ h3,by omega⟩
    ·rintro(rfl|⟨h3,h4⟩)
     ·exact .inl rfl
     ·rcases List.mem_cons.1 h3 with rfl|h3
      ·exact absurd h2 h4
      ·exact .inr h3
   ·rename_i h1 h2
    rw[List.mem_cons];constructor
    ·rintro(rfl|h3)
     ·exact .inl rfl
     ·rcases List.mem_cons.1 h3 with rfl|h4
      ·exact .inr ⟨h3,h2⟩
      ·have:=hx u h4;exact .inr ⟨h3,by omega⟩
    ·rintro(rfl|⟨h3,h4⟩)
     ·exact .inl rfl
     ·exact .inr h3
theorem Iw{l:List Vt}(v:Vt)(h:B1 l):B1 (AY l v):=by
 induction l with
 | nil=>exact⟨fun u hu=>(List.not_mem_nil hu).elim,trivial⟩
 | cons x xs ih =>
  obtain⟨hx,hxs⟩:=h;rw[AY];split
  ·rename_i h1
   refine⟨fun u hu=>?_,ih hxs⟩;rcases(Ct hxs).1 hu with rfl|⟨h2,_⟩
   ·exact h1
   ·exact hx u h2
  ·split
   ·rename_i h1 h2
    exact⟨fun u hu=>by have:=hx u hu;omega,hxs⟩
   ·rename_i h1 h2
    refine⟨fun u hu=>?_,hx,hxs⟩;rcases List.mem_cons.1 hu with rfl|h3
    ·omega
    ·have:=hx u h3;omega
def BV:List Vt→Option Vt→Option Vt
 | [],o=>o
 | v::l,none=>BV l (some v)
 | v::l,some u=>if u.b.lt v.b then BV l (some v)else BV l (some u)
theorem Qd(l:List Vt)(u:Vt)(hm:∀ v∈l,Aw v.b)(hu:Aw u.b):∃ x,BV l (some u)=some x∧(x=u∨x∈l)∧u.b.key≤x.b.key∧∀ v∈l,v.b.key≤x.b.key:=by
 induction l generalizing u with
 | nil=>exact⟨u,rfl,.inl rfl,Int.le_refl _,fun _ h=>by cases h⟩
 | cons v l ih =>
  have hv:=hm v List.mem_cons_self;have hl:∀ x∈l,Aw x.b:=fun x hx=>hm x (List.mem_cons_of_mem _ hx);rw[BV];split
  ·rename_i h1
   have h1':=(Iy hu hv).1 h1;obtain⟨x,e,hx,h2,h3⟩:=ih v hl hv;refine⟨x,e,?_,by omega,?_⟩
   ·rcases hx with rfl|hx
    ·exact .inr List.mem_cons_self
    ·exact .inr (List.mem_cons_of_mem _ hx)
   ·intro y hy;rcases List.mem_cons.1 hy with rfl|hy
    ·exact h2
    ·exact h3 y hy
  ·rename_i h1
   have h1':¬ u.b.key<v.b.key:=fun g=>h1 ((Iy hu hv).2 g);obtain⟨x,e,hx,h2,h3⟩:=ih u hl hu;refine⟨x,e,?_,h2,?_⟩
   ·rcases hx with rfl|hx
    ·exact .inl rfl
    ·exact .inr (List.mem_cons_of_mem _ hx)
   ·intro y hy;rcases List.mem_cons.1 hy with rfl|hy
    ·omega
    ·exact h3 y hy
theorem Qb(l:List Vt)(hm:∀ v∈l,Aw v.b):(l=[]∧BV l none=none)∨∃ x,BV l none=some x∧x∈l∧∀ v∈l,v.b.key≤x.b.key:=by
 cases l with
 | nil=>exact .inl ⟨rfl,rfl⟩
 | cons v l =>
  right;obtain⟨x,e,hx,h2,h3⟩:=Qd l v (fun x hx=>hm x (List.mem_cons_of_mem _ hx)) (hm v List.mem_cons_self);refine⟨x,e,?_,?_⟩
  ·rcases hx with rfl|hx
   ·exact List.mem_cons_self
   ·exact List.mem_cons_of_mem _ hx
  ·intro y hy;rcases List.mem_cons.1 hy with rfl|hy
   ·exact h2
   ·exact h3 y hy
def Af(l:List Vt)(s:Int):List Vt:=l.filter fun v=>decide (v.slot=s)
theorem BL{l:List Vt}{s:Int}{v:Vt}:v∈Af l s↔v∈l∧v.slot=s:=by simp[Af]
def Cx(ls:List (List Vt))(s:Int):Int:=if ¬ (0≤s∧s≤39)then 2 else if ∀ l∈ls,∀ v∈l,Ak v then 0 else 5
def Jb(ls:List (List Vt))(s:Int):Option Vt:=BV (Af ls.flatten s) none
def BK(l:List Vt)(v:Vt):Nat:=l.countP fun u=>decide (u=v)
def GZ(l:List Vt)(m:Nat):Option Vt:=l.find? fun v=>decide (m<2*BK l v)
end
section
open Go.RowKit
def vtC(v:Vt):List Value:=[.int .i64 v.slot,.int .i64 v.b.r,.int .i64 v.b.n,.int .i64 v.w.k,.int .i64 v.w.c,.int .i64 v.w.s,.int .i64 v.w.n,.int .i64 v.w.v]
def vtA(v:Vt):Array Value:=(vtC v).toArray
theorem Cd(v:Vt):(vtC v).length=8:=rfl
theorem aB(v:Vt):∀ u∈vtC v,u.oneCell'=true:=by
 intro u hu;simp only[vtC,List.mem_cons,List.not_mem_nil,or_false]at hu;rcases hu with rfl|rfl|rfl|rfl|rfl|rfl|rfl|rfl<;>rfl
def vtL(l:List Vt):List Value:=l.flatMap vtC
theorem Lr(v:Vt)(l:List Vt):vtL (v::l)=vtC v++vtL l:=rfl
theorem RP(l m:List Vt):vtL (l++m)=vtL l++vtL m:=by simp[vtL]
theorem CB(l:List Vt):(vtL l).length=l.length*8:=by
 induction l with
 | nil=>rfl
 | cons v l ih=>rw[Lr,List.length_append,ih,Cd,List.length_cons];omega
theorem SS(l:List Vt):∀ u∈vtL l,u.oneCell'=true:=by
 intro u hu;obtain⟨v,_,hv⟩:=List.mem_flatMap.1 hu;exact aB v u hv
theorem aC(l:List Vt)(i:Nat)(v:Vt)(h:l[i]?=some v)(j:Nat)(u:Value)(hj:(vtC v)[j]?=some u):(vtL l)[8*i+j]?=some u:=by
 induction l generalizing i with
 | nil=>simp at h
 | cons x l ih =>
  have hj8:j<8:=by have:=(List.getElem?_eq_some_iff.1 hj).1;rwa [Cd]at this
  rw[Lr];cases i with
  | zero =>
   simp at h;subst h;rw[List.getElem?_append_left (by rw[Cd];omega)];simpa using hj
  | succ i =>
   rw[List.getElem?_append_right (by rw[Cd];omega),Cd,show 8*(i+1)+j-8=8*i+j by omega];exact ih i (by simpa using h)
theorem XZ(l:List Vt)(m:Nat)(u:Value)(h:(vtL l)[m]?=some u):∃ v,l[m/8]?=some v∧(vtC v)[m%8]?=some u:=by
 induction l generalizing m with
 | nil=>simp[vtL]at h
 | cons x l ih =>
  rw[Lr]at h
  rcases Nat.lt_or_ge m 8 with hm|hm
  ·rw[List.getElem?_append_left (by rw[Cd];omega)]at h
   exact⟨x,by rw[Nat.div_eq_of_lt hm];rfl,by rwa [Nat.mod_eq_of_lt hm]⟩
  ·rw[List.getElem?_append_right (by rw[Cd];omega),Cd]at h
   obtain⟨v,h1,h2⟩:=ih (m-8) h;refine⟨v,?_,?_⟩
   ·rw[show m/8=(m-8)/8+1 by omega];simpa using h1
   ·rw[show m%8=(m-8)%8 by omega];exact h2
structure Sv(w:World)(x:Value)(l:List Vt):Prop where
 ex:∃ a cap,x=.slice a l.length cap∧l.length≤cap∧(a=none→cap=0)∧(l=[]∨∃ b off,a=some ⟨b,off,none⟩∧b<w.heap.size∧∀ i v,l[i]?=some v→w.rangeAt b (off+8*i) (vtC v))
 len:l.length≤2199023255488
theorem Sv.below{w w':World}{x:Value}{l:List Vt}(h:Sv w x l)(hb:Bw w w'):Sv w' x l:=by
 obtain⟨⟨a,cap,rfl,hc,hn,h1⟩,h2⟩:=h;refine⟨⟨a,cap,rfl,hc,hn,?_⟩,h2⟩;rcases h1 with h1|⟨b,off,ha,hbs,hcell⟩
 ·exact .inl h1
 ·exact .inr ⟨b,off,ha,Nat.lt_of_lt_of_le hbs hb.size,fun i v hi j u hj=>(hb.cell (p:=⟨b,off+8*i+j,none⟩) hbs).trans (hcell i v hi j u hj)⟩
theorem Sv.nil(w:World):Sv w (.slice none 0 0) []:=⟨⟨none,0,rfl,by simp,by simp,.inl rfl⟩,by simp⟩
theorem Sv.shape{w:World}{x:Value}{l:List Vt}(h:Sv w x l):∃ a cap,x=.slice a l.length cap:=by
 obtain⟨⟨a,cap,e,_⟩,_⟩:=h;exact⟨a,cap,e⟩
theorem Sv.spot{w:World}{a:Option Addr}{n cap:Nat}{l:List Vt}(h:Sv w (.slice a n cap) l)(i:Nat)(v:Vt)(hi:l[i]?=some v):∃ b off,a=some ⟨b,off,none⟩∧b<w.heap.size∧w.rangeAt b (off+8*i) (vtC v):=by
 obtain⟨⟨a',cap',e,hc,hn,h1⟩,_⟩:=h;simp only[Value.slice.injEq]at e;obtain⟨rfl,rfl,rfl⟩:=e;rcases h1 with rfl|⟨b,off,rfl,hb,hcell⟩
 ·simp at hi
 ·exact⟨b,off,rfl,hb,hcell i v hi⟩
theorem Sv.ofOwns{w:World}{base e:Nat}{x:Value}{l:List Vt}(h:w.ownsRow base e 8 x l.length (vtL l))(hl:l.length≤2199023255488):Sv w x l:=by
 refine⟨?_,hl⟩;rcases h.2 with⟨rfl,h0⟩|⟨g,cap,cur,rfl,_,hg,hn,_,hcs,ht⟩
 ·exact⟨none,0,by rw[h0],by omega,fun _=>rfl,.inl (List.eq_nil_of_length_eq_zero h0)⟩
 ·refine⟨_,cap,rfl,hn,by simp,.inr ⟨g,0,rfl,(Array.getElem?_eq_some_iff.1 hg).1,fun i v hi j u hj=>?_⟩⟩;have hc:=h.cells (g:=g) rfl (8*i+j) u (aC l i v hi j u hj);have hadd:(⟨g,0,none⟩:Addr).add (8*i+j)=⟨g,8*i+j,none⟩:=by unfold Addr.add;split<;>simp_all
  rw[hadd]at hc
  rw[Nat.zero_add];exact hc
theorem LS{P:Program}(w:World)(base t ty e:Nat)(z:Value)(ht:P.underlying t=some (.slice e))(hinfo:(P.info? e).map (fun i=>(i.zero,i.size,i.bytes))=some (some z,8,64))(hz8:z.cells.size=8)
  (x:Value)(l:List Vt)(hown:w.ownsRow base e 8 x l.length (vtL l))(u:Value)(m:List Vt)(hu:Sv w u m)
  (hlen:l.length+m.length≤2199023255552)(hbase:base≤w.heap.size) :
  ∃ v' w',(Builtin.append_ #[t,t] ty #[x,u]).run P w=.ok v' w'∧w'.ownsRow base e 8 v' (l++m).length (vtL (l++m))∧w.grownBy w' x.ownBlock:=by
 obtain⟨i,hi,hz,hsz,hby⟩:=info_parts hinfo;obtain⟨⟨a,cap,rfl,hc,hn,h1⟩,_⟩:=hu;cases a with
 | none =>
  have hc0:=hn rfl;subst hc0;have hm:m=[]:=List.eq_nil_of_length_eq_zero (by omega);subst hm;refine⟨x,w,?_,by simpa using hown,⟨rfl,rfl,rfl,Nat.le_refl _,fun _ _ _=>rfl⟩⟩;exact run_append_owned_none (P:=P) (w:=w) base t ty e i 8 ht hi x l.length _ hown
 | some ad =>
  have hcells:∀ j u,(vtL m)[j]?=some u→w.cell? (ad.add j)=some u:=by
   intro j u hj;rcases h1 with rfl|⟨b,off,hab,_,hcell⟩
   ·simp[vtL]at hj
   ·obtain rfl:ad=⟨b,off,none⟩:=by simpa using hab
    obtain⟨v,h2,h3⟩:=XZ m j u hj;have hadd:(⟨b,off,none⟩:Addr).add j=⟨b,off+j,none⟩:=by unfold Addr.add;split<;>simp_all
    rw[hadd];have h4:=hcell (j/8) v h2 (j%8) u h3
    rwa [show off+8*(j/8)+j%8=off+j by omega]at h4
  obtain⟨v',w',hr,ho,hg,_⟩:=run_append_own (P:=P) w base t ty e i z 8 64 ht hi hz hsz hby hz8 (by decide) x l.length _ hown ad m.length cap (vtL m) (CB m) hcells (SS m)
   (by unfold maxLen;omega) (by omega) hbase
  exact⟨v',w',hr,by rw[RP,List.length_append];exact ho,hg⟩
theorem Bg{P:Program}(w:World){ops:Array Oper}{rest:List Oper}{o:Oper}{a:Act}{Q:Exit→Act→World→Prop}(hgd:o.guard=none)(s x:Operand)(t:TypeId)
  (ho:o.op=.call { callee:=.builtin .append,args:=#[s,x],argTypes:=#[t,t] })
  (base e:Nat)(z:Value)(ht:P.underlying t=some (.slice e))(hinfo:(P.info? e).map (fun i=>(i.zero,i.size,i.bytes))=some (some z,8,64))(hz8:z.cells.size=8)
  (v u:Value)(hs:a.eval s=v)(hx:a.eval x=u)(l m:List Vt)(hown:w.ownsRow base e 8 v l.length (vtL l))(hu:Sv w u m)
  (hlen:l.length+m.length≤2199023255552)(hbase:base≤w.heap.size)
  (h:∀ v' w',w'.ownsRow base e 8 v' (l++m).length (vtL (l++m))→w.grownBy w' v.ownBlock→wpList P ops Q rest (a.put o.dst v') w'):wpList P ops Q (o::rest) a w:=by
 refine wpList_plain hgd fun K hK=>?_;obtain⟨v',w',hrun,r1,r2⟩:=LS (P:=P) w base t o.type e z ht hinfo hz8 v l hown u m hu hlen hbase;unfold Oper.wp execOp;simp only[ho,resolve,invoke,builtin,Sem.run_bind,Sem.run_pure,Result.andThen_ok,List.map_toArray,List.map_cons,List.map_nil,hs,hx,hrun];exact hK _ _ (h v' w' r1 r2)
theorem Sv.one(w:World)(v:Vt)(e:TypeId){g:Nat}(hg:g=w.heap.size):Sv (w.alloc (.cells (vtA v) e)) (.slice (some ⟨g,0,none⟩) 1 1) [v]:=by
 subst hg;refine⟨⟨_,1,rfl,Nat.le_refl _,by simp,.inr ⟨w.heap.size,0,rfl,by simp,fun i u hi j x hj=>?_⟩⟩,by simp⟩;cases i with
 | zero =>
  simp at hi;subst hi;rw[cell_of_row _ _ (0+8*0+j) _ _ _ (heap_alloc_new w (.cells (vtA v) e))];simpa[vtA]using hj
 | succ i=>simp at hi
def zVt:Value:=.agg zV8
theorem El:(prog.info? 141).map (fun i=>(i.zero,i.size,i.bytes))=some (some zVt,8,64):=by kernel_rfl
theorem I9(v:Vt):(prog.info? 141).map (·.size)=some (vtC v).length:=by show _=some 8;kernel_rfl
theorem Qx:prog.elem 77=141:=by kernel_rfl
theorem R7(w:World):(Go.sizeOf 141).run prog w=.ok 8 w:=by
 obtain⟨i,hi,_,hsz,_⟩:=info_parts El;simp[sizeOf,typeInfo,hi,hsz]
theorem D2(b o n c:Nat)(i:Nat)(hi:i<n)(w:World):(Instr.indexAt 77 (.slice (some ⟨b,o,none⟩) n c) (.int .i64 (i:Int))).run prog w=.ok (.pointer (some ⟨b,o+8*i,none⟩)) w:=by
 rw[run_indexAt_slice (P:=prog) w 77 _ n c .i64 _ underlying77,if_pos ⟨by omega,by omega⟩,Qx,R7];simp[Result.andThen,Addr.add_mid,Nat.mul_comm]
theorem As{P:Program}{ops:Array Oper}{Q:Exit→Act→World→Prop}{l:List Oper}{a:Act}{w:World}(h:wpList P ops Q l a w):wpList P ops Q l a w:=h
theorem DL(l:List Vt)(k:Nat)(v:Vt)(h:l[k]?=some v):l.take (k+1)=l.take k++[v]:=by
 obtain⟨hk,e⟩:=List.getElem?_eq_some_iff.1 h;rw[List.take_succ_eq_append_getElem hk,e]
def acA(p:Bal)(x:Value):Array Value:=#[.int .i64 p.r,.int .i64 p.n,x]
theorem JX:(prog.info? 76).map (·.size)=some 2:=by kernel_rfl
theorem GH{B:Nat}{w w':World}(h:Below B w w'){b o:Nat}{cs:List Value}(hb:b<B)(hr:w.rangeAt b o cs):w'.rangeAt b o cs :=
 fun j v hv=>(h.cell (p:=⟨b,o+j,none⟩) hb).trans (hr j v hv)
theorem Aj{B:Nat}{a w:World}(h:Below B a w){g:Nat}(hg:B≤g)(cs:Array Value):Below B a (w.setRow g cs) :=
 h.trans ⟨rfl,rfl,rfl,by simp,fun k hk=>setRow_other w g k cs (by omega)⟩
theorem R2{w:World}{b o:Nat}{x y:Value}(h0:w.cell? ⟨b,o,none⟩=some x)(h1:w.cell? ⟨b,o+1,none⟩=some y):w.rangeAt b o [x,y]:=by
 intro j v hj
 match j,hj with
 | 0,hj=>simp at hj;subst hj;exact h0
 | 1,hj=>simp at hj;subst hj;exact h1
 | k+2,hj=>simp at hj
theorem aG{ops:Array Oper}{S:World→Prop}{op:Oper}{a:Act}(hw:Region.wanted op (yielded ops a.tmps)=true)(x:Operand)(ho:op.op=.load 141 x)
  (g:Nat)(hx:a.eval x=.pointer (some ⟨g,0,none⟩))(v:Vt)(hS:∀ w,S w→w.heap[g]?=some (.cells (vtA v) 141)):YieldsIf prog ops S op (.agg (vtA v)) a :=
 .inl ⟨hw,fun w hw'=>by
  unfold execOp;simp only[ho,hx,Instr.loadAt,Instr.sureAddr,Sem.run_bind,Sem.run_pure,Result.andThen_ok,run_loadVar_row w g 141 141 _ (0,0) _ (hS w hw') underlying141 rfl (show _=some (vtA v).size from I9 v)]⟩
theorem Zr{P:Program}{id:Nat}{ops:Array Oper}{K:Act→World→Prop}{Q:Exit→Act→World→Prop}{a:Act}{w:World}(R:World→Prop){A:Act}
  (hreg:∀ K':Act→World→Prop,Hid (∀ W2,R W2→K' A W2)→(Code.region id ops true).wp P (Exit.then K' Q) a w)(hrest:∀ W2,R W2→K A W2):(Code.region id ops true).wp P (Exit.then K Q) a w:=hreg K hrest
theorem aF{ops:Array Oper}{S:World→Prop}{op:Oper}{a:Act}(hw:Region.wanted op (yielded ops a.tmps)=true)(x:Operand)(ho:op.op=.load 141 x)
  (b o:Nat)(hx:a.eval x=.pointer (some ⟨b,o,none⟩))(v:Vt)(hS:∀ w,S w→w.rangeAt b o (vtC v)):YieldsIf prog ops S op (.agg (vtA v)) a :=
 yieldsIf_load_mid hw 141 x ho b o hx (vtC v) _ hS underlying141 rfl (I9 v)
theorem dB:(prog.info? 77).map (·.size)=some 1:=by kernel_rfl
theorem Ja{P:Program}{fn:Func}{p u v:Tmp}{ty:TypeId}(h:fn.results=#[.cell p ty,.tmp u,.tmp v])(tmps:Array Value)(w:World)(g:Nat)(t:TypeId)(cs:Array Value)(fr:Nat × Nat)(d:TypeDesc)
  (hp:tmps.getD p undef=.pointer (some ⟨g,0,none⟩))(hg:w.heap[g]?=some (.cells cs t fr))
  (hu:P.underlying ty=some d)(hd:(match d with|.struct _|.array _ _=>true|_=>false)=true)(hi:(P.info? ty).map (·.size)=some cs.size) :
  (results fn tmps).run P w=.ok (.tuple #[.agg cs,tmps.getD u undef,tmps.getD v undef]) w:=by
 have hp':tmps[p]?.getD undef=.pointer (some ⟨g,0,none⟩):=by simpa using hp
 simp[results,h,hp',asAddr,run_loadVar_row w g t ty cs fr d hg hu hd hi]
theorem Pq(w:World)(o1 o2 o3:Obj):(((w.alloc o1).alloc o2).alloc o3).heap[w.heap.size]?=some o1∧(((w.alloc o1).alloc o2).alloc o3).heap[w.heap.size+1]?=some o2∧(((w.alloc o1).alloc o2).alloc o3).heap[w.heap.size+2]?=some o3∧Bw w (((w.alloc o1).alloc o2).alloc o3):=by
 refine⟨?_,?_,?_,(((Below.refl _ _).alloc (Nat.le_refl _) _).alloc (by simp) _).alloc (by simp;omega) _⟩
 ·rw[heap_alloc_old _ _ (by simp;omega)];exact heap_alloc2_old w o1 o2
 ·rw[heap_alloc_old _ _ (by simp)];exact heap_alloc2_new w o1 o2
 ·have:=heap_alloc_new ((w.alloc o1).alloc o2) o3;simpa using this
theorem ES{w w':World}{base e k8:Nat}{v:Value}{n:Nat}{xs:List Value}(h:w.ownsRow base e k8 v n xs)(hk:∀ k,v.ownBlock=some k→w'.heap[k]?=w.heap[k]?):w'.ownsRow base e k8 v n xs:=by
 refine⟨h.1,?_⟩;rcases h.2 with h2|⟨g,cap,cur,hv,hb,hg,hr⟩
 ·exact .inl h2
 ·exact .inr ⟨g,cap,cur,hv,hb,(hk g (by rw[hv];rfl)).trans hg,hr⟩
theorem TZ{P:Program}{id:Nat}{ops:Array Oper}{K:Act→World→Prop}{Q:Exit→Act→World→Prop}{a:Act}{w:World}(R:Option Addr→Nat→Value→World→Prop){A:Option Addr→Nat→Value→Act}
  (hreg:∀ K':Act→World→Prop,Hid (∀ g c y W2,R g c y W2→K' (A g c y) W2)→(Code.region id ops true).wp P (Exit.then K' Q) a w)(hrest:∀ g c y W2,R g c y W2→K (A g c y) W2):(Code.region id ops true).wp P (Exit.then K Q) a w:=hreg K hrest
theorem dI(v:Vt):(prog.info? 141).map (·.size)=some (vtA v).size:=by show _=some 8;kernel_rfl
theorem F9{P:Program}{fn:Func}{p u:Tmp}{ty:TypeId}(h:fn.results=#[.cell p ty,.tmp u])(tmps:Array Value)(w:World)(g:Nat)(t:TypeId)(cs:Array Value)(fr:Nat × Nat)(d:TypeDesc)
  (hp:tmps.getD p undef=.pointer (some ⟨g,0,none⟩))(hg:w.heap[g]?=some (.cells cs t fr))
  (hu:P.underlying ty=some d)(hd:(match d with|.struct _|.array _ _=>true|_=>false)=true)(hi:(P.info? ty).map (·.size)=some cs.size) :
  (results fn tmps).run P w=.ok (.tuple #[.agg cs,tmps.getD u undef]) w:=by
 have hp':tmps[p]?.getD undef=.pointer (some ⟨g,0,none⟩):=by simpa using hp
 simp[results,h,hp',asAddr,run_loadVar_row w g t ty cs fr d hg hu hd hi]
def cmC(c:Cmd):Array Value:=cmA c.k c.c c.s c.n c.v
theorem BS(p:Bal)(x:Value):(prog.info? 79).map (·.size)=some (acA p x).size:=by show _=some 3;kernel_rfl
theorem Y8(a b a' b':Int):∀ w,(binOp .eql 76 (.agg #[.int .i64 a,.int .i64 b]) (.agg #[.int .i64 a',.int .i64 b'])).run prog w=.ok (.bool (decide (a=a'∧b=b'))) w:=by
 intro w;rw[run_eql_struct,run_equalIn_agg w 9999 _ _ _ (by kernel_rfl) (by kernel_rfl)];unfold Program.fieldsOf;rw[underlying76];have h3:=underlying3;simp[Op.eqFields,go_sem,h3]
 repeat' split
 all_goals simp_all
theorem VH(a b c d e f g h a' b' c' d' e' f' g' h':Int):∀ w,(binOp .eql 141 (.agg #[.int .i64 a,.int .i64 b,.int .i64 c,.int .i64 d,.int .i64 e,.int .i64 f,.int .i64 g,.int .i64 h]) (.agg #[.int .i64 a',.int .i64 b',.int .i64 c',.int .i64 d',.int .i64 e',.int .i64 f',.int .i64 g',.int .i64 h'])).run prog w=.ok (.bool (decide (a=a'∧b=b'∧c=c'∧d=d'∧e=e'∧f=f'∧g=g'∧h=h'))) w:=by
 intro w;rw[run_eql_struct,run_equalIn_agg w 9999 _ _ _ (by kernel_rfl) (by kernel_rfl)];unfold Program.fieldsOf;rw[underlying141];have h3:=underlying3;have h4:=underlying76;have h5:=underlying46;simp[Op.eqFields,go_sem,h3,h4,h5]
 repeat' split
 all_goals simp_all
end
section
def Kx(l:List Vt)(v:Vt):Nat→List Vt
 | 0=>[]
 | k+1=>Kx l v k++(if(k:Int)=v.slot then[v]else Af l k)
theorem P4{a b:List Vt}(ha:B1 a)(hb:B1 b)(h:∀ x∈a,∀ y∈b,x.slot<y.slot):B1 (a++b):=by
 induction a with
 | nil=>exact hb
 | cons x xs ih =>
  refine⟨fun u hu=>?_,ih ha.2 (fun y hy=>h y (List.mem_cons_of_mem _ hy))⟩;rcases List.mem_append.1 hu with hu|hu
  ·exact ha.1 u hu
  ·exact h x List.mem_cons_self u hu
theorem Jg{l:List Vt}(h:B1 l)(q:Vt→Bool):B1 (l.filter q):=by
 induction l with
 | nil=>trivial
 | cons x xs ih =>
  rw[List.filter_cons];split
  ·exact⟨fun u hu=>h.1 u (List.mem_filter.1 hu).1,ih h.2⟩
  ·exact ih h.2
theorem Xj{a b:List Vt}(ha:B1 a)(hb:B1 b)(h:∀ u,u∈a↔u∈b):a=b:=by
 induction a generalizing b with
 | nil =>
  cases b with
  | nil=>rfl
  | cons y ys=>exact absurd ((h y).2 List.mem_cons_self) (List.not_mem_nil)
 | cons x xs ih =>
  cases b with
  | nil=>exact absurd ((h x).1 List.mem_cons_self) (List.not_mem_nil)
  | cons y ys =>
   have hxy:x=y:=by
    rcases List.mem_cons.1 ((h x).1 List.mem_cons_self)with e|e
    ·exact e
    ·rcases List.mem_cons.1 ((h y).2 List.mem_cons_self)with e'|e'
     ·exact e'.symm
     ·have:=ha.1 y e';have:=hb.1 x e;omega
   subst hxy;rw[ih ha.2 hb.2 (fun u=>?_)];constructor
   ·intro hu;rcases List.mem_cons.1 ((h u).1 (List.mem_cons_of_mem _ hu))with rfl|e
    ·have:=ha.1 u hu;omega
    ·exact e
   ·intro hu;rcases List.mem_cons.1 ((h u).2 (List.mem_cons_of_mem _ hu))with rfl|e
    ·have:=hb.1 u hu;omega
    ·exact e
theorem OK{l:List Vt}{v:Vt}(k:Nat)(u:Vt):u∈Kx l v k↔(0≤u.slot∧u.slot<k)∧(u=v∨(u∈l∧u.slot≠v.slot)):=by
 induction k with
 | zero=>simp[Kx];omega
 | succ k ih =>
  rw[Kx,List.mem_append,ih];by_cases hk:(k:Int)=v.slot
  ·rw[if_pos hk,List.mem_singleton];constructor
   ·rintro(⟨h1,h2⟩|rfl)
    ·exact⟨by omega,h2⟩
    ·exact⟨by omega,.inl rfl⟩
   ·rintro⟨h1,rfl|⟨h2,h3⟩⟩
    ·exact .inr rfl
    ·exact .inl ⟨by omega,.inr ⟨h2,h3⟩⟩
  ·rw[if_neg hk,BL];constructor
   ·rintro(⟨h1,h2⟩|⟨h1,h2⟩)
    ·exact⟨by omega,h2⟩
    ·exact⟨by omega,.inr ⟨h1,by omega⟩⟩
   ·rintro⟨h1,rfl|⟨h2,h3⟩⟩
    ·exact .inl ⟨by omega,.inl rfl⟩
    ·by_cases h4:u.slot=k
     ·exact .inr ⟨h2,h4⟩
     ·exact .inl ⟨by omega,.inr ⟨h2,h3⟩⟩
theorem I1{l:List Vt}(h:B1 l)(s:Int):(Af l s).length≤1:=by
 match e:Af l s with
 | []=>simp
 | [_]=>simp
 | x::y::r =>
  have hr:B1 (Af l s):=Jg h _;have hx:=(BL.1 (show x∈Af l s by rw[e];simp)).2;have hy:=(BL.1 (show y∈Af l s by rw[e];simp)).2;rw[e]at hr
  have:=hr.1 y List.mem_cons_self;omega
theorem VS{l:List Vt}(v:Vt)(h:B1 l)(k:Nat):(Kx l v k).length≤k:=by
 induction k with
 | zero=>simp[Kx]
 | succ k ih =>
  rw[Kx,List.length_append];have:=I1 h k;split
  ·simp;omega
  ·omega
theorem T2{l:List Vt}(v:Vt)(h:B1 l)(k:Nat):B1 (Kx l v k):=by
 induction k with
 | zero=>trivial
 | succ k ih =>
  rw[Kx];refine P4 ih ?_ ?_
  ·split
   ·exact⟨fun u hu=>(List.not_mem_nil hu).elim,trivial⟩
   ·exact Jg h _
  ·intro x hx y hy;have h1:=((OK k x).1 hx).1;split at hy
   ·obtain rfl:y=v:=by simpa using hy
    omega
   ·have:=(BL.1 hy).2;omega
theorem YL{l:List Vt}{v:Vt}(k:Nat)(h:B1 l)(hl:∀ u∈l,0≤u.slot∧u.slot<k)(hv:0≤v.slot∧v.slot<k):Kx l v k=AY l v:=by
 refine Xj (T2 v h k) (Iw v h) fun u=>?_;rw[OK,Ct h];constructor
 ·exact fun hh=>hh.2
 ·rintro(rfl|⟨h1,h2⟩)
  ·exact⟨hv,.inl rfl⟩
  ·exact⟨hl u h1,.inr ⟨h1,h2⟩⟩
theorem IY(l:List Vt)(u:Vt)(s:Int):Af (l++[u]) s=Af l s++(if u.slot=s then[u]else[]):=by
 unfold Af;rw[List.filter_append];by_cases h:u.slot=s<;>simp[h]
theorem UE(ls:List (List Vt))(j:Nat)(l:List Vt)(h:ls[j]?=some l):(ls.take (j+1)).flatten=(ls.take j).flatten++l:=by
 obtain⟨hj,e⟩:=List.getElem?_eq_some_iff.1 h;rw[List.take_succ_eq_append_getElem hj,e];simp
theorem Df(a b:List Vt)(s:Int):Af (a++b) s=Af a s++Af b s:=by unfold Af;rw[List.filter_append]
end
section
open Go.RowKit
structure Sac(w:World)(x:Value)(ac:List Acc):Prop where
 ex:∃ a cap,x=.slice a ac.length cap∧(ac=[]∨∃ b off,a=some ⟨b,off,none⟩∧b<w.heap.size∧∀ (i:Nat) (A:Acc),ac[i]?=some A→∃ y,w.rangeAt b (off+3*i) [.int .i64 A.p.r,.int .i64 A.p.n,y]∧Sv w y A.vs)
 len:ac.length≤3518437208780
theorem Sac.below{w w':World}{x:Value}{ac:List Acc}(h:Sac w x ac)(hb:Bw w w'):Sac w' x ac:=by
 obtain⟨⟨a,cap,rfl,h1⟩,h2⟩:=h;refine⟨⟨a,cap,rfl,?_⟩,h2⟩;rcases h1 with h1|⟨b,off,ha,hbs,hc⟩
 ·exact .inl h1
 ·refine .inr ⟨b,off,ha,Nat.lt_of_lt_of_le hbs hb.size,fun i A hi=>?_⟩;obtain⟨y,h3,h4⟩:=hc i A hi;exact⟨y,GH hb hbs h3,h4.below hb⟩
theorem Sac.shape{w:World}{x:Value}{ac:List Acc}(h:Sac w x ac):∃ a cap,x=.slice a ac.length cap:=by
 obtain⟨⟨a,cap,e,_⟩,_⟩:=h;exact⟨a,cap,e⟩
theorem Sac.spot{w:World}{a:Option Addr}{n cap:Nat}{ac:List Acc}(h:Sac w (.slice a n cap) ac)(i:Nat)(A:Acc)(hi:ac[i]?=some A):∃ b off y,a=some ⟨b,off,none⟩∧b<w.heap.size∧w.rangeAt b (off+3*i) [.int .i64 A.p.r,.int .i64 A.p.n,y]∧Sv w y A.vs:=by
 obtain⟨⟨a',cap',e,h1⟩,_⟩:=h;simp only[Value.slice.injEq]at e;obtain⟨rfl,rfl,rfl⟩:=e;rcases h1 with rfl|⟨b,off,rfl,hb,hc⟩
 ·simp at hi
 ·obtain⟨y,h3,h4⟩:=hc i A hi;exact⟨b,off,y,rfl,hb,h3,h4⟩
theorem ce:prog.elem 201=79:=by kernel_rfl
theorem dx(w:World):(Go.sizeOf 79).run prog w=.ok 3 w:=by
 have h:(prog.info? 79).map (·.size)=some 3:=by kernel_rfl
 cases hi:prog.info? 79 with
 | none=>rw[hi]at h;cases h
 | some i =>
  rw[hi]at h
  simp at h;simp[sizeOf,typeInfo,hi,h]
theorem MF(b o n c:Nat)(i:Nat)(hi:i<n)(w:World):(Instr.indexAt 201 (.slice (some ⟨b,o,none⟩) n c) (.int .i64 (i:Int))).run prog w=.ok (.pointer (some ⟨b,o+3*i,none⟩)) w:=by
 rw[run_indexAt_slice (P:=prog) w 201 _ n c .i64 _ underlying201,if_pos ⟨by omega,by omega⟩,ce,dx];simp[Result.andThen,Addr.add_mid,Nat.mul_comm]
def Ej(ac:List Acc)(s:Int):List Vt:=Af (ac.map (·.vs)).flatten s
def CV(ac:List Acc)(s:Int):Int:=if ¬ ((0≤s∧s≤39)∧(1≤(ac.length:Int)∧(ac.length:Int)≤5))then 2 else if ¬ ∀ a∈ac,An a then 5 else if(GZ (Ej ac s) ac.length).isSome then 0 else 9
def Cr(ac:List Acc)(s:Int):Cmd:=if CV ac s=0 then((GZ (Ej ac s) ac.length).map (·.w)).getD ⟨0,0,0,0,0⟩else⟨0,0,0,0,0⟩
theorem Ir{ac:List Acc}{s:Int}(h:¬ ((0≤s∧s≤39)∧(1≤(ac.length:Int)∧(ac.length:Int)≤5))):Cr ac s=⟨0,0,0,0,0⟩∧CV ac s=2:=by
 have e:CV ac s=2:=if_pos h;exact⟨if_neg (by rw[e];decide),e⟩
theorem Ti{ac:List Acc}{s:Int}(h:(0≤s∧s≤39)∧(1≤(ac.length:Int)∧(ac.length:Int)≤5))(hb:¬ ∀ a∈ac,An a):Cr ac s=⟨0,0,0,0,0⟩∧CV ac s=5:=by
 have e:CV ac s=5:=by unfold CV;rw[if_neg (fun g=>g h),if_pos hb]
 exact⟨if_neg (by rw[e];decide),e⟩
theorem Vr{ac:List Acc}{s:Int}(h:(0≤s∧s≤39)∧(1≤(ac.length:Int)∧(ac.length:Int)≤5))(hb:∀ a∈ac,An a)(ho:GZ (Ej ac s) ac.length=none):Cr ac s=⟨0,0,0,0,0⟩∧CV ac s=9:=by
 have e:CV ac s=9:=by unfold CV;rw[if_neg (fun g=>g h),if_neg (fun g=>g hb),ho];rfl
 exact⟨if_neg (by rw[e];decide),e⟩
theorem Vs{ac:List Acc}{s:Int}(h:(0≤s∧s≤39)∧(1≤(ac.length:Int)∧(ac.length:Int)≤5))(hb:∀ a∈ac,An a){x:Vt}(ho:GZ (Ej ac s) ac.length=some x):Cr ac s=x.w∧CV ac s=0:=by
 have e:CV ac s=0:=by unfold CV;rw[if_neg (fun g=>g h),if_neg (fun g=>g hb),ho];rfl
 exact⟨by unfold Cr;rw[if_pos e,ho];rfl,e⟩
theorem bR{bs:List Acc}(h:∀ a∈bs,An a)(s:Int):(Af (bs.map (·.vs)).flatten s).length≤bs.length:=by
 induction bs with
 | nil=>simp[Af]
 | cons a bs ih =>
  have h1:=I1 (h a List.mem_cons_self).2.2 s;have h2:=ih (fun b hb=>h b (List.mem_cons_of_mem _ hb));simp only[List.map_cons,List.flatten_cons,List.length_cons];rw[Df,List.length_append];omega
theorem UD{ac:List Acc}{j:Nat}{a:Acc}(h:ac[j]?=some a)(h1:∀ a∈ac.take j,An a)(h2:An a):∀ a∈ac.take (j+1),An a:=by
 obtain⟨hj,e⟩:=List.getElem?_eq_some_iff.1 h;rw[List.take_succ_eq_append_getElem hj,e];intro b hb;rcases List.mem_append.1 hb with g|g
 ·exact h1 b g
 ·obtain rfl:b=a:=by simpa using g
  exact h2
theorem RI(ac:List Acc)(j:Nat)(a:Acc)(h:ac[j]?=some a):((ac.take (j+1)).map (·.vs)).flatten=((ac.take j).map (·.vs)).flatten++a.vs:=by
 obtain⟨hj,e⟩:=List.getElem?_eq_some_iff.1 h;rw[List.take_succ_eq_append_getElem hj,e];simp
end
section
end
section
open Go.RowKit
def baA(b:Bal):Array Value:=#[.int .i64 b.r,.int .i64 b.n]
theorem Dz{w:World}{g:Nat}{b:Bal}{ty:TypeId}{fr:Nat × Nat}(h:w.heap[g]?=some (.cells (baA b) ty fr)) :
  w.cell? ⟨g,0,none⟩=some (.int .i64 b.r)∧w.cell? ⟨g,1,none⟩=some (.int .i64 b.n) :=
 ⟨cell_of_row _ _ 0 _ _ _ h,cell_of_row _ _ 1 _ _ _ h⟩
theorem IH{w:World}{g:Nat}{v:Vt}{ty:TypeId}{fr:Nat × Nat}(h:w.heap[g]?=some (.cells (vtA v) ty fr)) :
  w.cell? ⟨g,0,none⟩=some (.int .i64 v.slot)∧w.cell? ⟨g,1,none⟩=some (.int .i64 v.b.r)∧w.cell? ⟨g,2,none⟩=some (.int .i64 v.b.n)∧w.cell? ⟨g,3,none⟩=some (.int .i64 v.w.k)∧w.cell? ⟨g,4,none⟩=some (.int .i64 v.w.c)∧w.cell? ⟨g,5,none⟩=some (.int .i64 v.w.s)∧w.cell? ⟨g,6,none⟩=some (.int .i64 v.w.n)∧w.cell? ⟨g,7,none⟩=some (.int .i64 v.w.v) :=
 ⟨cell_of_row _ _ 0 _ _ _ h,cell_of_row _ _ 1 _ _ _ h,cell_of_row _ _ 2 _ _ _ h,cell_of_row _ _ 3 _ _ _ h,cell_of_row _ _ 4 _ _ _ h,cell_of_row _ _ 5 _ _ _ h,cell_of_row _ _ 6 _ _ _ h,cell_of_row _ _ 7 _ _ _ h⟩
def OkV(p:Bal)(l:List Vt):Prop:=(∀ v∈l,Ak v∧¬ p.lt v.b)∧B1 l
theorem Ur(l:List Vt)(v:Vt):B1 (l++[v])↔B1 l∧∀ u∈l,u.slot<v.slot:=by
 induction l with
 | nil=>exact⟨fun _=>⟨trivial,fun u hu=>(List.not_mem_nil hu).elim⟩,fun _=>⟨fun u hu=>(List.not_mem_nil hu).elim,trivial⟩⟩
 | cons x xs ih =>
  show((∀ u∈xs++[v],x.slot<u.slot)∧B1 (xs++[v]))↔((∀ u∈xs,x.slot<u.slot)∧B1 xs)∧∀ u∈x::xs,u.slot<v.slot;rw[ih];constructor
  ·rintro⟨h1,h2,h3⟩;refine⟨⟨fun u hu=>h1 u (List.mem_append_left _ hu),h2⟩,fun u hu=>?_⟩;rcases List.mem_cons.1 hu with rfl|hu
   ·exact h1 v (List.mem_append_right _ List.mem_cons_self)
   ·exact h3 u hu
  ·rintro⟨⟨h1,h2⟩,h3⟩;refine⟨fun u hu=>?_,h2,fun u hu=>h3 u (List.mem_cons_of_mem _ hu)⟩;rcases List.mem_append.1 hu with hu|hu
   ·exact h1 u hu
   ·obtain rfl:u=v:=by simpa using hu
    exact h3 x List.mem_cons_self
theorem OkV.snoc{p:Bal}{l:List Vt}(h:OkV p l)(v:Vt):OkV p (l++[v])↔Ak v∧¬ p.lt v.b∧∀ u∈l,u.slot<v.slot:=by
 unfold OkV;rw[Ur];constructor
 ·rintro⟨h1,h2,h3⟩;exact⟨(h1 v (by simp)).1,(h1 v (by simp)).2,h3⟩
 ·rintro⟨h1,h2,h3⟩;refine⟨fun u hu=>?_,h.2,h3⟩;rcases List.mem_append.1 hu with hu|hu
  ·exact h.1 u hu
  ·obtain rfl:u=v:=by simpa using hu
   exact⟨h1,h2⟩
theorem OkV.left{p:Bal}{l m:List Vt}(h:OkV p (l++m)):OkV p l:=by
 refine⟨fun v hv=>h.1 v (List.mem_append_left _ hv),?_⟩;have h2:=h.2;clear h;induction l with
 | nil=>trivial
 | cons x xs ih=>exact⟨fun u hu=>h2.1 u (List.mem_append_left _ hu),ih h2.2⟩
def Fk(a:Acc)(b:Bal):Bal:=if BN a b=0 then b else⟨0,0⟩
def Fj(a:Acc)(b:Bal):List Vt:=if BN a b=0 then a.vs else[]
def BO(a:Acc)(v:Vt):Bal:=if AO a v=0 then v.b else⟨0,0⟩
def BX(a:Acc)(v:Vt):List Vt:=if AO a v=0 then AY a.vs v else[]
def Gu(ls:List (List Vt))(s:Int):Cmd:=if Cx ls s=0 then((Jb ls s).map (·.w)).getD ⟨0,0,0,0,0⟩else⟨0,0,0,0,0⟩
def Fh(ls:List (List Vt))(s:Int):Bool:=if Cx ls s=0 then(Jb ls s).isSome else false
theorem WZ{ls:List (List Vt)}{s:Int}(h:¬ (0≤s∧s≤39)):Gu ls s=⟨0,0,0,0,0⟩∧Fh ls s=false∧Cx ls s=2:=by
 have e:Cx ls s=2:=if_pos h;exact⟨if_neg (by rw[e];decide),if_neg (by rw[e];decide),e⟩
theorem Ru{ls:List (List Vt)}{s:Int}(h:0≤s∧s≤39)(hb:¬ ∀ l∈ls,∀ v∈l,Ak v):Gu ls s=⟨0,0,0,0,0⟩∧Fh ls s=false∧Cx ls s=5:=by
 have e:Cx ls s=5:=by unfold Cx;rw[if_neg (fun g=>g h),if_neg hb]
 exact⟨if_neg (by rw[e];decide),if_neg (by rw[e];decide),e⟩
theorem XM{ls:List (List Vt)}{j:Nat}{l:List Vt}(h:ls[j]?=some l)(h1:∀ l∈ls.take j,∀ v∈l,Ak v)(h2:∀ v∈l,Ak v):∀ l∈ls.take (j+1),∀ v∈l,Ak v:=by
 obtain⟨hj,e⟩:=List.getElem?_eq_some_iff.1 h;rw[List.take_succ_eq_append_getElem hj,e];intro l' hl';rcases List.mem_append.1 hl' with g|g
 ·exact h1 l' g
 ·obtain rfl:l'=l:=by simpa using g
  exact h2
theorem XN{l:List Vt}{k:Nat}{u:Vt}(h:l[k]?=some u)(h1:∀ v∈l.take k,Ak v)(h2:Ak u):∀ v∈l.take (k+1),Ak v:=by
 rw[DL l k u h];intro v hv;rcases List.mem_append.1 hv with g|g
 ·exact h1 v g
 ·obtain rfl:v=u:=by simpa using g
  exact h2
end
end Go.Proofs.YtfhbkoflaekhpaaGreatDoor
