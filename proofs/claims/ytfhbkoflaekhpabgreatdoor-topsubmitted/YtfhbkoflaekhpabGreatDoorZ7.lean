/- Part 7 of the walk. -/
import Derived.Great.BuildSlice
import Derived.Test.YtfhbkoflaekhpabGreatDoorZ6
import Derived.Test.YtfhbkoflaekhpabGreatDoorZ5
set_option maxRecDepth 100000
set_option maxHeartbeats 4000000
open Go.Proofs.Tryz
set_option linter.unusedVariables false
namespace Go.Proofs.YtfhbkoflaekhpabGreatDoor
section
open Go.RowKit
section
variable{P:Program}{fn:Func}{R:Ending→World→Prop}{B:Nat}{T:List Tg}{g:Gh}{w:World}
theorem Kn.at{L:List Sh}(h:Kn B g w L)(k:Nat){x:Sh}(hx:L[k]?=some x):w.heap[x.g]?=some x.o:=(h.row x (List.mem_of_getElem? hx)).1
theorem Kn.ats{L:List Sh}(h:Kn B g w L)(k b:Nat)(cs:Array Value)(e:TypeId)(t:Tg)(v:Bool)(hx:L[k]?=some ⟨b,.cells cs e,t,v⟩):w.heap[b]?=some (.cells cs e):=h.at k hx
theorem Kn.isN{L:List Sh}(h:Kn B g w L)(k b:Nat)(o:Obj)(r i:Nat)(hx:L[k]?=some ⟨b,o,.n r i,false⟩):w.heap[b]?=some o∧g.t b=.n r i∧g.k b=0 :=
 have h1:=h.row _ (List.mem_of_getElem? hx)
 ⟨h1.1,h1.2.1,h1.2.2.2 (by simp)⟩
theorem Kn.isZ{L:List Sh}(h:Kn B g w L)(k b:Nat)(o:Obj)(v:Bool)(hx:L[k]?=some ⟨b,o,.z,v⟩):w.heap[b]?=some o∧g.t b=.z :=
 have h1:=h.row _ (List.mem_of_getElem? hx)
 ⟨h1.1,h1.2.1⟩
theorem Ct{L:List Sh}(h:Kn B g w L)(k b:Nat)(news:List Value)(e:TypeId)(t:Tg)(v:Bool)(hx:L[k]?=some ⟨b,.cells news.toArray e,t,v⟩):∀ j u,news[j]?=some u→w.cell? ((⟨b,0,none⟩:Addr).add j)=some u:=by
 intro j u hj;have h1:=h.at k hx;have:(⟨b,0,none⟩:Addr).add j=⟨b,j,none⟩:=by unfold Addr.add;split<;>simp_all
 rw[this,cell_of_row _ _ _ _ _ _ h1];simpa using hj
def CX(s:Xs)(i':Nat):Option (Sem Next):=(opN s i').map fun x=>execOp s.f.ev x.2.2
theorem Db{s:Xs}{i':Nat}{S:Sem Next}(h:CX s i'=some S){ops:Array Oper}{i:Nat}{o:Oper}(ho:opN s i'=some (ops,i,o)):execOp s.f.ev o=S:=by
 unfold CX at h;rw[ho]at h
 simpa using h
theorem BH{s:Xs}{i':Nat}{S:Sem Next}(h:CX s i'=some S):(opN s i').isSome=true:=by
 unfold CX at h;cases hx:opN s i' with
 | none=>rw[hx]at h;cases h
 | some x=>rfl
theorem J0{s:Xs}(i':Nat){τ:Tg}{kp:Bool}{x:S3}{xs:List Value}(t ty e:TypeId)(sz bytes:Nat)(z:Value)(a:Addr)(m c:Nat)(news:List Value)(hx:OwnS g w τ kp e sz x xs)
  (hsem:CX s i'=some (Builtin.append_ #[t,t] ty #[x.v,.slice (some a) m c]>>=fun v=>pure (.value v)))(hob:(nxt s i' undef s.L).o.map Ob.l'=(nxt s i' undef s.L).o.map Ob.r')(hT:s.L.all (fun y=>[τ].all fun t=>y.t.ne t)=true)
  (ht:P.underlying t=some (.slice e))(hinfo:(P.info? e).map (fun i=>(i.zero,i.size,i.bytes))=some (some z,sz,bytes))(hzs:Nat.beq z.cells.size sz=true)(hsz:0<sz)(hm:0<m)(hl:news.length=m*sz)(h1:∀ u∈news,u.oneCell'=true)
  (hnews:Kn B g w s.L→∀ j u,news[j]?=some u→w.cell? (a.add j)=some u)(h63:x.n+m≤maxLen)(hbytes:(x.n+m)*bytes≤140737488355328)
  (hk:∀ x' g' w',OwnS g' w' τ kp e sz x' (xs++news)→x'.n=x.n+m→(∀ B T,τ∈T→Cg B T g w g' w')→In g' w'→GG P fn R B T (nxt s i' (S3.v x') s.L).s g' w'):GG P fn R B T s g w:=by
 refine Ky i' s.L hob (BH hsem) fun hK ops i o hop=>?_;obtain⟨x',w',g',hr,h2,h3,h4,h5⟩:=gG (P:=P) (B:=w.heap.size) (T:=[τ]) t ty e sz bytes z ht hinfo (Nat.eq_of_beq_eq_true hzs) hsz (List.mem_singleton.2 rfl) hx hK.new a m c news hm hl (hnews hK) h1 h63 hbytes;refine⟨x'.v,w',g',.inl ?_,hK.ch h4 h5 hT,hk x' g' w' h2 h3 (fun B T hT=>(h4.ret (B:=B)).mono fun t ht=>by rw[List.mem_singleton.1 ht];exact hT) h5⟩;rw[Db hsem hop,Sem.run_bind,hr,Result.andThen_ok];rfl
end
end
section
structure Bal where
 r:Int
 n:Int
theorem Bal.eq_iff(a b:Bal):(a.r=b.r∧a.n=b.n)↔a=b:=by
 cases a;cases b;simp
instance:DecidableEq Bal:=fun a b=>decidable_of_iff _ (Bal.eq_iff a b)
structure Cmd where
 k:Int
 c:Int
 s:Int
 n:Int
 v:Int
theorem Cmd.eq_iff(a b:Cmd):(a.k=b.k∧a.c=b.c∧a.s=b.s∧a.n=b.n∧a.v=b.v)↔a=b:=by
 cases a;cases b;simp
instance:DecidableEq Cmd:=fun a b=>decidable_of_iff _ (Cmd.eq_iff a b)
structure Vt where
 slot:Int
 b:Bal
 w:Cmd
theorem Vt.eq_iff(a b:Vt):(a.slot=b.slot∧a.b=b.b∧a.w=b.w)↔a=b:=by
 cases a;cases b;simp
instance:DecidableEq Vt:=fun a b=>decidable_of_iff _ (Vt.eq_iff a b)
instance:Inhabited Vt:=⟨⟨0,⟨0,0⟩,⟨0,0,0,0,0⟩⟩⟩
structure Acc where
 p:Bal
 vs:List Vt
def Bal.lt(a b:Bal):Prop:=a.r<b.r∨(a.r=b.r∧a.n<b.n)
instance (a b:Bal):Decidable (a.lt b):=by unfold Bal.lt;exact inferInstance
def Bal.key(a:Bal):Int:=5*a.r+a.n
def Ad(a:Bal):Prop:=(1≤a.r∧a.r≤65536)∧0≤a.n∧a.n≤4
instance (a:Bal):Decidable (Ad a):=by unfold Ad;exact inferInstance
def Cmd.e(c:Cmd):Int:=AY c.k c.c c.s c.n c.v
def Aj(v:Vt):Prop:=(0≤v.slot∧v.slot≤39)∧Ad v.b∧v.w.e=0
instance (v:Vt):Decidable (Aj v):=by unfold Aj;exact inferInstance
def AQ(a:Bal):Prop:=Ad a∨(a.r=0∧a.n=0)
instance (a:Bal):Decidable (AQ a):=by unfold AQ;exact inferInstance
def BA:List Vt→Prop
 | []=>True
 | u::us=>(∀ v∈us,u.slot<v.slot)∧BA us
def SC:(l:List Vt)→Decidable (BA l)
 | []=>isTrue trivial
 | u::us=>@instDecidableAnd _ _ inferInstance (SC us)
instance (l:List Vt):Decidable (BA l):=SC l
def Ao(a:Acc):Prop:=AQ a.p∧(∀ v∈a.vs,Aj v∧¬ a.p.lt v.b)∧BA a.vs
instance (a:Acc):Decidable (Ao a):=by unfold Ao;exact inferInstance
theorem Ns{a b:Bal}(ha:AQ a)(hb:AQ b):a.lt b↔a.key<b.key:=by
 unfold AQ Ad at ha hb;unfold Bal.lt Bal.key;omega
theorem Zh{a b:Bal}(ha:AQ a)(hb:AQ b)(h:a.key=b.key):a=b:=by
 unfold AQ Ad at ha hb;unfold Bal.key at h;exact(Bal.eq_iff a b).1 (by omega)
theorem Ad.pr{a:Bal}(h:Ad a):AQ a:=.inl h
def Gd(a:Acc):Int:=if Ao a then 0 else 5
def BG(a:Acc)(b:Bal):Int:=if ¬ Ao a then 5 else if ¬ Ad b then 2 else if b.lt a.p then 7 else 0
def AT(a:Acc)(v:Vt):Int:=if ¬ Ao a then 5 else if ¬ Aj v then 2 else if v.b.lt a.p then 7 else 0
def Be:List Vt→Vt→List Vt
 | [],v=>[v]
 | u::us,v=>if u.slot<v.slot then u::Be us v else if u.slot=v.slot then v::us else v::u::us
theorem D7{l:List Vt}{v u:Vt}(h:BA l):u∈Be l v↔u=v∨(u∈l∧u.slot≠v.slot):=by
 induction l with
 | nil=>simp[Be]
 | cons x xs ih =>
  obtain⟨hx,hxs⟩:=h;have ih:=ih hxs;rw[Be];split
  ·rename_i h1
   rw[List.mem_cons,ih];constructor
   ·rintro(rfl|rfl|⟨h2,h3⟩)
    ·exact .inr ⟨List.mem_cons_self,by omega⟩
    ·exact .inl rfl
    ·exact .inr ⟨List.mem_cons_of_mem _ h2,h3⟩
   ·rintro(rfl|⟨h2,h3⟩)
    ·exact .inr (.inl rfl)
    ·rcases List.mem_cons.1 h2 with rfl|h2
     ·exact .inl rfl
     ·exact .inr (.inr ⟨h2,h3⟩)
  ·split
   ·rename_i h1 h2
    rw[List.mem_cons];constructor
    ·rintro(rfl|h3)
     ·exact .inl rfl
     ·have:=hx u h3;exact .inr ⟨List.mem_cons_of_mem _ h3,by omega⟩
    ·rintro(rfl|⟨h3,h4⟩)
     ·exact .inl rfl
     ·rcases List.mem_cons.1 h3 with rfl|h3
      ·exact absurd h2 h4
      ·exact .inr h3
   ·rename_i h1 h2
    rw[List.mem_cons];constructor
    ·rintro(rfl|h3)
     ·exact .inl rfl
     ·rcases List.mem_cons.1 h3 with rfl|h4
      ·exact .inr ⟨h3,h2⟩
      ·have:=hx u h4;exact .inr ⟨h3,by omega⟩
    ·rintro(rfl|⟨h3,h4⟩)
     ·exact .inl rfl
     ·exact .inr h3
theorem Iz{l:List Vt}(v:Vt)(h:BA l):BA (Be l v):=by
 induction l with
 | nil=>exact⟨fun u hu=>(List.not_mem_nil hu).elim,trivial⟩
 | cons x xs ih =>
  obtain⟨hx,hxs⟩:=h;rw[Be];split
  ·rename_i h1
   refine⟨fun u hu=>?_,ih hxs⟩;rcases(D7 hxs).1 hu with rfl|⟨h2,_⟩
   ·exact h1
   ·exact hx u h2
  ·split
   ·rename_i h1 h2
    exact⟨fun u hu=>by have:=hx u hu;omega,hxs⟩
   ·rename_i h1 h2
    refine⟨fun u hu=>?_,hx,hxs⟩;rcases List.mem_cons.1 hu with rfl|h3
    ·omega
    ·have:=hx u h3;omega
def BP:List Vt→Option Vt→Option Vt
 | [],o=>o
 | v::l,none=>BP l (some v)
 | v::l,some u=>if u.b.lt v.b then BP l (some v)else BP l (some u)
def Am(l:List Vt)(s:Int):List Vt:=l.filter fun v=>decide (v.slot=s)
theorem Cu{l:List Vt}{s:Int}{v:Vt}:v∈Am l s↔v∈l∧v.slot=s:=by simp[Am]
def C1(ls:List (List Vt))(s:Int):Int:=if ¬ (0≤s∧s≤39)then 2 else if ∀ l∈ls,∀ v∈l,Aj v then 0 else 5
def KM(ls:List (List Vt))(s:Int):Option Vt:=BP (Am ls.flatten s) none
def CH(l:List Vt)(v:Vt):Nat:=l.countP fun u=>decide (u=v)
def Hf(l:List Vt)(m:Nat):Option Vt:=l.find? fun v=>decide (m<2*CH l v)
end
section
open Go.RowKit
def vtC(v:Vt):List Value:=[.int .i64 v.slot,.int .i64 v.b.r,.int .i64 v.b.n,.int .i64 v.w.k,.int .i64 v.w.c,.int .i64 v.w.s,.int .i64 v.w.n,.int .i64 v.w.v]
def vtA(v:Vt):Array Value:=(vtC v).toArray
theorem BU(v:Vt):(vtC v).length=8:=rfl
theorem aW(v:Vt):∀ u∈vtC v,u.oneCell'=true:=by
 intro u hu;simp only[vtC,List.mem_cons,List.not_mem_nil,or_false]at hu;rcases hu with rfl|rfl|rfl|rfl|rfl|rfl|rfl|rfl<;>rfl
def vtL(l:List Vt):List Value:=l.flatMap vtC
theorem Lt(v:Vt)(l:List Vt):vtL (v::l)=vtC v++vtL l:=rfl
theorem RM(l m:List Vt):vtL (l++m)=vtL l++vtL m:=by simp[vtL]
theorem Cw(l:List Vt):(vtL l).length=l.length*8:=by
 induction l with
 | nil=>rfl
 | cons v l ih=>rw[Lt,List.length_append,ih,BU,List.length_cons];omega
theorem SS(l:List Vt):∀ u∈vtL l,u.oneCell'=true:=by
 intro u hu;obtain⟨v,_,hv⟩:=List.mem_flatMap.1 hu;exact aW v u hv
theorem aX(l:List Vt)(i:Nat)(v:Vt)(h:l[i]?=some v)(j:Nat)(u:Value)(hj:(vtC v)[j]?=some u):(vtL l)[8*i+j]?=some u:=by
 induction l generalizing i with
 | nil=>simp at h
 | cons x l ih =>
  have hj8:j<8:=by have:=(List.getElem?_eq_some_iff.1 hj).1;rwa [BU]at this
  rw[Lt];cases i with
  | zero =>
   simp at h;subst h;rw[List.getElem?_append_left (by rw[BU];omega)];simpa using hj
  | succ i =>
   rw[List.getElem?_append_right (by rw[BU];omega),BU,show 8*(i+1)+j-8=8*i+j by omega];exact ih i (by simpa using h)
theorem Yj(l:List Vt)(m:Nat)(u:Value)(h:(vtL l)[m]?=some u):∃ v,l[m/8]?=some v∧(vtC v)[m%8]?=some u:=by
 induction l generalizing m with
 | nil=>simp[vtL]at h
 | cons x l ih =>
  rw[Lt]at h
  rcases Nat.lt_or_ge m 8 with hm|hm
  ·rw[List.getElem?_append_left (by rw[BU];omega)]at h
   exact⟨x,by rw[Nat.div_eq_of_lt hm];rfl,by rwa [Nat.mod_eq_of_lt hm]⟩
  ·rw[List.getElem?_append_right (by rw[BU];omega),BU]at h
   obtain⟨v,h1,h2⟩:=ih (m-8) h;refine⟨v,?_,?_⟩
   ·rw[show m/8=(m-8)/8+1 by omega];simpa using h1
   ·rw[show m%8=(m-8)%8 by omega];exact h2
structure Sv(w:World)(x:Value)(l:List Vt):Prop where
 ex:∃ a cap,x=.slice a l.length cap∧l.length≤cap∧(a=none→cap=0)∧(l=[]∨∃ b off,a=some ⟨b,off,none⟩∧b<w.heap.size∧∀ i v,l[i]?=some v→w.rangeAt b (off+8*i) (vtC v))
 len:l.length≤2199023255488
theorem Sv.below{w w':World}{x:Value}{l:List Vt}(h:Sv w x l)(hb:Bw w w'):Sv w' x l:=by
 obtain⟨⟨a,cap,rfl,hc,hn,h1⟩,h2⟩:=h;refine⟨⟨a,cap,rfl,hc,hn,?_⟩,h2⟩;rcases h1 with h1|⟨b,off,ha,hbs,hcell⟩
 ·exact .inl h1
 ·exact .inr ⟨b,off,ha,Nat.lt_of_lt_of_le hbs hb.size,fun i v hi j u hj=>(hb.cell (p:=⟨b,off+8*i+j,none⟩) hbs).trans (hcell i v hi j u hj)⟩
theorem Sv.nil(w:World):Sv w (.slice none 0 0) []:=⟨⟨none,0,rfl,by simp,by simp,.inl rfl⟩,by simp⟩
theorem Sv.shape{w:World}{x:Value}{l:List Vt}(h:Sv w x l):∃ a cap,x=.slice a l.length cap:=by
 obtain⟨⟨a,cap,e,_⟩,_⟩:=h;exact⟨a,cap,e⟩
theorem Sv.spot{w:World}{a:Option Addr}{n cap:Nat}{l:List Vt}(h:Sv w (.slice a n cap) l)(i:Nat)(v:Vt)(hi:l[i]?=some v):∃ b off,a=some ⟨b,off,none⟩∧b<w.heap.size∧w.rangeAt b (off+8*i) (vtC v):=by
 obtain⟨⟨a',cap',e,hc,hn,h1⟩,_⟩:=h;simp only[Value.slice.injEq]at e;obtain⟨rfl,rfl,rfl⟩:=e;rcases h1 with rfl|⟨b,off,rfl,hb,hcell⟩
 ·simp at hi
 ·exact⟨b,off,rfl,hb,hcell i v hi⟩
theorem Sv.ofOwns{w:World}{base e:Nat}{x:Value}{l:List Vt}(h:w.ownsRow base e 8 x l.length (vtL l))(hl:l.length≤2199023255488):Sv w x l:=by
 refine⟨?_,hl⟩;rcases h.2 with⟨rfl,h0⟩|⟨g,cap,cur,rfl,_,hg,hn,_,hcs,ht⟩
 ·exact⟨none,0,by rw[h0],by omega,fun _=>rfl,.inl (List.eq_nil_of_length_eq_zero h0)⟩
 ·refine⟨_,cap,rfl,hn,by simp,.inr ⟨g,0,rfl,(Array.getElem?_eq_some_iff.1 hg).1,fun i v hi j u hj=>?_⟩⟩;have hc:=h.cells (g:=g) rfl (8*i+j) u (aX l i v hi j u hj);have hadd:(⟨g,0,none⟩:Addr).add (8*i+j)=⟨g,8*i+j,none⟩:=by unfold Addr.add;split<;>simp_all
  rw[hadd]at hc
  rw[Nat.zero_add];exact hc
theorem LW{P:Program}(w:World)(base t ty e:Nat)(z:Value)(ht:P.underlying t=some (.slice e))(hinfo:(P.info? e).map (fun i=>(i.zero,i.size,i.bytes))=some (some z,8,64))(hz8:z.cells.size=8)
  (x:Value)(l:List Vt)(hown:w.ownsRow base e 8 x l.length (vtL l))(u:Value)(m:List Vt)(hu:Sv w u m)
  (hlen:l.length+m.length≤2199023255552)(hbase:base≤w.heap.size) :
  ∃ v' w',(Builtin.append_ #[t,t] ty #[x,u]).run P w=.ok v' w'∧w'.ownsRow base e 8 v' (l++m).length (vtL (l++m))∧w.grownBy w' x.ownBlock:=by
 obtain⟨i,hi,hz,hsz,hby⟩:=info_parts hinfo;obtain⟨⟨a,cap,rfl,hc,hn,h1⟩,_⟩:=hu;cases a with
 | none =>
  have hc0:=hn rfl;subst hc0;have hm:m=[]:=List.eq_nil_of_length_eq_zero (by omega);subst hm;refine⟨x,w,?_,by simpa using hown,⟨rfl,rfl,rfl,Nat.le_refl _,fun _ _ _=>rfl⟩⟩;exact run_append_owned_none (P:=P) (w:=w) base t ty e i 8 ht hi x l.length _ hown
 | some ad =>
  have hcells:∀ j u,(vtL m)[j]?=some u→w.cell? (ad.add j)=some u:=by
   intro j u hj;rcases h1 with rfl|⟨b,off,hab,_,hcell⟩
   ·simp[vtL]at hj
   ·obtain rfl:ad=⟨b,off,none⟩:=by simpa using hab
    obtain⟨v,h2,h3⟩:=Yj m j u hj;have hadd:(⟨b,off,none⟩:Addr).add j=⟨b,off+j,none⟩:=by unfold Addr.add;split<;>simp_all
    rw[hadd];have h4:=hcell (j/8) v h2 (j%8) u h3
    rwa [show off+8*(j/8)+j%8=off+j by omega]at h4
  obtain⟨v',w',hr,ho,hg,_⟩:=run_append_own (P:=P) w base t ty e i z 8 64 ht hi hz hsz hby hz8 (by decide) x l.length _ hown ad m.length cap (vtL m) (Cw m) hcells (SS m)
   (by unfold maxLen;omega) (by omega) hbase
  exact⟨v',w',hr,by rw[RM,List.length_append];exact ho,hg⟩
theorem Bf{P:Program}(w:World){ops:Array Oper}{rest:List Oper}{o:Oper}{a:Act}{Q:Exit→Act→World→Prop}(hgd:o.guard=none)(s x:Operand)(t:TypeId)
  (ho:o.op=.call { callee:=.builtin .append,args:=#[s,x],argTypes:=#[t,t] })
  (base e:Nat)(z:Value)(ht:P.underlying t=some (.slice e))(hinfo:(P.info? e).map (fun i=>(i.zero,i.size,i.bytes))=some (some z,8,64))(hz8:z.cells.size=8)
  (v u:Value)(hs:a.eval s=v)(hx:a.eval x=u)(l m:List Vt)(hown:w.ownsRow base e 8 v l.length (vtL l))(hu:Sv w u m)
  (hlen:l.length+m.length≤2199023255552)(hbase:base≤w.heap.size)
  (h:∀ v' w',w'.ownsRow base e 8 v' (l++m).length (vtL (l++m))→w.grownBy w' v.ownBlock→wpList P ops Q rest (a.put o.dst v') w'):wpList P ops Q (o::rest) a w:=by
 refine wpList_plain hgd fun K hK=>?_;obtain⟨v',w',hrun,r1,r2⟩:=LW (P:=P) w base t o.type e z ht hinfo hz8 v l hown u m hu hlen hbase;unfold Oper.wp execOp;simp only[ho,resolve,invoke,builtin,Sem.run_bind,Sem.run_pure,Result.andThen_ok,List.map_toArray,List.map_cons,List.map_nil,hs,hx,hrun];exact hK _ _ (h v' w' r1 r2)
theorem Sv.one(w:World)(v:Vt)(e:TypeId){g:Nat}(hg:g=w.heap.size):Sv (w.alloc (.cells (vtA v) e)) (.slice (some ⟨g,0,none⟩) 1 1) [v]:=by
 subst hg;refine⟨⟨_,1,rfl,Nat.le_refl _,by simp,.inr ⟨w.heap.size,0,rfl,by simp,fun i u hi j x hj=>?_⟩⟩,by simp⟩;cases i with
 | zero =>
  simp at hi;subst hi;rw[cell_of_row _ _ (0+8*0+j) _ _ _ (heap_alloc_new w (.cells (vtA v) e))];simpa[vtA]using hj
 | succ i=>simp at hi
def zVt:Value:=.agg zV8
theorem Eg:(prog.info? 163).map (fun i=>(i.zero,i.size,i.bytes))=some (some zVt,8,64):=by kernel_rfl
theorem ID(v:Vt):(prog.info? 163).map (·.size)=some (vtC v).length:=by show _=some 8;kernel_rfl
theorem Qr:prog.elem 91=163:=by kernel_rfl
theorem R6(w:World):(Go.sizeOf 163).run prog w=.ok 8 w:=by
 obtain⟨i,hi,_,hsz,_⟩:=info_parts Eg;simp[sizeOf,typeInfo,hi,hsz]
theorem Dy(b o n c:Nat)(i:Nat)(hi:i<n)(w:World):(Instr.indexAt 91 (.slice (some ⟨b,o,none⟩) n c) (.int .i64 (i:Int))).run prog w=.ok (.pointer (some ⟨b,o+8*i,none⟩)) w:=by
 rw[run_indexAt_slice (P:=prog) w 91 _ n c .i64 _ underlying91,if_pos ⟨by omega,by omega⟩,Qr,R6];simp[Result.andThen,Addr.add_mid,Nat.mul_comm]
theorem As{P:Program}{ops:Array Oper}{Q:Exit→Act→World→Prop}{l:List Oper}{a:Act}{w:World}(h:wpList P ops Q l a w):wpList P ops Q l a w:=h
theorem DI(l:List Vt)(k:Nat)(v:Vt)(h:l[k]?=some v):l.take (k+1)=l.take k++[v]:=by
 obtain⟨hk,e⟩:=List.getElem?_eq_some_iff.1 h;rw[List.take_succ_eq_append_getElem hk,e]
def acA(p:Bal)(x:Value):Array Value:=#[.int .i64 p.r,.int .i64 p.n,x]
theorem JZ:(prog.info? 90).map (·.size)=some 2:=by kernel_rfl
theorem GL{B:Nat}{w w':World}(h:Below B w w'){b o:Nat}{cs:List Value}(hb:b<B)(hr:w.rangeAt b o cs):w'.rangeAt b o cs :=
 fun j v hv=>(h.cell (p:=⟨b,o+j,none⟩) hb).trans (hr j v hv)
theorem Ai{B:Nat}{a w:World}(h:Below B a w){g:Nat}(hg:B≤g)(cs:Array Value):Below B a (w.setRow g cs) :=
 h.trans ⟨rfl,rfl,rfl,by simp,fun k hk=>setRow_other w g k cs (by omega)⟩
theorem R2{w:World}{b o:Nat}{x y:Value}(h0:w.cell? ⟨b,o,none⟩=some x)(h1:w.cell? ⟨b,o+1,none⟩=some y):w.rangeAt b o [x,y]:=by
 intro j v hj
 match j,hj with
 | 0,hj=>simp at hj;subst hj;exact h0
 | 1,hj=>simp at hj;subst hj;exact h1
 | k+2,hj=>simp at hj
theorem bf{ops:Array Oper}{S:World→Prop}{op:Oper}{a:Act}(hw:Region.wanted op (yielded ops a.tmps)=true)(x:Operand)(ho:op.op=.load 163 x)
  (g:Nat)(hx:a.eval x=.pointer (some ⟨g,0,none⟩))(v:Vt)(hS:∀ w,S w→w.heap[g]?=some (.cells (vtA v) 163)):YieldsIf prog ops S op (.agg (vtA v)) a :=
 .inl ⟨hw,fun w hw'=>by
  unfold execOp;simp only[ho,hx,Instr.loadAt,Instr.sureAddr,Sem.run_bind,Sem.run_pure,Result.andThen_ok,run_loadVar_row w g 163 163 _ (0,0) _ (hS w hw') underlying163 rfl (show _=some (vtA v).size from ID v)]⟩
theorem ZJ{P:Program}{id:Nat}{ops:Array Oper}{K:Act→World→Prop}{Q:Exit→Act→World→Prop}{a:Act}{w:World}(R:World→Prop){A:Act}
  (hreg:∀ K':Act→World→Prop,Hid (∀ W2,R W2→K' A W2)→(Code.region id ops true).wp P (Exit.then K' Q) a w)(hrest:∀ W2,R W2→K A W2):(Code.region id ops true).wp P (Exit.then K Q) a w:=hreg K hrest
theorem be{ops:Array Oper}{S:World→Prop}{op:Oper}{a:Act}(hw:Region.wanted op (yielded ops a.tmps)=true)(x:Operand)(ho:op.op=.load 163 x)
  (b o:Nat)(hx:a.eval x=.pointer (some ⟨b,o,none⟩))(v:Vt)(hS:∀ w,S w→w.rangeAt b o (vtC v)):YieldsIf prog ops S op (.agg (vtA v)) a :=
 yieldsIf_load_mid hw 163 x ho b o hx (vtC v) _ hS underlying163 rfl (ID v)
theorem eq:(prog.info? 91).map (·.size)=some 1:=by kernel_rfl
theorem Jh{P:Program}{fn:Func}{p u v:Tmp}{ty:TypeId}(h:fn.results=#[.cell p ty,.tmp u,.tmp v])(tmps:Array Value)(w:World)(g:Nat)(t:TypeId)(cs:Array Value)(fr:Nat × Nat)(d:TypeDesc)
  (hp:tmps.getD p undef=.pointer (some ⟨g,0,none⟩))(hg:w.heap[g]?=some (.cells cs t fr))
  (hu:P.underlying ty=some d)(hd:(match d with|.struct _|.array _ _=>true|_=>false)=true)(hi:(P.info? ty).map (·.size)=some cs.size) :
  (results fn tmps).run P w=.ok (.tuple #[.agg cs,tmps.getD u undef,tmps.getD v undef]) w:=by
 have hp':tmps[p]?.getD undef=.pointer (some ⟨g,0,none⟩):=by simpa using hp
 simp[results,h,hp',asAddr,run_loadVar_row w g t ty cs fr d hg hu hd hi]
theorem Pg(w:World)(o1 o2 o3:Obj):(((w.alloc o1).alloc o2).alloc o3).heap[w.heap.size]?=some o1∧(((w.alloc o1).alloc o2).alloc o3).heap[w.heap.size+1]?=some o2∧(((w.alloc o1).alloc o2).alloc o3).heap[w.heap.size+2]?=some o3∧Bw w (((w.alloc o1).alloc o2).alloc o3):=by
 refine⟨?_,?_,?_,(((Below.refl _ _).alloc (Nat.le_refl _) _).alloc (by simp) _).alloc (by simp;omega) _⟩
 ·rw[heap_alloc_old _ _ (by simp;omega)];exact heap_alloc2_old w o1 o2
 ·rw[heap_alloc_old _ _ (by simp)];exact heap_alloc2_new w o1 o2
 ·have:=heap_alloc_new ((w.alloc o1).alloc o2) o3;simpa using this
theorem EN{w w':World}{base e k8:Nat}{v:Value}{n:Nat}{xs:List Value}(h:w.ownsRow base e k8 v n xs)(hk:∀ k,v.ownBlock=some k→w'.heap[k]?=w.heap[k]?):w'.ownsRow base e k8 v n xs:=by
 refine⟨h.1,?_⟩;rcases h.2 with h2|⟨g,cap,cur,hv,hb,hg,hr⟩
 ·exact .inl h2
 ·exact .inr ⟨g,cap,cur,hv,hb,(hk g (by rw[hv];rfl)).trans hg,hr⟩
theorem TX{P:Program}{id:Nat}{ops:Array Oper}{K:Act→World→Prop}{Q:Exit→Act→World→Prop}{a:Act}{w:World}(R:Option Addr→Nat→Value→World→Prop){A:Option Addr→Nat→Value→Act}
  (hreg:∀ K':Act→World→Prop,Hid (∀ g c y W2,R g c y W2→K' (A g c y) W2)→(Code.region id ops true).wp P (Exit.then K' Q) a w)(hrest:∀ g c y W2,R g c y W2→K (A g c y) W2):(Code.region id ops true).wp P (Exit.then K Q) a w:=hreg K hrest
theorem eD(v:Vt):(prog.info? 163).map (·.size)=some (vtA v).size:=by show _=some 8;kernel_rfl
theorem F6{P:Program}{fn:Func}{p u:Tmp}{ty:TypeId}(h:fn.results=#[.cell p ty,.tmp u])(tmps:Array Value)(w:World)(g:Nat)(t:TypeId)(cs:Array Value)(fr:Nat × Nat)(d:TypeDesc)
  (hp:tmps.getD p undef=.pointer (some ⟨g,0,none⟩))(hg:w.heap[g]?=some (.cells cs t fr))
  (hu:P.underlying ty=some d)(hd:(match d with|.struct _|.array _ _=>true|_=>false)=true)(hi:(P.info? ty).map (·.size)=some cs.size) :
  (results fn tmps).run P w=.ok (.tuple #[.agg cs,tmps.getD u undef]) w:=by
 have hp':tmps[p]?.getD undef=.pointer (some ⟨g,0,none⟩):=by simpa using hp
 simp[results,h,hp',asAddr,run_loadVar_row w g t ty cs fr d hg hu hd hi]
def cmC(c:Cmd):Array Value:=cmA c.k c.c c.s c.n c.v
theorem BK(p:Bal)(x:Value):(prog.info? 93).map (·.size)=some (acA p x).size:=by show _=some 3;kernel_rfl
theorem YL(a b a' b':Int):∀ w,(binOp .eql 90 (.agg #[.int .i64 a,.int .i64 b]) (.agg #[.int .i64 a',.int .i64 b'])).run prog w=.ok (.bool (decide (a=a'∧b=b'))) w:=by
 intro w;rw[run_eql_struct,run_equalIn_agg w 9999 _ _ _ (by kernel_rfl) (by kernel_rfl)];unfold Program.fieldsOf;rw[underlying90];have h3:=underlying3;simp[Op.eqFields,go_sem,h3]
 repeat' split
 all_goals simp_all
theorem VJ(a b c d e f g h a' b' c' d' e' f' g' h':Int):∀ w,(binOp .eql 163 (.agg #[.int .i64 a,.int .i64 b,.int .i64 c,.int .i64 d,.int .i64 e,.int .i64 f,.int .i64 g,.int .i64 h]) (.agg #[.int .i64 a',.int .i64 b',.int .i64 c',.int .i64 d',.int .i64 e',.int .i64 f',.int .i64 g',.int .i64 h'])).run prog w=.ok (.bool (decide (a=a'∧b=b'∧c=c'∧d=d'∧e=e'∧f=f'∧g=g'∧h=h'))) w:=by
 intro w;rw[run_eql_struct,run_equalIn_agg w 9999 _ _ _ (by kernel_rfl) (by kernel_rfl)];unfold Program.fieldsOf;rw[underlying163];have h3:=underlying3;have h4:=underlying90;have h5:=underlying37;simp[Op.eqFields,go_sem,h3,h4,h5]
 repeat' split
 all_goals simp_all
end
section
def Kz(l:List Vt)(v:Vt):Nat→List Vt
 | 0=>[]
 | k+1=>Kz l v k++(if(k:Int)=v.slot then[v]else Am l k)
theorem Pt{a b:List Vt}(ha:BA a)(hb:BA b)(h:∀ x∈a,∀ y∈b,x.slot<y.slot):BA (a++b):=by
 induction a with
 | nil=>exact hb
 | cons x xs ih =>
  refine⟨fun u hu=>?_,ih ha.2 (fun y hy=>h y (List.mem_cons_of_mem _ hy))⟩;rcases List.mem_append.1 hu with hu|hu
  ·exact ha.1 u hu
  ·exact h x List.mem_cons_self u hu
theorem Jm{l:List Vt}(h:BA l)(q:Vt→Bool):BA (l.filter q):=by
 induction l with
 | nil=>trivial
 | cons x xs ih =>
  rw[List.filter_cons];split
  ·exact⟨fun u hu=>h.1 u (List.mem_filter.1 hu).1,ih h.2⟩
  ·exact ih h.2
theorem Xu{a b:List Vt}(ha:BA a)(hb:BA b)(h:∀ u,u∈a↔u∈b):a=b:=by
 induction a generalizing b with
 | nil =>
  cases b with
  | nil=>rfl
  | cons y ys=>exact absurd ((h y).2 List.mem_cons_self) (List.not_mem_nil)
 | cons x xs ih =>
  cases b with
  | nil=>exact absurd ((h x).1 List.mem_cons_self) (List.not_mem_nil)
  | cons y ys =>
   have hxy:x=y:=by
    rcases List.mem_cons.1 ((h x).1 List.mem_cons_self)with e|e
    ·exact e
    ·rcases List.mem_cons.1 ((h y).2 List.mem_cons_self)with e'|e'
     ·exact e'.symm
     ·have:=ha.1 y e';have:=hb.1 x e;omega
   subst hxy;rw[ih ha.2 hb.2 (fun u=>?_)];constructor
   ·intro hu;rcases List.mem_cons.1 ((h u).1 (List.mem_cons_of_mem _ hu))with rfl|e
    ·have:=ha.1 u hu;omega
    ·exact e
   ·intro hu;rcases List.mem_cons.1 ((h u).2 (List.mem_cons_of_mem _ hu))with rfl|e
    ·have:=hb.1 u hu;omega
    ·exact e
theorem OE{l:List Vt}{v:Vt}(k:Nat)(u:Vt):u∈Kz l v k↔(0≤u.slot∧u.slot<k)∧(u=v∨(u∈l∧u.slot≠v.slot)):=by
 induction k with
 | zero=>simp[Kz];omega
 | succ k ih =>
  rw[Kz,List.mem_append,ih];by_cases hk:(k:Int)=v.slot
  ·rw[if_pos hk,List.mem_singleton];constructor
   ·rintro(⟨h1,h2⟩|rfl)
    ·exact⟨by omega,h2⟩
    ·exact⟨by omega,.inl rfl⟩
   ·rintro⟨h1,rfl|⟨h2,h3⟩⟩
    ·exact .inr rfl
    ·exact .inl ⟨by omega,.inr ⟨h2,h3⟩⟩
  ·rw[if_neg hk,Cu];constructor
   ·rintro(⟨h1,h2⟩|⟨h1,h2⟩)
    ·exact⟨by omega,h2⟩
    ·exact⟨by omega,.inr ⟨h1,by omega⟩⟩
   ·rintro⟨h1,rfl|⟨h2,h3⟩⟩
    ·exact .inl ⟨by omega,.inl rfl⟩
    ·by_cases h4:u.slot=k
     ·exact .inr ⟨h2,h4⟩
     ·exact .inl ⟨by omega,.inr ⟨h2,h3⟩⟩
theorem I4{l:List Vt}(h:BA l)(s:Int):(Am l s).length≤1:=by
 match e:Am l s with
 | []=>simp
 | [_]=>simp
 | x::y::r =>
  have hr:BA (Am l s):=Jm h _;have hx:=(Cu.1 (show x∈Am l s by rw[e];simp)).2;have hy:=(Cu.1 (show y∈Am l s by rw[e];simp)).2;rw[e]at hr
  have:=hr.1 y List.mem_cons_self;omega
theorem VZ{l:List Vt}(v:Vt)(h:BA l)(k:Nat):(Kz l v k).length≤k:=by
 induction k with
 | zero=>simp[Kz]
 | succ k ih =>
  rw[Kz,List.length_append];have:=I4 h k;split
  ·simp;omega
  ·omega
theorem T3{l:List Vt}(v:Vt)(h:BA l)(k:Nat):BA (Kz l v k):=by
 induction k with
 | zero=>trivial
 | succ k ih =>
  rw[Kz];refine Pt ih ?_ ?_
  ·split
   ·exact⟨fun u hu=>(List.not_mem_nil hu).elim,trivial⟩
   ·exact Jm h _
  ·intro x hx y hy;have h1:=((OE k x).1 hx).1;split at hy
   ·obtain rfl:y=v:=by simpa using hy
    omega
   ·have:=(Cu.1 hy).2;omega
theorem YX{l:List Vt}{v:Vt}(k:Nat)(h:BA l)(hl:∀ u∈l,0≤u.slot∧u.slot<k)(hv:0≤v.slot∧v.slot<k):Kz l v k=Be l v:=by
 refine Xu (T3 v h k) (Iz v h) fun u=>?_;rw[OE,D7 h];constructor
 ·exact fun hh=>hh.2
 ·rintro(rfl|⟨h1,h2⟩)
  ·exact⟨hv,.inl rfl⟩
  ·exact⟨hl u h1,.inr ⟨h1,h2⟩⟩
theorem Jf(l:List Vt)(u:Vt)(s:Int):Am (l++[u]) s=Am l s++(if u.slot=s then[u]else[]):=by
 unfold Am;rw[List.filter_append];by_cases h:u.slot=s<;>simp[h]
theorem UC(ls:List (List Vt))(j:Nat)(l:List Vt)(h:ls[j]?=some l):(ls.take (j+1)).flatten=(ls.take j).flatten++l:=by
 obtain⟨hj,e⟩:=List.getElem?_eq_some_iff.1 h;rw[List.take_succ_eq_append_getElem hj,e];simp
theorem Da(a b:List Vt)(s:Int):Am (a++b) s=Am a s++Am b s:=by unfold Am;rw[List.filter_append]
end
section
open Go.RowKit
structure Sac(w:World)(x:Value)(ac:List Acc):Prop where
 ex:∃ a cap,x=.slice a ac.length cap∧(ac=[]∨∃ b off,a=some ⟨b,off,none⟩∧b<w.heap.size∧∀ (i:Nat) (A:Acc),ac[i]?=some A→∃ y,w.rangeAt b (off+3*i) [.int .i64 A.p.r,.int .i64 A.p.n,y]∧Sv w y A.vs)
 len:ac.length≤3518437208780
theorem Sac.below{w w':World}{x:Value}{ac:List Acc}(h:Sac w x ac)(hb:Bw w w'):Sac w' x ac:=by
 obtain⟨⟨a,cap,rfl,h1⟩,h2⟩:=h;refine⟨⟨a,cap,rfl,?_⟩,h2⟩;rcases h1 with h1|⟨b,off,ha,hbs,hc⟩
 ·exact .inl h1
 ·refine .inr ⟨b,off,ha,Nat.lt_of_lt_of_le hbs hb.size,fun i A hi=>?_⟩;obtain⟨y,h3,h4⟩:=hc i A hi;exact⟨y,GL hb hbs h3,h4.below hb⟩
theorem Sac.shape{w:World}{x:Value}{ac:List Acc}(h:Sac w x ac):∃ a cap,x=.slice a ac.length cap:=by
 obtain⟨⟨a,cap,e,_⟩,_⟩:=h;exact⟨a,cap,e⟩
theorem Sac.spot{w:World}{a:Option Addr}{n cap:Nat}{ac:List Acc}(h:Sac w (.slice a n cap) ac)(i:Nat)(A:Acc)(hi:ac[i]?=some A):∃ b off y,a=some ⟨b,off,none⟩∧b<w.heap.size∧w.rangeAt b (off+3*i) [.int .i64 A.p.r,.int .i64 A.p.n,y]∧Sv w y A.vs:=by
 obtain⟨⟨a',cap',e,h1⟩,_⟩:=h;simp only[Value.slice.injEq]at e;obtain⟨rfl,rfl,rfl⟩:=e;rcases h1 with rfl|⟨b,off,rfl,hb,hc⟩
 ·simp at hi
 ·obtain⟨y,h3,h4⟩:=hc i A hi;exact⟨b,off,y,rfl,hb,h3,h4⟩
theorem cY:prog.elem 223=93:=by kernel_rfl
theorem ei(w:World):(Go.sizeOf 93).run prog w=.ok 3 w:=by
 have h:(prog.info? 93).map (·.size)=some 3:=by kernel_rfl
 cases hi:prog.info? 93 with
 | none=>rw[hi]at h;cases h
 | some i =>
  rw[hi]at h
  simp at h;simp[sizeOf,typeInfo,hi,h]
theorem MJ(b o n c:Nat)(i:Nat)(hi:i<n)(w:World):(Instr.indexAt 223 (.slice (some ⟨b,o,none⟩) n c) (.int .i64 (i:Int))).run prog w=.ok (.pointer (some ⟨b,o+3*i,none⟩)) w:=by
 rw[run_indexAt_slice (P:=prog) w 223 _ n c .i64 _ underlying223,if_pos ⟨by omega,by omega⟩,cY,ei];simp[Result.andThen,Addr.add_mid,Nat.mul_comm]
def Fd(ac:List Acc)(s:Int):List Vt:=Am (ac.map (·.vs)).flatten s
def CR(ac:List Acc)(s:Int):Int:=if ¬ ((0≤s∧s≤39)∧(1≤(ac.length:Int)∧(ac.length:Int)≤5))then 2 else if ¬ ∀ a∈ac,Ao a then 5 else if(Hf (Fd ac s) ac.length).isSome then 0 else 9
def Ck(ac:List Acc)(s:Int):Cmd:=if CR ac s=0 then((Hf (Fd ac s) ac.length).map (·.w)).getD ⟨0,0,0,0,0⟩else⟨0,0,0,0,0⟩
theorem Iu{ac:List Acc}{s:Int}(h:¬ ((0≤s∧s≤39)∧(1≤(ac.length:Int)∧(ac.length:Int)≤5))):Ck ac s=⟨0,0,0,0,0⟩∧CR ac s=2:=by
 have e:CR ac s=2:=if_pos h;exact⟨if_neg (by rw[e];decide),e⟩
theorem Tk{ac:List Acc}{s:Int}(h:(0≤s∧s≤39)∧(1≤(ac.length:Int)∧(ac.length:Int)≤5))(hb:¬ ∀ a∈ac,Ao a):Ck ac s=⟨0,0,0,0,0⟩∧CR ac s=5:=by
 have e:CR ac s=5:=by unfold CR;rw[if_neg (fun g=>g h),if_pos hb]
 exact⟨if_neg (by rw[e];decide),e⟩
theorem Vr{ac:List Acc}{s:Int}(h:(0≤s∧s≤39)∧(1≤(ac.length:Int)∧(ac.length:Int)≤5))(hb:∀ a∈ac,Ao a)(ho:Hf (Fd ac s) ac.length=none):Ck ac s=⟨0,0,0,0,0⟩∧CR ac s=9:=by
 have e:CR ac s=9:=by unfold CR;rw[if_neg (fun g=>g h),if_neg (fun g=>g hb),ho];rfl
 exact⟨if_neg (by rw[e];decide),e⟩
theorem Vs{ac:List Acc}{s:Int}(h:(0≤s∧s≤39)∧(1≤(ac.length:Int)∧(ac.length:Int)≤5))(hb:∀ a∈ac,Ao a){x:Vt}(ho:Hf (Fd ac s) ac.length=some x):Ck ac s=x.w∧CR ac s=0:=by
 have e:CR ac s=0:=by unfold CR;rw[if_neg (fun g=>g h),if_neg (fun g=>g hb),ho];rfl
 exact⟨by unfold Ck;rw[if_pos e,ho];rfl,e⟩
theorem cN{bs:List Acc}(h:∀ a∈bs,Ao a)(s:Int):(Am (bs.map (·.vs)).flatten s).length≤bs.length:=by
 induction bs with
 | nil=>simp[Am]
 | cons a bs ih =>
  have h1:=I4 (h a List.mem_cons_self).2.2 s;have h2:=ih (fun b hb=>h b (List.mem_cons_of_mem _ hb));simp only[List.map_cons,List.flatten_cons,List.length_cons];rw[Da,List.length_append];omega
theorem UB{ac:List Acc}{j:Nat}{a:Acc}(h:ac[j]?=some a)(h1:∀ a∈ac.take j,Ao a)(h2:Ao a):∀ a∈ac.take (j+1),Ao a:=by
 obtain⟨hj,e⟩:=List.getElem?_eq_some_iff.1 h;rw[List.take_succ_eq_append_getElem hj,e];intro b hb;rcases List.mem_append.1 hb with g|g
 ·exact h1 b g
 ·obtain rfl:b=a:=by simpa using g
  exact h2
theorem RF(ac:List Acc)(j:Nat)(a:Acc)(h:ac[j]?=some a):((ac.take (j+1)).map (·.vs)).flatten=((ac.take j).map (·.vs)).flatten++a.vs:=by
 obtain⟨hj,e⟩:=List.getElem?_eq_some_iff.1 h;rw[List.take_succ_eq_append_getElem hj,e];simp
end
section
end
section
open Go.RowKit
def baA(b:Bal):Array Value:=#[.int .i64 b.r,.int .i64 b.n]
theorem Dv{w:World}{g:Nat}{b:Bal}{ty:TypeId}{fr:Nat × Nat}(h:w.heap[g]?=some (.cells (baA b) ty fr)) :
  w.cell? ⟨g,0,none⟩=some (.int .i64 b.r)∧w.cell? ⟨g,1,none⟩=some (.int .i64 b.n) :=
 ⟨cell_of_row _ _ 0 _ _ _ h,cell_of_row _ _ 1 _ _ _ h⟩
theorem IL{w:World}{g:Nat}{v:Vt}{ty:TypeId}{fr:Nat × Nat}(h:w.heap[g]?=some (.cells (vtA v) ty fr)) :
  w.cell? ⟨g,0,none⟩=some (.int .i64 v.slot)∧w.cell? ⟨g,1,none⟩=some (.int .i64 v.b.r)∧w.cell? ⟨g,2,none⟩=some (.int .i64 v.b.n)∧w.cell? ⟨g,3,none⟩=some (.int .i64 v.w.k)∧w.cell? ⟨g,4,none⟩=some (.int .i64 v.w.c)∧w.cell? ⟨g,5,none⟩=some (.int .i64 v.w.s)∧w.cell? ⟨g,6,none⟩=some (.int .i64 v.w.n)∧w.cell? ⟨g,7,none⟩=some (.int .i64 v.w.v) :=
 ⟨cell_of_row _ _ 0 _ _ _ h,cell_of_row _ _ 1 _ _ _ h,cell_of_row _ _ 2 _ _ _ h,cell_of_row _ _ 3 _ _ _ h,cell_of_row _ _ 4 _ _ _ h,cell_of_row _ _ 5 _ _ _ h,cell_of_row _ _ 6 _ _ _ h,cell_of_row _ _ 7 _ _ _ h⟩
def OkV(p:Bal)(l:List Vt):Prop:=(∀ v∈l,Aj v∧¬ p.lt v.b)∧BA l
theorem Un(l:List Vt)(v:Vt):BA (l++[v])↔BA l∧∀ u∈l,u.slot<v.slot:=by
 induction l with
 | nil=>exact⟨fun _=>⟨trivial,fun u hu=>(List.not_mem_nil hu).elim⟩,fun _=>⟨fun u hu=>(List.not_mem_nil hu).elim,trivial⟩⟩
 | cons x xs ih =>
  show((∀ u∈xs++[v],x.slot<u.slot)∧BA (xs++[v]))↔((∀ u∈xs,x.slot<u.slot)∧BA xs)∧∀ u∈x::xs,u.slot<v.slot;rw[ih];constructor
  ·rintro⟨h1,h2,h3⟩;refine⟨⟨fun u hu=>h1 u (List.mem_append_left _ hu),h2⟩,fun u hu=>?_⟩;rcases List.mem_cons.1 hu with rfl|hu
   ·exact h1 v (List.mem_append_right _ List.mem_cons_self)
   ·exact h3 u hu
  ·rintro⟨⟨h1,h2⟩,h3⟩;refine⟨fun u hu=>?_,h2,fun u hu=>h3 u (List.mem_cons_of_mem _ hu)⟩;rcases List.mem_append.1 hu with hu|hu
   ·exact h1 u hu
   ·obtain rfl:u=v:=by simpa using hu
    exact h3 x List.mem_cons_self
theorem OkV.snoc{p:Bal}{l:List Vt}(h:OkV p l)(v:Vt):OkV p (l++[v])↔Aj v∧¬ p.lt v.b∧∀ u∈l,u.slot<v.slot:=by
 unfold OkV;rw[Un];constructor
 ·rintro⟨h1,h2,h3⟩;exact⟨(h1 v (by simp)).1,(h1 v (by simp)).2,h3⟩
 ·rintro⟨h1,h2,h3⟩;refine⟨fun u hu=>?_,h.2,h3⟩;rcases List.mem_append.1 hu with hu|hu
  ·exact h.1 u hu
  ·obtain rfl:u=v:=by simpa using hu
   exact⟨h1,h2⟩
theorem OkV.left{p:Bal}{l m:List Vt}(h:OkV p (l++m)):OkV p l:=by
 refine⟨fun v hv=>h.1 v (List.mem_append_left _ hv),?_⟩;have h2:=h.2;clear h;induction l with
 | nil=>trivial
 | cons x xs ih=>exact⟨fun u hu=>h2.1 u (List.mem_append_left _ hu),ih h2.2⟩
def Ff(a:Acc)(b:Bal):Bal:=if BG a b=0 then b else⟨0,0⟩
def Fe(a:Acc)(b:Bal):List Vt:=if BG a b=0 then a.vs else[]
def Cj(a:Acc)(v:Vt):Bal:=if AT a v=0 then v.b else⟨0,0⟩
def Dd(a:Acc)(v:Vt):List Vt:=if AT a v=0 then Be a.vs v else[]
def Gx(ls:List (List Vt))(s:Int):Cmd:=if C1 ls s=0 then((KM ls s).map (·.w)).getD ⟨0,0,0,0,0⟩else⟨0,0,0,0,0⟩
def F7(ls:List (List Vt))(s:Int):Bool:=if C1 ls s=0 then(KM ls s).isSome else false
theorem Xk{ls:List (List Vt)}{s:Int}(h:¬ (0≤s∧s≤39)):Gx ls s=⟨0,0,0,0,0⟩∧F7 ls s=false∧C1 ls s=2:=by
 have e:C1 ls s=2:=if_pos h;exact⟨if_neg (by rw[e];decide),if_neg (by rw[e];decide),e⟩
theorem Rr{ls:List (List Vt)}{s:Int}(h:0≤s∧s≤39)(hb:¬ ∀ l∈ls,∀ v∈l,Aj v):Gx ls s=⟨0,0,0,0,0⟩∧F7 ls s=false∧C1 ls s=5:=by
 have e:C1 ls s=5:=by unfold C1;rw[if_neg (fun g=>g h),if_neg hb]
 exact⟨if_neg (by rw[e];decide),if_neg (by rw[e];decide),e⟩
theorem XV{ls:List (List Vt)}{j:Nat}{l:List Vt}(h:ls[j]?=some l)(h1:∀ l∈ls.take j,∀ v∈l,Aj v)(h2:∀ v∈l,Aj v):∀ l∈ls.take (j+1),∀ v∈l,Aj v:=by
 obtain⟨hj,e⟩:=List.getElem?_eq_some_iff.1 h;rw[List.take_succ_eq_append_getElem hj,e];intro l' hl';rcases List.mem_append.1 hl' with g|g
 ·exact h1 l' g
 ·obtain rfl:l'=l:=by simpa using g
  exact h2
theorem XW{l:List Vt}{k:Nat}{u:Vt}(h:l[k]?=some u)(h1:∀ v∈l.take k,Aj v)(h2:Aj u):∀ v∈l.take (k+1),Aj v:=by
 rw[DI l k u h];intro v hv;rcases List.mem_append.1 hv with g|g
 ·exact h1 v g
 ·obtain rfl:v=u:=by simpa using g
  exact h2
end
end Go.Proofs.YtfhbkoflaekhpabGreatDoor
