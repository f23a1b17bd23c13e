/- Part 7 of the walk. -/
import Derived.Great.BuildSlice
import Derived.Test.YtalbmmghmoggcabGreatDoorZ6
import Derived.Test.YtalbmmghmoggcabGreatDoorZ5
set_option maxRecDepth 100000
set_option maxHeartbeats 4000000
open Go.Proofs.Tryz
set_option linter.unusedVariables false
namespace Go.Proofs.YtalbmmghmoggcabGreatDoor
section
open Go.RowKit
section
variable{P:Program}{fn:Func}{R:Ending->World->Prop}{B:Nat}{T:List Tg}{g:Gh}{w:World}
section
variable{L:List Sh}{S:Sem Next}{i':Nat}{s:Xs}
theorem Kn.at(h:Kn B g w L)(k:Nat){x:Sh}(hx:L[k]?=some x):w.heap[x.g]?=some x.o:=(h.row x (fQ hx)).1
theorem Kn.ats(h:Kn B g w L)(k b:Nat)(cs:Array Value)(e:TypeId)(t:Tg)(v:Bool)(hx:L[k]?=some ⟨b,.cells cs e,t,v⟩):w.heap[b]?=some (.cells cs e):=h.at k hx
theorem Kn.isN(h:Kn B g w L)(k b:Nat)(o:Obj)(r i:Nat)(hx:L[k]?=some ⟨b,o,.n r i,false⟩):w.heap[b]?=some o/\g.t b=.n r i/\g.k b=0 :=
 have h1:=h.row _ (fQ hx)
 ⟨h1.1,h1.2.1,h1.2.2.2 (by simp)⟩
theorem Kn.isZ(h:Kn B g w L)(k b:Nat)(o:Obj)(v:Bool)(hx:L[k]?=some ⟨b,o,.z,v⟩):w.heap[b]?=some o/\g.t b=.z :=
 have h1:=h.row _ (fQ hx)
 ⟨h1.1,h1.2.1⟩
theorem BL(h:Kn B g w L)(k b:Nat)(news:List Value)(e:TypeId)(t:Tg)(v:Bool)(hx:L[k]?=some ⟨b,.cells news.toArray e,t,v⟩):∀ j u,news[j]?=some u->w.cell? ((⟨b,0,none⟩:Addr).add j)=some u:=by
 intro j u hj;have h1:=h.at k hx;have:(⟨b,0,none⟩:Addr).add j=⟨b,j,none⟩:=by unfold Addr.add;split<;>simp_all
 rw[this,cell_of_row _ _ _ _ _ _ h1];simpa using hj
def CK(s:Xs)(i':Nat):Option (Sem Next):=(opN s i').map λx=>execOp s.f.ev x.2.2
theorem CP(h:CK s i'=some S){ops:Array Oper}{i:Nat}{o:Oper}(ho:opN s i'=some (ops,i,o)):execOp s.f.ev o=S:=by
 unfold CK at h;rw[ho]at h
 simpa using h
theorem BC(h:CK s i'=some S):(opN s i').isSome=true:=by
 unfold CK at h;cases hx:opN s i' with
 | none=>rw[hx]at h;cases h
 | some x=>rfl
theorem IX(i':Nat){τ:Tg}{kp:Bool}{x:S3}{xs:List Value}(t ty e:TypeId)(sz bytes:Nat)(z:Value)(a:Addr)(m c:Nat)(news:List Value)(hx:OwnS g w τ kp e sz x xs)(hsem:CK s i'=some (Builtin.append_ #[t,t] ty #[x.v,.slice (some a) m c]>>=λv=>pure (.value v)))(hob:(nxt s i' undef s.L).o.map Ob.l'=(nxt s i' undef s.L).o.map Ob.r')(hT:s.L.all (λy=>[τ].all λt=>y.t.ne t)=true)(ht:P.underlying t=some (.slice e))(hinfo:(P.info? e).map (λi=>(i.zero,i.size,i.bytes))=some (some z,sz,bytes))(hzs:Nat.beq z.cells.size sz=true)(hsz:0<sz)(hm:0<m)(hl:news.length=m*sz)(h1:∀ u∈news,u.oneCell'=true)(hnews:Kn B g w s.L->∀ j u,news[j]?=some u->w.cell? (a.add j)=some u)(h63:x.n+m<=maxLen)(hbytes:(x.n+m)*bytes<=140737488355328)(hk:∀ x' g' w',OwnS g' w' τ kp e sz x' (xs++news)->x'.n=x.n+m->(∀ B T,τ∈T->Cg B T g w g' w')->Hs g' w'->GG P fn R B T (nxt s i' (S3.v x') s.L).s g' w'):GG P fn R B T s g w:=by
 refine JQ i' s.L hob (BC hsem) λhK ops i o hop=>?_;obtain⟨x',w',g',hr,h2,h3,h4,h5⟩:=eJ (P:=P) (B:=w.heap.size) (T:=[τ]) t ty e sz bytes z ht hinfo (fH hzs) hsz (O'.2 rfl) hx hK.new a m c news hm hl (hnews hK) h1 h63 hbytes;refine⟨x'.v,w',g',.inl ?_,hK.ch h4 h5 hT,hk x' g' w' h2 h3 (λB T hT=>(h4.ret (B:=B)).mono λt ht=>by rw[O'.1 ht];exact hT) h5⟩;rw[CP hsem hop,Sem.run_bind,hr,Result.andThen_ok];rfl
end
end
end
section
section
structure Bal where
 r:Int
 n:Int
theorem Bal.eq_iff(a b:Bal):(a.r=b.r/\a.n=b.n)↔a=b:=by
 cases a;cases b;simp
instance:DecidableEq Bal:=λa b=>decidable_of_iff _ (Bal.eq_iff a b)
structure Cmd where
 k:Int
 c:Int
 s:Int
 n:Int
 v:Int
theorem Cmd.eq_iff(a b:Cmd):(a.k=b.k/\a.c=b.c/\a.s=b.s/\a.n=b.n/\a.v=b.v)↔a=b:=by
 cases a;cases b;simp
instance:DecidableEq Cmd:=λa b=>decidable_of_iff _ (Cmd.eq_iff a b)
structure Vt where
 slot:Int
 b:Bal
 w:Cmd
theorem Vt.eq_iff(a b:Vt):(a.slot=b.slot/\a.b=b.b/\a.w=b.w)↔a=b:=by
 cases a;cases b;simp
instance:DecidableEq Vt:=λa b=>decidable_of_iff _ (Vt.eq_iff a b)
instance:Inhabited Vt:=⟨⟨0,⟨0,0⟩,⟨0,0,0,0,0⟩⟩⟩
structure Acc where
 p:Bal
 vs:List Vt
def Bal.lt(a b:Bal):Prop:=a.r<b.r\/(a.r=b.r/\a.n<b.n)
instance (a b:Bal):Decidable (a.lt b):=by unfold Bal.lt;exact inferInstance
def Ad(a:Bal):Prop:=(1<=a.r/\a.r<=65536)/\0<=a.n/\a.n<=4
instance (a:Bal):Decidable (Ad a):=by unfold Ad;exact inferInstance
def Cmd.e(c:Cmd):Int:=AU c.k c.c c.s c.n c.v
def Am(v:Vt):Prop:=(0<=v.slot/\v.slot<=39)/\Ad v.b/\v.w.e=0
instance (v:Vt):Decidable (Am v):=by unfold Am;exact inferInstance
def Bm(a:Bal):Prop:=Ad a\/(a.r=0/\a.n=0)
instance (a:Bal):Decidable (Bm a):=by unfold Bm;exact inferInstance
def B2:List Vt->Prop
 | []=>True
 | u::us=>(∀ v∈us,u.slot<v.slot)/\B2 us
def RE:(l:List Vt)->Decidable (B2 l)
 | []=>isTrue trivial
 | u::us=>@instDecidableAnd _ _ inferInstance (RE us)
instance (l:List Vt):Decidable (B2 l):=RE l
def AC(a:Acc):Prop:=Bm a.p/\(∀ v∈a.vs,Am v/\¬ a.p.lt v.b)/\B2 a.vs
instance (a:Acc):Decidable (AC a):=by unfold AC;exact inferInstance
def FF(a:Acc):Int:=if AC a then 0 else 5
def BN(a:Acc)(b:Bal):Int:=if ¬ AC a then 5 else if ¬ Ad b then 2 else if b.lt a.p then 7 else 0
def AX(a:Acc)(v:Vt):Int:=if ¬ AC a then 5 else if ¬ Am v then 2 else if v.b.lt a.p then 7 else 0
def Bk:List Vt->Vt->List Vt
 | [],v=>[v]
 | u::us,v=>if u.slot<v.slot then u::Bk us v else if u.slot=v.slot then v::us else v::u::us
variable{l:List Vt}{v:Vt}
theorem JX{u:Vt}(h:B2 l):u∈Bk l v↔u=v\/(u∈l/\u.slot≠v.slot):=by
 induction l with
 | nil=>simp[Bk]
 | cons x xs ih =>
  obtain⟨hx,hxs⟩:=h;have ih:=ih hxs;rw[Bk];split
  .rename_i h1
   rw[fD,ih];constructor
   .rintro(rfl|rfl|⟨h2,h3⟩)
    .exact .inr ⟨V',by omega⟩
    .exact .inl rfl
    .exact .inr ⟨Q' _ h2,h3⟩
   .rintro(rfl|⟨h2,h3⟩)
    .exact .inr (.inl rfl)
    .rcases fD.1 h2 with rfl|h2
     .exact .inl rfl
     .exact .inr (.inr ⟨h2,h3⟩)
  .split
   .rename_i h1 h2
    rw[fD];constructor
    .rintro(rfl|h3)
     .exact .inl rfl
     .have:=hx u h3;exact .inr ⟨Q' _ h3,by omega⟩
    .rintro(rfl|⟨h3,h4⟩)
     .exact .inl rfl
     .rcases fD.1 h3 with rfl|h3
      .exact absurd h2 h4
      .exact .inr h3
   .rename_i h1 h2
    rw[fD];constructor
    .rintro(rfl|h3)
     .exact .inl rfl
     .rcases fD.1 h3 with rfl|h4
      .exact .inr ⟨h3,h2⟩
      .have:=hx u h4;exact .inr ⟨h3,by omega⟩
    .rintro(rfl|⟨h3,h4⟩)
     .exact .inl rfl
     .exact .inr h3
theorem L9(v:Vt)(h:B2 l):B2 (Bk l v):=by
 induction l with
 | nil=>exact⟨λu hu=>(H' hu).elim,trivial⟩
 | cons x xs ih =>
  obtain⟨hx,hxs⟩:=h;rw[Bk];split
  .rename_i h1
   refine⟨λu hu=>?_,ih hxs⟩;rcases(JX hxs).1 hu with rfl|⟨h2,_⟩
   .exact h1
   .exact hx u h2
  .split
   .rename_i h1 h2
    exact⟨λu hu=>by have:=hx u hu;omega,hxs⟩
   .rename_i h1 h2
    refine⟨λu hu=>?_,hx,hxs⟩;rcases fD.1 hu with rfl|h3
    .omega
    .have:=hx u h3;omega
def Ck:List Vt->Option Vt->Option Vt
 | [],o=>o
 | v::l,none=>Ck l (some v)
 | v::l,some u=>if u.b.lt v.b then Ck l (some v)else Ck l (some u)
def Al(l:List Vt)(s:Int):List Vt:=l.filter λv=>decide (v.slot=s)
theorem CH{s:Int}:v∈Al l s↔v∈l/\v.slot=s:=by simp[Al]
def Co(ls:List (List Vt))(s:Int):Int:=if ¬ (0<=s/\s<=39)then 2 else if ∀ l∈ls,∀ v∈l,Am v then 0 else 5
def Ox(ls:List (List Vt))(s:Int):Option Vt:=Ck (Al ls.flatten s) none
def Cx(l:List Vt)(v:Vt):Nat:=l.countP λu=>decide (u=v)
def G7(l:List Vt)(m:Nat):Option Vt:=l.find? λv=>decide (m<2*Cx l v)
end
end
section
open Go.RowKit
section
def vtC(v:Vt):List Value:=[.int .i64 v.slot,.int .i64 v.b.r,.int .i64 v.b.n,.int .i64 v.w.k,.int .i64 v.w.c,.int .i64 v.w.s,.int .i64 v.w.n,.int .i64 v.w.v]
def vtA(v:Vt):Array Value:=(vtC v).toArray
theorem BP(v:Vt):(vtC v).length=8:=rfl
theorem Zh(v:Vt):∀ u∈vtC v,u.oneCell'=true:=by
 intro u hu;simp only[vtC,fD,H',or_false]at hu;rcases hu with rfl|rfl|rfl|rfl|rfl|rfl|rfl|rfl<;>rfl
def vtL(l:List Vt):List Value:=l.flatMap vtC
theorem KE(v:Vt)(l:List Vt):vtL (v::l)=vtC v++vtL l:=rfl
theorem QW(l m:List Vt):vtL (l++m)=vtL l++vtL m:=by simp[vtL]
theorem Cj(l:List Vt):(vtL l).length=l.length*8:=by
 induction l with
 | nil=>rfl
 | cons v l ih=>rw[KE,N',ih,BP,fR];omega
theorem RT(l:List Vt):∀ u∈vtL l,u.oneCell'=true:=by
 intro u hu;obtain⟨v,_,hv⟩:=ja.1 hu;exact Zh v u hv
theorem Zi(l:List Vt)(i:Nat)(v:Vt)(h:l[i]?=some v)(j:Nat)(u:Value)(hj:(vtC v)[j]?=some u):(vtL l)[8*i+j]?=some u:=by
 induction l generalizing i with
 | nil=>simp at h
 | cons x l ih =>
  have hj8:j<8:=by have:=(P'.1 hj).1;rwa [BP]at this
  rw[KE];cases i with
  | zero =>
   simp at h;subst h;rw[fC (by rw[BP];omega)];simpa using hj
  | succ i =>
   rw[fI (by rw[BP];omega),BP,show 8*(i+1)+j-8=8*i+j by omega];exact ih i (by simpa using h)
theorem Xa(l:List Vt)(m:Nat)(u:Value)(h:(vtL l)[m]?=some u):∃ v,l[m/8]?=some v/\(vtC v)[m%8]?=some u:=by
 induction l generalizing m with
 | nil=>simp[vtL]at h
 | cons x l ih =>
  rw[KE]at h
  rcases gj m 8 with hm|hm
  .rw[fC (by rw[BP];omega)]at h
   exact⟨x,by rw[Nat.div_eq_of_lt hm];rfl,by rwa [i9 hm]⟩
  .rw[fI (by rw[BP];omega),BP]at h
   obtain⟨v,h1,h2⟩:=ih (m-8) h;refine⟨v,?_,?_⟩
   .rw[show m/8=(m-8)/8+1 by omega];simpa using h1
   .rw[show m%8=(m-8)%8 by omega];exact h2
structure Sv(w:World)(x:Value)(l:List Vt):Prop where
 ex:∃ a cap,x=.slice a l.length cap/\l.length<=cap/\(a=none->cap=0)/\(l=[]\/∃ b off,a=some ⟨b,off,none⟩/\b<w.heap.size/\∀ i v,l[i]?=some v->w.rangeAt b (off+8*i) (vtC v))
 len:l.length<=2199023255488
variable{B b base e g id n o:Nat}{K:Act->World->Prop}{P:Program}{Q:Exit->Act->World->Prop}{S:World->Prop}{a:Act}{fn:Func}{l:List Vt}{op:Oper}{ops:Array Oper}{p u:Tmp}{ty:TypeId}{w w':World}{x:Value}
theorem Sv.below(h:Sv w x l)(hb:Bw w w'):Sv w' x l:=by
 obtain⟨⟨a,cap,rfl,hc,hn,h1⟩,h2⟩:=h;refine⟨⟨a,cap,rfl,hc,hn,?_⟩,h2⟩;rcases h1 with h1|⟨b,off,ha,hbs,hcell⟩
 .exact .inl h1
 .exact .inr ⟨b,off,ha,Z' hbs hb.size,λi v hi j u hj=>(hb.cell (p:=⟨b,off+8*i+j,none⟩) hbs).trans (hcell i v hi j u hj)⟩
theorem Sv.nil(w:World):Sv w (.slice none 0 0) []:=⟨⟨none,0,rfl,by simp,by simp,.inl rfl⟩,by simp⟩
theorem Sv.shape(h:Sv w x l):∃ a cap,x=.slice a l.length cap:=by
 obtain⟨⟨a,cap,e,_⟩,_⟩:=h;exact⟨a,cap,e⟩
theorem Sv.spot{a:Option Addr}{cap:Nat}(h:Sv w (.slice a n cap) l)(i:Nat)(v:Vt)(hi:l[i]?=some v):∃ b off,a=some ⟨b,off,none⟩/\b<w.heap.size/\w.rangeAt b (off+8*i) (vtC v):=by
 obtain⟨⟨a',cap',e,hc,hn,h1⟩,_⟩:=h;simp only[Value.slice.injEq]at e;obtain⟨rfl,rfl,rfl⟩:=e;rcases h1 with rfl|⟨b,off,rfl,hb,hcell⟩
 .simp at hi
 .exact⟨b,off,rfl,hb,hcell i v hi⟩
theorem Sv.ofOwns(h:w.ownsRow base e 8 x l.length (vtL l))(hl:l.length<=2199023255488):Sv w x l:=by
 refine⟨?_,hl⟩;rcases h.2 with⟨rfl,h0⟩|⟨g,cap,cur,rfl,_,hg,hn,_,hcs,ht⟩
 .exact⟨none,0,by rw[h0],by omega,λ_=>rfl,.inl (fw h0)⟩
 .refine⟨_,cap,rfl,hn,by simp,.inr ⟨g,0,rfl,(G'.1 hg).1,λi v hi j u hj=>?_⟩⟩;have hc:=h.cells (g:=g) rfl (8*i+j) u (Zi l i v hi j u hj);have hadd:(⟨g,0,none⟩:Addr).add (8*i+j)=⟨g,8*i+j,none⟩:=by unfold Addr.add;split<;>simp_all
  rw[hadd]at hc
  rw[fV];exact hc
theorem Li(w:World)(base t ty e:Nat)(z:Value)(ht:P.underlying t=some (.slice e))(hinfo:(P.info? e).map (λi=>(i.zero,i.size,i.bytes))=some (some z,8,64))(hz8:z.cells.size=8)(x:Value)(l:List Vt)(hown:w.ownsRow base e 8 x l.length (vtL l))(u:Value)(m:List Vt)(hu:Sv w u m)(hlen:l.length+m.length<=2199023255552)(hbase:base<=w.heap.size) :
  ∃ v' w',(Builtin.append_ #[t,t] ty #[x,u]).run P w=.ok v' w'/\w'.ownsRow base e 8 v' (l++m).length (vtL (l++m))/\w.grownBy w' x.ownBlock:=by
 obtain⟨i,hi,hz,hsz,hby⟩:=info_parts hinfo;obtain⟨⟨a,cap,rfl,hc,hn,h1⟩,_⟩:=hu;cases a with
 | none =>
  have hc0:=hn rfl;subst hc0;have hm:m=[]:=fw (by omega);subst hm;refine⟨x,w,?_,by simpa using hown,⟨rfl,rfl,rfl,A' _,λ_ _ _=>rfl⟩⟩;exact run_append_owned_none (P:=P) (w:=w) base t ty e i 8 ht hi x l.length _ hown
 | some ad =>
  have hcells:∀ j u,(vtL m)[j]?=some u->w.cell? (ad.add j)=some u:=by
   intro j u hj;rcases h1 with rfl|⟨b,off,hab,_,hcell⟩
   .simp[vtL]at hj
   .obtain rfl:ad=⟨b,off,none⟩:=by simpa using hab
    obtain⟨v,h2,h3⟩:=Xa m j u hj;have hadd:(⟨b,off,none⟩:Addr).add j=⟨b,off+j,none⟩:=by unfold Addr.add;split<;>simp_all
    rw[hadd];have h4:=hcell (j/8) v h2 (j%8) u h3
    rwa [show off+8*(j/8)+j%8=off+j by omega]at h4
  obtain⟨v',w',hr,ho,hg,_⟩:=run_append_own (P:=P) w base t ty e i z 8 64 ht hi hz hsz hby hz8 (by decide) x l.length _ hown ad m.length cap (vtL m) (Cj m) hcells (RT m)
   (by unfold maxLen;omega) (by omega) hbase
  exact⟨v',w',hr,by rw[QW,N'];exact ho,hg⟩
theorem AY(w:World){rest:List Oper}{o:Oper}(hgd:o.guard=none)(s x:Operand)(t:TypeId)(ho:o.op=.call { callee:=.builtin .append,args:=#[s,x],argTypes:=#[t,t] })(base e:Nat)(z:Value)(ht:P.underlying t=some (.slice e))(hinfo:(P.info? e).map (λi=>(i.zero,i.size,i.bytes))=some (some z,8,64))(hz8:z.cells.size=8)(v u:Value)(hs:a.eval s=v)(hx:a.eval x=u)(l m:List Vt)(hown:w.ownsRow base e 8 v l.length (vtL l))(hu:Sv w u m)(hlen:l.length+m.length<=2199023255552)(hbase:base<=w.heap.size)(h:∀ v' w',w'.ownsRow base e 8 v' (l++m).length (vtL (l++m))->w.grownBy w' v.ownBlock->wpList P ops Q rest (a.put o.dst v') w'):wpList P ops Q (o::rest) a w:=by
 refine wpList_plain hgd λK hK=>?_;obtain⟨v',w',hrun,r1,r2⟩:=Li (P:=P) w base t o.type e z ht hinfo hz8 v l hown u m hu hlen hbase;unfold Oper.wp execOp;simp only[ho,resolve,invoke,builtin,Sem.run_bind,Sem.run_pure,Result.andThen_ok,iD,fN,gy,hs,hx,hrun];exact hK _ _ (h v' w' r1 r2)
theorem Sv.one(w:World)(v:Vt)(e:TypeId)(hg:g=w.heap.size):Sv (w.alloc (.cells (vtA v) e)) (.slice (some ⟨g,0,none⟩) 1 1) [v]:=by
 subst hg;refine⟨⟨_,1,rfl,A' _,by simp,.inr ⟨w.heap.size,0,rfl,by simp,λi u hi j x hj=>?_⟩⟩,by simp⟩;cases i with
 | zero =>
  simp at hi;subst hi;rw[cell_of_row _ _ (0+8*0+j) _ _ _ (heap_alloc_new w (.cells (vtA v) e))];simpa[vtA]using hj
 | succ i=>simp at hi
def zVt:Value:=.agg zV8
theorem DQ:(prog.info? 138).map (λi=>(i.zero,i.size,i.bytes))=some (some zVt,8,64):=by kernel_rfl
theorem Il(v:Vt):(prog.info? 138).map (·.size)=some (vtC v).length:=by show _=some 8;kernel_rfl
theorem PA:prog.elem 74=138:=by kernel_rfl
theorem QI(w:World):(Go.sizeOf 138).run prog w=.ok 8 w:=by
 obtain⟨i,hi,_,hsz,_⟩:=info_parts DQ;simp[sizeOf,typeInfo,hi,hsz]
theorem Dk(b o n c:Nat)(i:Nat)(hi:i<n)(w:World):(Instr.indexAt 74 (.slice (some ⟨b,o,none⟩) n c) (.int .i64 (i:Int))).run prog w=.ok (.pointer (some ⟨b,o+8*i,none⟩)) w:=by
 rw[run_indexAt_slice (P:=prog) w 74 _ n c .i64 _ underlying74,if_pos ⟨by omega,by omega⟩,PA,QI];simp[Result.andThen,Addr.add_mid,Nat.mul_comm]
theorem Ar{l:List Oper}(h:wpList P ops Q l a w):wpList P ops Q l a w:=h
theorem D2(l:List Vt)(k:Nat)(v:Vt)(h:l[k]?=some v):l.take (k+1)=l.take k++[v]:=by
 obtain⟨hk,e⟩:=P'.1 h;rw[fJ hk,e]
def acA(p:Bal)(x:Value):Array Value:=#[.int .i64 p.r,.int .i64 p.n,x]
theorem J6:(prog.info? 73).map (·.size)=some 2:=by kernel_rfl
theorem Gm(h:Below B w w'){cs:List Value}(hb:b<B)(hr:w.rangeAt b o cs):w'.rangeAt b o cs :=
 λj v hv=>(h.cell (p:=⟨b,o+j,none⟩) hb).trans (hr j v hv)
theorem Ai{a:World}(h:Below B a w)(hg:B<=g)(cs:Array Value):Below B a (w.setRow g cs) :=
 h.trans ⟨rfl,rfl,rfl,by simp,λk hk=>setRow_other w g k cs (by omega)⟩
theorem QC{y:Value}(h0:w.cell? ⟨b,o,none⟩=some x)(h1:w.cell? ⟨b,o+1,none⟩=some y):w.rangeAt b o [x,y]:=by
 intro j v hj
 match j,hj with
 | 0,hj=>simp at hj;subst hj;exact h0
 | 1,hj=>simp at hj;subst hj;exact h1
 | k+2,hj=>simp at hj
theorem Zm(hw:Region.wanted op (yielded ops a.tmps)=true)(x:Operand)(ho:op.op=.load 138 x)(g:Nat)(hx:a.eval x=.pointer (some ⟨g,0,none⟩))(v:Vt)(hS:∀ w,S w->w.heap[g]?=some (.cells (vtA v) 138)):YieldsIf prog ops S op (.agg (vtA v)) a :=
 .inl ⟨hw,λw hw'=>by
  unfold execOp;simp only[ho,hx,Instr.loadAt,Instr.sureAddr,Sem.run_bind,Sem.run_pure,Result.andThen_ok,run_loadVar_row w g 138 138 _ (0,0) _ (hS w hw') underlying138 rfl (show _=some (vtA v).size from Il v)]⟩
theorem Yw(R:World->Prop){A:Act}(hreg:∀ K':Act->World->Prop,Hid (∀ W2,R W2->K' A W2)->(Code.region id ops true).wp P (Exit.then K' Q) a w)(hrest:∀ W2,R W2->K A W2):(Code.region id ops true).wp P (Exit.then K Q) a w:=hreg K hrest
theorem Zl(hw:Region.wanted op (yielded ops a.tmps)=true)(x:Operand)(ho:op.op=.load 138 x)(b o:Nat)(hx:a.eval x=.pointer (some ⟨b,o,none⟩))(v:Vt)(hS:∀ w,S w->w.rangeAt b o (vtC v)):YieldsIf prog ops S op (.agg (vtA v)) a :=
 yieldsIf_load_mid hw 138 x ho b o hx (vtC v) _ hS underlying138 rfl (Il v)
theorem cx:(prog.info? 74).map (·.size)=some 1:=by kernel_rfl
theorem ID{v:Tmp}(h:fn.results=#[.cell p ty,.tmp u,.tmp v])(tmps:Array Value)(w:World)(g:Nat)(t:TypeId)(cs:Array Value)(fr:Nat × Nat)(d:TypeDesc)(hp:tmps.getD p undef=.pointer (some ⟨g,0,none⟩))(hg:w.heap[g]?=some (.cells cs t fr))(hu:P.underlying ty=some d)(hd:(match d with|.struct _|.array _ _=>true|_=>false)=true)(hi:(P.info? ty).map (·.size)=some cs.size) :
  (results fn tmps).run P w=.ok (.tuple #[.agg cs,tmps.getD u undef,tmps.getD v undef]) w:=by
 have hp':tmps[p]?.getD undef=.pointer (some ⟨g,0,none⟩):=by simpa using hp
 simp[results,h,hp',asAddr,run_loadVar_row w g t ty cs fr d hg hu hd hi]
theorem Ow(w:World)(o1 o2 o3:Obj):(((w.alloc o1).alloc o2).alloc o3).heap[w.heap.size]?=some o1/\(((w.alloc o1).alloc o2).alloc o3).heap[w.heap.size+1]?=some o2/\(((w.alloc o1).alloc o2).alloc o3).heap[w.heap.size+2]?=some o3/\Bw w (((w.alloc o1).alloc o2).alloc o3):=by
 refine⟨?_,?_,?_,(((Below.refl _ _).alloc (A' _) _).alloc (by simp) _).alloc (by simp;omega) _⟩
 .rw[heap_alloc_old _ _ (by simp;omega)];exact heap_alloc2_old w o1 o2
 .rw[heap_alloc_old _ _ (by simp)];exact heap_alloc2_new w o1 o2
 .have:=heap_alloc_new ((w.alloc o1).alloc o2) o3;simpa using this
theorem E3{k8:Nat}{v:Value}{xs:List Value}(h:w.ownsRow base e k8 v n xs)(hk:∀ k,v.ownBlock=some k->w'.heap[k]?=w.heap[k]?):w'.ownsRow base e k8 v n xs:=by
 refine⟨h.1,?_⟩;rcases h.2 with h2|⟨g,cap,cur,hv,hb,hg,hr⟩
 .exact .inl h2
 .exact .inr ⟨g,cap,cur,hv,hb,(hk g (by rw[hv];rfl)).trans hg,hr⟩
theorem SZ(R:Option Addr->Nat->Value->World->Prop){A:Option Addr->Nat->Value->Act}(hreg:∀ K':Act->World->Prop,Hid (∀ g c y W2,R g c y W2->K' (A g c y) W2)->(Code.region id ops true).wp P (Exit.then K' Q) a w)(hrest:∀ g c y W2,R g c y W2->K (A g c y) W2):(Code.region id ops true).wp P (Exit.then K Q) a w:=hreg K hrest
theorem cK(v:Vt):(prog.info? 138).map (·.size)=some (vtA v).size:=by show _=some 8;kernel_rfl
theorem Fh(h:fn.results=#[.cell p ty,.tmp u])(tmps:Array Value)(w:World)(g:Nat)(t:TypeId)(cs:Array Value)(fr:Nat × Nat)(d:TypeDesc)(hp:tmps.getD p undef=.pointer (some ⟨g,0,none⟩))(hg:w.heap[g]?=some (.cells cs t fr))(hu:P.underlying ty=some d)(hd:(match d with|.struct _|.array _ _=>true|_=>false)=true)(hi:(P.info? ty).map (·.size)=some cs.size) :
  (results fn tmps).run P w=.ok (.tuple #[.agg cs,tmps.getD u undef]) w:=by
 have hp':tmps[p]?.getD undef=.pointer (some ⟨g,0,none⟩):=by simpa using hp
 simp[results,h,hp',asAddr,run_loadVar_row w g t ty cs fr d hg hu hd hi]
def cmC(c:Cmd):Array Value:=cmA c.k c.c c.s c.n c.v
theorem BE(p:Bal)(x:Value):(prog.info? 76).map (·.size)=some (acA p x).size:=by show _=some 3;kernel_rfl
theorem XC(a b a' b':Int):∀ w,(binOp .eql 73 (.agg #[.int .i64 a,.int .i64 b]) (.agg #[.int .i64 a',.int .i64 b'])).run prog w=.ok (.bool (decide (a=a'/\b=b'))) w:=by
 intro w;rw[run_eql_struct,run_equalIn_agg w 9999 _ _ _ (by kernel_rfl) (by kernel_rfl)];unfold Program.fieldsOf;rw[underlying73];have h3:=underlying3;simp[Op.eqFields,go_sem,h3]
 repeat' split
 all_goals simp_all
theorem UP(a b c d e f g h a' b' c' d' e' f' g' h':Int):∀ w,(binOp .eql 138 (.agg #[.int .i64 a,.int .i64 b,.int .i64 c,.int .i64 d,.int .i64 e,.int .i64 f,.int .i64 g,.int .i64 h]) (.agg #[.int .i64 a',.int .i64 b',.int .i64 c',.int .i64 d',.int .i64 e',.int .i64 f',.int .i64 g',.int .i64 h'])).run prog w=.ok (.bool (decide (a=a'/\b=b'/\c=c'/\d=d'/\e=e'/\f=f'/\g=g'/\h=h'))) w:=by
 intro w;rw[run_eql_struct,run_equalIn_agg w 9999 _ _ _ (by kernel_rfl) (by kernel_rfl)];unfold Program.fieldsOf;rw[underlying138];have h3:=underlying3;have h4:=underlying73;have h5:=underlying53;simp[Op.eqFields,go_sem,h3,h4,h5]
 repeat' split
 all_goals simp_all
end
end
section
section
def JR(l:List Vt)(v:Vt):Nat->List Vt
 | 0=>[]
 | k+1=>JR l v k++(if(k:Int)=v.slot then[v]else Al l k)
variable{a b l:List Vt}{v:Vt}
theorem OD(ha:B2 a)(hb:B2 b)(h:∀ x∈a,∀ y∈b,x.slot<y.slot):B2 (a++b):=by
 induction a with
 | nil=>exact hb
 | cons x xs ih =>
  refine⟨λu hu=>?_,ih ha.2 (λy hy=>h y (Q' _ hy))⟩;rcases Y'.1 hu with hu|hu
  .exact ha.1 u hu
  .exact h x V' u hu
theorem II(h:B2 l)(q:Vt->Bool):B2 (l.filter q):=by
 induction l with
 | nil=>trivial
 | cons x xs ih =>
  rw[List.filter_cons];split
  .exact⟨λu hu=>h.1 u (je.1 hu).1,ih h.2⟩
  .exact ih h.2
theorem Wd(ha:B2 a)(hb:B2 b)(h:∀ u,u∈a↔u∈b):a=b:=by
 induction a generalizing b with
 | nil =>
  cases b with
  | nil=>rfl
  | cons y ys=>exact absurd ((h y).2 V') (H')
 | cons x xs ih =>
  cases b with
  | nil=>exact absurd ((h x).1 V') (H')
  | cons y ys =>
   have hxy:x=y:=by
    rcases fD.1 ((h x).1 V')with e|e
    .exact e
    .rcases fD.1 ((h y).2 V')with e'|e'
     .exact e'.symm
     .have:=ha.1 y e';have:=hb.1 x e;omega
   subst hxy;rw[ih ha.2 hb.2 (λu=>?_)];constructor
   .intro hu;rcases fD.1 ((h u).1 (Q' _ hu))with rfl|e
    .have:=ha.1 u hu;omega
    .exact e
   .intro hu;rcases fD.1 ((h u).2 (Q' _ hu))with rfl|e
    .have:=hb.1 u hu;omega
    .exact e
theorem NK(k:Nat)(u:Vt):u∈JR l v k↔(0<=u.slot/\u.slot<k)/\(u=v\/(u∈l/\u.slot≠v.slot)):=by
 induction k with
 | zero=>simp[JR];omega
 | succ k ih =>
  rw[JR,Y',ih];by_cases hk:(k:Int)=v.slot
  .rw[if_pos hk,O'];constructor
   .rintro(⟨h1,h2⟩|rfl)
    .exact⟨by omega,h2⟩
    .exact⟨by omega,.inl rfl⟩
   .rintro⟨h1,rfl|⟨h2,h3⟩⟩
    .exact .inr rfl
    .exact .inl ⟨by omega,.inr ⟨h2,h3⟩⟩
  .rw[if_neg hk,CH];constructor
   .rintro(⟨h1,h2⟩|⟨h1,h2⟩)
    .exact⟨by omega,h2⟩
    .exact⟨by omega,.inr ⟨h1,by omega⟩⟩
   .rintro⟨h1,rfl|⟨h2,h3⟩⟩
    .exact .inl ⟨by omega,.inl rfl⟩
    .by_cases h4:u.slot=k
     .exact .inr ⟨h2,h4⟩
     .exact .inl ⟨by omega,.inr ⟨h2,h3⟩⟩
theorem Ie(h:B2 l)(s:Int):(Al l s).length<=1:=by
 match e:Al l s with
 | []=>simp
 | [_]=>simp
 | x::y::r =>
  have hr:B2 (Al l s):=II h _;have hx:=(CH.1 (show x∈Al l s by rw[e];simp)).2;have hy:=(CH.1 (show y∈Al l s by rw[e];simp)).2;rw[e]at hr
  have:=hr.1 y V';omega
theorem UZ(v:Vt)(h:B2 l)(k:Nat):(JR l v k).length<=k:=by
 induction k with
 | zero=>simp[JR]
 | succ k ih =>
  rw[JR,N'];have:=Ie h k;split
  .simp;omega
  .omega
theorem S9(v:Vt)(h:B2 l)(k:Nat):B2 (JR l v k):=by
 induction k with
 | zero=>trivial
 | succ k ih =>
  rw[JR];refine OD ih ?_ ?_
  .split
   .exact⟨λu hu=>(H' hu).elim,trivial⟩
   .exact II h _
  .intro x hx y hy;have h1:=((NK k x).1 hx).1;split at hy
   .obtain rfl:y=v:=by simpa using hy
    omega
   .have:=(CH.1 hy).2;omega
theorem XO(k:Nat)(h:B2 l)(hl:∀ u∈l,0<=u.slot/\u.slot<k)(hv:0<=v.slot/\v.slot<k):JR l v k=Bk l v:=by
 refine Wd (S9 v h k) (L9 v h) λu=>?_;rw[NK,JX h];constructor
 .exact λhh=>hh.2
 .rintro(rfl|⟨h1,h2⟩)
  .exact⟨hv,.inl rfl⟩
  .exact⟨hl u h1,.inr ⟨h1,h2⟩⟩
theorem IB(l:List Vt)(u:Vt)(s:Int):Al (l++[u]) s=Al l s++(if u.slot=s then[u]else[]):=by
 unfold Al;rw[iq];by_cases h:u.slot=s<;>simp[h]
theorem TD(ls:List (List Vt))(j:Nat)(l:List Vt)(h:ls[j]?=some l):(ls.take (j+1)).flatten=(ls.take j).flatten++l:=by
 obtain⟨hj,e⟩:=P'.1 h;rw[fJ hj,e];simp
theorem CO(a b:List Vt)(s:Int):Al (a++b) s=Al a s++Al b s:=by unfold Al;rw[iq]
end
end
section
open Go.RowKit
section
structure Sac(w:World)(x:Value)(ac:List Acc):Prop where
 ex:∃ a cap,x=.slice a ac.length cap/\(ac=[]\/∃ b off,a=some ⟨b,off,none⟩/\b<w.heap.size/\∀ (i:Nat) (A:Acc),ac[i]?=some A->∃ y,w.rangeAt b (off+3*i) [.int .i64 A.p.r,.int .i64 A.p.n,y]/\Sv w y A.vs)
 len:ac.length<=3518437208780
variable{ac:List Acc}{s:Int}{w:World}{x:Value}
theorem Sac.below{w':World}(h:Sac w x ac)(hb:Bw w w'):Sac w' x ac:=by
 obtain⟨⟨a,cap,rfl,h1⟩,h2⟩:=h;refine⟨⟨a,cap,rfl,?_⟩,h2⟩;rcases h1 with h1|⟨b,off,ha,hbs,hc⟩
 .exact .inl h1
 .refine .inr ⟨b,off,ha,Z' hbs hb.size,λi A hi=>?_⟩;obtain⟨y,h3,h4⟩:=hc i A hi;exact⟨y,Gm hb hbs h3,h4.below hb⟩
theorem Sac.shape(h:Sac w x ac):∃ a cap,x=.slice a ac.length cap:=by
 obtain⟨⟨a,cap,e,_⟩,_⟩:=h;exact⟨a,cap,e⟩
theorem Sac.spot{a:Option Addr}{n cap:Nat}(h:Sac w (.slice a n cap) ac)(i:Nat)(A:Acc)(hi:ac[i]?=some A):∃ b off y,a=some ⟨b,off,none⟩/\b<w.heap.size/\w.rangeAt b (off+3*i) [.int .i64 A.p.r,.int .i64 A.p.n,y]/\Sv w y A.vs:=by
 obtain⟨⟨a',cap',e,h1⟩,_⟩:=h;simp only[Value.slice.injEq]at e;obtain⟨rfl,rfl,rfl⟩:=e;rcases h1 with rfl|⟨b,off,rfl,hb,hc⟩
 .simp at hi
 .obtain⟨y,h3,h4⟩:=hc i A hi;exact⟨b,off,y,rfl,hb,h3,h4⟩
theorem aE:prog.elem 198=76:=by kernel_rfl
theorem bX(w:World):(Go.sizeOf 76).run prog w=.ok 3 w:=by
 have h:(prog.info? 76).map (·.size)=some 3:=by kernel_rfl
 cases hi:prog.info? 76 with
 | none=>rw[hi]at h;cases h
 | some i =>
  rw[hi]at h
  simp at h;simp[sizeOf,typeInfo,hi,h]
theorem LT(b o n c:Nat)(i:Nat)(hi:i<n)(w:World):(Instr.indexAt 198 (.slice (some ⟨b,o,none⟩) n c) (.int .i64 (i:Int))).run prog w=.ok (.pointer (some ⟨b,o+3*i,none⟩)) w:=by
 rw[run_indexAt_slice (P:=prog) w 198 _ n c .i64 _ underlying198,if_pos ⟨by omega,by omega⟩,aE,bX];simp[Result.andThen,Addr.add_mid,Nat.mul_comm]
def Ep(ac:List Acc)(s:Int):List Vt:=Al (ac.map (·.vs)).flatten s
def CD(ac:List Acc)(s:Int):Int:=if ¬ ((0<=s/\s<=39)/\(1<=(ac.length:Int)/\(ac.length:Int)<=5))then 2 else if ¬ ∀ a∈ac,AC a then 5 else if(G7 (Ep ac s) ac.length).isSome then 0 else 9
def Ct(ac:List Acc)(s:Int):Cmd:=if CD ac s=0 then((G7 (Ep ac s) ac.length).map (·.w)).getD ⟨0,0,0,0,0⟩else⟨0,0,0,0,0⟩
theorem Hz(h:¬ ((0<=s/\s<=39)/\(1<=(ac.length:Int)/\(ac.length:Int)<=5))):Ct ac s=⟨0,0,0,0,0⟩/\CD ac s=2:=by
 have e:CD ac s=2:=if_pos h;exact⟨if_neg (by rw[e];decide),e⟩
theorem Si(h:(0<=s/\s<=39)/\(1<=(ac.length:Int)/\(ac.length:Int)<=5))(hb:¬ ∀ a∈ac,AC a):Ct ac s=⟨0,0,0,0,0⟩/\CD ac s=5:=by
 have e:CD ac s=5:=by unfold CD;rw[if_neg (λg=>g h),if_pos hb]
 exact⟨if_neg (by rw[e];decide),e⟩
theorem Ux(h:(0<=s/\s<=39)/\(1<=(ac.length:Int)/\(ac.length:Int)<=5))(hb:∀ a∈ac,AC a)(ho:G7 (Ep ac s) ac.length=none):Ct ac s=⟨0,0,0,0,0⟩/\CD ac s=9:=by
 have e:CD ac s=9:=by unfold CD;rw[if_neg (λg=>g h),if_neg (λg=>g hb),ho];rfl
 exact⟨if_neg (by rw[e];decide),e⟩
theorem Uy(h:(0<=s/\s<=39)/\(1<=(ac.length:Int)/\(ac.length:Int)<=5))(hb:∀ a∈ac,AC a){x:Vt}(ho:G7 (Ep ac s) ac.length=some x):Ct ac s=x.w/\CD ac s=0:=by
 have e:CD ac s=0:=by unfold CD;rw[if_neg (λg=>g h),if_neg (λg=>g hb),ho];rfl
 exact⟨by unfold Ct;rw[if_pos e,ho];rfl,e⟩
theorem ao{bs:List Acc}(h:∀ a∈bs,AC a)(s:Int):(Al (bs.map (·.vs)).flatten s).length<=bs.length:=by
 induction bs with
 | nil=>simp[Al]
 | cons a bs ih =>
  have h1:=Ie (h a V').2.2 s;have h2:=ih (λb hb=>h b (Q' _ hb));simp only[fN,List.flatten_cons,fR];rw[CO,N'];omega
theorem TC{j:Nat}{a:Acc}(h:ac[j]?=some a)(h1:∀ a∈ac.take j,AC a)(h2:AC a):∀ a∈ac.take (j+1),AC a:=by
 obtain⟨hj,e⟩:=P'.1 h;rw[fJ hj,e];intro b hb;rcases Y'.1 hb with g|g
 .exact h1 b g
 .obtain rfl:b=a:=by simpa using g
  exact h2
theorem QP(ac:List Acc)(j:Nat)(a:Acc)(h:ac[j]?=some a):((ac.take (j+1)).map (·.vs)).flatten=((ac.take j).map (·.vs)).flatten++a.vs:=by
 obtain⟨hj,e⟩:=P'.1 h;rw[fJ hj,e];simp
end
end
section
end
section
open Go.RowKit
section
def baA(b:Bal):Array Value:=#[.int .i64 b.r,.int .i64 b.n]
variable{fr:Nat × Nat}{g:Nat}{l:List Vt}{ls:List (List Vt)}{p:Bal}{s:Int}{ty:TypeId}{w:World}
theorem Dh{b:Bal}(h:w.heap[g]?=some (.cells (baA b) ty fr)) :
  w.cell? ⟨g,0,none⟩=some (.int .i64 b.r)/\w.cell? ⟨g,1,none⟩=some (.int .i64 b.n) :=
 ⟨cell_of_row _ _ 0 _ _ _ h,cell_of_row _ _ 1 _ _ _ h⟩
theorem Iv{v:Vt}(h:w.heap[g]?=some (.cells (vtA v) ty fr)) :
  w.cell? ⟨g,0,none⟩=some (.int .i64 v.slot)/\w.cell? ⟨g,1,none⟩=some (.int .i64 v.b.r)/\w.cell? ⟨g,2,none⟩=some (.int .i64 v.b.n)/\w.cell? ⟨g,3,none⟩=some (.int .i64 v.w.k)/\w.cell? ⟨g,4,none⟩=some (.int .i64 v.w.c)/\w.cell? ⟨g,5,none⟩=some (.int .i64 v.w.s)/\w.cell? ⟨g,6,none⟩=some (.int .i64 v.w.n)/\w.cell? ⟨g,7,none⟩=some (.int .i64 v.w.v) :=
 ⟨cell_of_row _ _ 0 _ _ _ h,cell_of_row _ _ 1 _ _ _ h,cell_of_row _ _ 2 _ _ _ h,cell_of_row _ _ 3 _ _ _ h,cell_of_row _ _ 4 _ _ _ h,cell_of_row _ _ 5 _ _ _ h,cell_of_row _ _ 6 _ _ _ h,cell_of_row _ _ 7 _ _ _ h⟩
def OkV(p:Bal)(l:List Vt):Prop:=(∀ v∈l,Am v/\¬ p.lt v.b)/\B2 l
theorem Tq(l:List Vt)(v:Vt):B2 (l++[v])↔B2 l/\∀ u∈l,u.slot<v.slot:=by
 induction l with
 | nil=>exact⟨λ_=>⟨trivial,λu hu=>(H' hu).elim⟩,λ_=>⟨λu hu=>(H' hu).elim,trivial⟩⟩
 | cons x xs ih =>
  show((∀ u∈xs++[v],x.slot<u.slot)/\B2 (xs++[v]))↔((∀ u∈xs,x.slot<u.slot)/\B2 xs)/\∀ u∈x::xs,u.slot<v.slot;rw[ih];constructor
  .rintro⟨h1,h2,h3⟩;refine⟨⟨λu hu=>h1 u (gg _ hu),h2⟩,λu hu=>?_⟩;rcases fD.1 hu with rfl|hu
   .exact h1 v (gm _ V')
   .exact h3 u hu
  .rintro⟨⟨h1,h2⟩,h3⟩;refine⟨λu hu=>?_,h2,λu hu=>h3 u (Q' _ hu)⟩;rcases Y'.1 hu with hu|hu
   .exact h1 u hu
   .obtain rfl:u=v:=by simpa using hu
    exact h3 x V'
theorem OkV.snoc(h:OkV p l)(v:Vt):OkV p (l++[v])↔Am v/\¬ p.lt v.b/\∀ u∈l,u.slot<v.slot:=by
 unfold OkV;rw[Tq];constructor
 .rintro⟨h1,h2,h3⟩;exact⟨(h1 v (by simp)).1,(h1 v (by simp)).2,h3⟩
 .rintro⟨h1,h2,h3⟩;refine⟨λu hu=>?_,h.2,h3⟩;rcases Y'.1 hu with hu|hu
  .exact h.1 u hu
  .obtain rfl:u=v:=by simpa using hu
   exact⟨h1,h2⟩
theorem OkV.left{m:List Vt}(h:OkV p (l++m)):OkV p l:=by
 refine⟨λv hv=>h.1 v (gg _ hv),?_⟩;have h2:=h.2;clear h;induction l with
 | nil=>trivial
 | cons x xs ih=>exact⟨λu hu=>h2.1 u (gg _ hu),ih h2.2⟩
def EO(a:Acc)(b:Bal):Bal:=if BN a b=0 then b else⟨0,0⟩
def EN(a:Acc)(b:Bal):List Vt:=if BN a b=0 then a.vs else[]
def BX(a:Acc)(v:Vt):Bal:=if AX a v=0 then v.b else⟨0,0⟩
def Dc(a:Acc)(v:Vt):List Vt:=if AX a v=0 then Bk a.vs v else[]
def GU(ls:List (List Vt))(s:Int):Cmd:=if Co ls s=0 then((Ox ls s).map (·.w)).getD ⟨0,0,0,0,0⟩else⟨0,0,0,0,0⟩
def FT(ls:List (List Vt))(s:Int):Bool:=if Co ls s=0 then(Ox ls s).isSome else false
theorem VS(h:¬ (0<=s/\s<=39)):GU ls s=⟨0,0,0,0,0⟩/\FT ls s=false/\Co ls s=2:=by
 have e:Co ls s=2:=if_pos h;exact⟨if_neg (by rw[e];decide),if_neg (by rw[e];decide),e⟩
theorem Q3(h:0<=s/\s<=39)(hb:¬ ∀ l∈ls,∀ v∈l,Am v):GU ls s=⟨0,0,0,0,0⟩/\FT ls s=false/\Co ls s=5:=by
 have e:Co ls s=5:=by unfold Co;rw[if_neg (λg=>g h),if_neg hb]
 exact⟨if_neg (by rw[e];decide),if_neg (by rw[e];decide),e⟩
theorem WM{j:Nat}(h:ls[j]?=some l)(h1:∀ l∈ls.take j,∀ v∈l,Am v)(h2:∀ v∈l,Am v):∀ l∈ls.take (j+1),∀ v∈l,Am v:=by
 obtain⟨hj,e⟩:=P'.1 h;rw[fJ hj,e];intro l' hl';rcases Y'.1 hl' with g|g
 .exact h1 l' g
 .obtain rfl:l'=l:=by simpa using g
  exact h2
theorem WO{k:Nat}{u:Vt}(h:l[k]?=some u)(h1:∀ v∈l.take k,Am v)(h2:Am u):∀ v∈l.take (k+1),Am v:=by
 rw[D2 l k u h];intro v hv;rcases Y'.1 hv with g|g
 .exact h1 v g
 .obtain rfl:v=u:=by simpa using g
  exact h2
end
end
end Go.Proofs.YtalbmmghmoggcabGreatDoor
