/- Part 7 of the walk. -/
import Derived.Great.BuildSlice
import Derived.Test.YtalbmmghmoggcadGreatDoorZ6
import Derived.Test.YtalbmmghmoggcadGreatDoorZ5
set_option maxRecDepth 100000
set_option maxHeartbeats 4000000
open Go.Proofs.Tryz
set_option linter.unusedVariables false
namespace Go.Proofs.YtalbmmghmoggcadGreatDoor
section
open Go.RowKit
section
variable{P:Program}{fn:Func}{R:Ending->World->Prop}{B:Nat}{T:List Tg}{g:Gh}{w:World}
section
variable{L:List Sh}{S:Sem Next}{i':Nat}{s:Xs}
theorem Kn.at(h:Kn B g w L)(k:Nat){x:Sh}(hx:L[k]?=some x):w.heap[x.g]?=some x.o:=(h.row x (jg hx)).1
theorem Kn.ats(h:Kn B g w L)(k b:Nat)(cs:Array Value)(e:TypeId)(t:Tg)(v:Bool)(hx:L[k]?=some ⟨b,.cells cs e,t,v⟩):w.heap[b]?=some (.cells cs e):=h.at k hx
theorem Kn.isN(h:Kn B g w L)(k b:Nat)(o:Obj)(r i:Nat)(hx:L[k]?=some ⟨b,o,.n r i,false⟩):w.heap[b]?=some o/\g.t b=.n r i/\g.k b=0 :=
 have h1:=h.row _ (jg hx)
 ⟨h1.1,h1.2.1,h1.2.2.2 (by simp)⟩
theorem Kn.isZ(h:Kn B g w L)(k b:Nat)(o:Obj)(v:Bool)(hx:L[k]?=some ⟨b,o,.z,v⟩):w.heap[b]?=some o/\g.t b=.z :=
 have h1:=h.row _ (jg hx)
 ⟨h1.1,h1.2.1⟩
theorem BL(h:Kn B g w L)(k b:Nat)(news:List Value)(e:TypeId)(t:Tg)(v:Bool)(hx:L[k]?=some ⟨b,.cells news.toArray e,t,v⟩):∀ j u,news[j]?=some u->w.cell? ((⟨b,0,none⟩:Addr).add j)=some u:=by
 intro j u hj;have h1:=h.at k hx;have:(⟨b,0,none⟩:Addr).add j=⟨b,j,none⟩:=by unfold Addr.add;split<;>simp_all
 rw[this,cell_of_row _ _ _ _ _ _ h1];simpa using hj
def De(s:Xs)(i':Nat):Option (Sem Next):=(opN s i').map λx=>execOp s.f.ev x.2.2
theorem Di(h:De s i'=some S){ops:Array Oper}{i:Nat}{o:Oper}(ho:opN s i'=some (ops,i,o)):execOp s.f.ev o=S:=by
 unfold De at h;rw[ho]at h
 simpa using h
theorem BT(h:De s i'=some S):(opN s i').isSome=true:=by
 unfold De at h;cases hx:opN s i' with
 | none=>rw[hx]at h;cases h
 | some x=>rfl
theorem JI(i':Nat){τ:Tg}{kp:Bool}{x:S3}{xs:List Value}(t ty e:TypeId)(sz bytes:Nat)(z:Value)(a:Addr)(m c:Nat)(news:List Value)(hx:OwnS g w τ kp e sz x xs)(hsem:De s i'=some (Builtin.append_ #[t,t] ty #[x.v,.slice (some a) m c]>>=λv=>pure (.value v)))(hob:(nxt s i' undef s.L).o.map Ob.l'=(nxt s i' undef s.L).o.map Ob.r')(hT:s.L.all (λy=>[τ].all λt=>y.t.ne t)=true)(ht:P.underlying t=some (.slice e))(hinfo:(P.info? e).map (λi=>(i.zero,i.size,i.bytes))=some (some z,sz,bytes))(hzs:Nat.beq z.cells.size sz=true)(hsz:0<sz)(hm:0<m)(hl:news.length=m*sz)(h1:∀ u∈news,u.oneCell'=true)(hnews:Kn B g w s.L->∀ j u,news[j]?=some u->w.cell? (a.add j)=some u)(h63:x.n+m<=maxLen)(hbytes:(x.n+m)*bytes<=140737488355328)(hk:∀ x' g' w',OwnS g' w' τ kp e sz x' (xs++news)->x'.n=x.n+m->(∀ B T,τ∈T->Cg B T g w g' w')->Iy g' w'->GG P fn R B T (nxt s i' (S3.v x') s.L).s g' w'):GG P fn R B T s g w:=by
 refine KO i' s.L hob (BT hsem) λhK ops i o hop=>?_;obtain⟨x',w',g',hr,h2,h3,h4,h5⟩:=iq (P:=P) (B:=w.heap.size) (T:=[τ]) t ty e sz bytes z ht hinfo (ja hzs) hsz (O'.2 rfl) hx hK.new a m c news hm hl (hnews hK) h1 h63 hbytes;refine⟨x'.v,w',g',.inl ?_,hK.ch h4 h5 hT,hk x' g' w' h2 h3 (λB T hT=>(h4.ret (B:=B)).mono λt ht=>by rw[O'.1 ht];exact hT) h5⟩;rw[Di hsem hop,Sem.run_bind,hr,Result.andThen_ok];rfl
end
end
end
section
section
structure Bal where
 r:Int
 n:Int
theorem Bal.eq_iff(a b:Bal):(a.r=b.r/\a.n=b.n)↔a=b:=by
 cases a;cases b;simp
instance:DecidableEq Bal:=λa b=>decidable_of_iff _ (Bal.eq_iff a b)
structure Cmd where
 k:Int
 c:Int
 s:Int
 n:Int
 v:Int
theorem Cmd.eq_iff(a b:Cmd):(a.k=b.k/\a.c=b.c/\a.s=b.s/\a.n=b.n/\a.v=b.v)↔a=b:=by
 cases a;cases b;simp
instance:DecidableEq Cmd:=λa b=>decidable_of_iff _ (Cmd.eq_iff a b)
structure Vt where
 slot:Int
 b:Bal
 w:Cmd
theorem Vt.eq_iff(a b:Vt):(a.slot=b.slot/\a.b=b.b/\a.w=b.w)↔a=b:=by
 cases a;cases b;simp
instance:DecidableEq Vt:=λa b=>decidable_of_iff _ (Vt.eq_iff a b)
instance:Inhabited Vt:=⟨⟨0,⟨0,0⟩,⟨0,0,0,0,0⟩⟩⟩
structure Acc where
 p:Bal
 vs:List Vt
def Bal.lt(a b:Bal):Prop:=a.r<b.r\/(a.r=b.r/\a.n<b.n)
instance (a b:Bal):Decidable (a.lt b):=by unfold Bal.lt;exact inferInstance
def Bal.key(a:Bal):Int:=5*a.r+a.n
def Ab(a:Bal):Prop:=(1<=a.r/\a.r<=65536)/\0<=a.n/\a.n<=4
instance (a:Bal):Decidable (Ab a):=by unfold Ab;exact inferInstance
def Cmd.e(c:Cmd):Int:=Bf c.k c.c c.s c.n c.v
def Ak(v:Vt):Prop:=(0<=v.slot/\v.slot<=39)/\Ab v.b/\v.w.e=0
instance (v:Vt):Decidable (Ak v):=by unfold Ak;exact inferInstance
def Aw(a:Bal):Prop:=Ab a\/(a.r=0/\a.n=0)
instance (a:Bal):Decidable (Aw a):=by unfold Aw;exact inferInstance
def BA:List Vt->Prop
 | []=>True
 | u::us=>(∀ v∈us,u.slot<v.slot)/\BA us
def Tr:(l:List Vt)->Decidable (BA l)
 | []=>isTrue trivial
 | u::us=>@instDecidableAnd _ _ inferInstance (Tr us)
instance (l:List Vt):Decidable (BA l):=Tr l
def An(a:Acc):Prop:=Aw a.p/\(∀ v∈a.vs,Ak v/\¬ a.p.lt v.b)/\BA a.vs
instance (a:Acc):Decidable (An a):=by unfold An;exact inferInstance
variable{a b:Bal}{l:List Vt}{v:Vt}
theorem IF(ha:Aw a)(hb:Aw b):a.lt b↔a.key<b.key:=by
 unfold Aw Ab at ha hb;unfold Bal.lt Bal.key;omega
theorem Hw(ha:Aw a)(hb:Aw b)(h:a.key=b.key):a=b:=by
 unfold Aw Ab at ha hb;unfold Bal.key at h;exact(Bal.eq_iff a b).1 (by omega)
theorem Ab.pr(h:Ab a):Aw a:=.inl h
theorem Ab.pos(h:Ab a):5<=a.key:=by unfold Ab at h;unfold Bal.key;omega
def Gn(a:Acc):Int:=if An a then 0 else 5
def BQ(a:Acc)(b:Bal):Int:=if ¬ An a then 5 else if ¬ Ab b then 2 else if b.lt a.p then 7 else 0
def AQ(a:Acc)(v:Vt):Int:=if ¬ An a then 5 else if ¬ Ak v then 2 else if v.b.lt a.p then 7 else 0
def Ba:List Vt->Vt->List Vt
 | [],v=>[v]
 | u::us,v=>if u.slot<v.slot then u::Ba us v else if u.slot=v.slot then v::us else v::u::us
theorem Cw{u:Vt}(h:BA l):u∈Ba l v↔u=v\/(u∈l/\u.slot≠v.slot):=by
 induction l with
 | nil=>simp[Ba]
 | cons x xs ih =>
  obtain⟨hx,hxs⟩:=h;have ih:=ih hxs;rw[Ba];split
  .rename_i h1
   rw[iX,ih];constructor
   .rintro(rfl|rfl|⟨h2,h3⟩)
    .exact .inr ⟨U',by omega⟩
    .exact .inl rfl
    .exact .inr ⟨P' _ h2,h3⟩
   .rintro(rfl|⟨h2,h3⟩)
    .exact .inr (.inl rfl)
    .rcases iX.1 h2 with rfl|h2
     .exact .inl rfl
     .exact .inr (.inr ⟨h2,h3⟩)
  .split
   .rename_i h1 h2
    rw[iX];constructor
    .rintro(rfl|h3)
     .exact .inl rfl
     .have:=hx u h3;exact .inr ⟨P' _ h3,by omega⟩
    .rintro(rfl|⟨h3,h4⟩)
     .exact .inl rfl
     .rcases iX.1 h3 with rfl|h3
      .exact absurd h2 h4
      .exact .inr h3
   .rename_i h1 h2
    rw[iX];constructor
    .rintro(rfl|h3)
     .exact .inl rfl
     .rcases iX.1 h3 with rfl|h4
      .exact .inr ⟨h3,h2⟩
      .have:=hx u h4;exact .inr ⟨h3,by omega⟩
    .rintro(rfl|⟨h3,h4⟩)
     .exact .inl rfl
     .exact .inr h3
theorem IC(v:Vt)(h:BA l):BA (Ba l v):=by
 induction l with
 | nil=>exact⟨λu hu=>(M' hu).elim,trivial⟩
 | cons x xs ih =>
  obtain⟨hx,hxs⟩:=h;rw[Ba];split
  .rename_i h1
   refine⟨λu hu=>?_,ih hxs⟩;rcases(Cw hxs).1 hu with rfl|⟨h2,_⟩
   .exact h1
   .exact hx u h2
  .split
   .rename_i h1 h2
    exact⟨λu hu=>by have:=hx u hu;omega,hxs⟩
   .rename_i h1 h2
    refine⟨λu hu=>?_,hx,hxs⟩;rcases iX.1 hu with rfl|h3
    .omega
    .have:=hx u h3;omega
def BY:List Vt->Option Vt->Option Vt
 | [],o=>o
 | v::l,none=>BY l (some v)
 | v::l,some u=>if u.b.lt v.b then BY l (some v)else BY l (some u)
theorem QE(l:List Vt)(u:Vt)(hm:∀ v∈l,Aw v.b)(hu:Aw u.b):∃ x,BY l (some u)=some x/\(x=u\/x∈l)/\u.b.key<=x.b.key/\∀ v∈l,v.b.key<=x.b.key:=by
 induction l generalizing u with
 | nil=>exact⟨u,rfl,.inl rfl,jH _,λ_ h=>by cases h⟩
 | cons v l ih =>
  have hv:=hm v U';have hl:∀ x∈l,Aw x.b:=λx hx=>hm x (P' _ hx);rw[BY];split
  .rename_i h1
   have h1':=(IF hu hv).1 h1;obtain⟨x,e,hx,h2,h3⟩:=ih v hl hv;refine⟨x,e,?_,by omega,?_⟩
   .rcases hx with rfl|hx
    .exact .inr U'
    .exact .inr (P' _ hx)
   .intro y hy;rcases iX.1 hy with rfl|hy
    .exact h2
    .exact h3 y hy
  .rename_i h1
   have h1':¬ u.b.key<v.b.key:=λg=>h1 ((IF hu hv).2 g);obtain⟨x,e,hx,h2,h3⟩:=ih u hl hu;refine⟨x,e,?_,h2,?_⟩
   .rcases hx with rfl|hx
    .exact .inl rfl
    .exact .inr (P' _ hx)
   .intro y hy;rcases iX.1 hy with rfl|hy
    .omega
    .exact h3 y hy
theorem QC(l:List Vt)(hm:∀ v∈l,Aw v.b):(l=[]/\BY l none=none)\/∃ x,BY l none=some x/\x∈l/\∀ v∈l,v.b.key<=x.b.key:=by
 cases l with
 | nil=>exact .inl ⟨rfl,rfl⟩
 | cons v l =>
  right;obtain⟨x,e,hx,h2,h3⟩:=QE l v (λx hx=>hm x (P' _ hx)) (hm v U');refine⟨x,e,?_,?_⟩
  .rcases hx with rfl|hx
   .exact U'
   .exact P' _ hx
  .intro y hy;rcases iX.1 hy with rfl|hy
   .exact h2
   .exact h3 y hy
def Af(l:List Vt)(s:Int):List Vt:=l.filter λv=>decide (v.slot=s)
theorem BO{s:Int}:v∈Af l s↔v∈l/\v.slot=s:=by simp[Af]
def C1(ls:List (List Vt))(s:Int):Int:=if ¬ (0<=s/\s<=39)then 2 else if ∀ l∈ls,∀ v∈l,Ak v then 0 else 5
def Jw(ls:List (List Vt))(s:Int):Option Vt:=BY (Af ls.flatten s) none
def BN(l:List Vt)(v:Vt):Nat:=l.countP λu=>decide (u=v)
def Hk(l:List Vt)(m:Nat):Option Vt:=l.find? λv=>decide (m<2*BN l v)
end
end
section
open Go.RowKit
section
def vtC(v:Vt):List Value:=[.int .i64 v.slot,.int .i64 v.b.r,.int .i64 v.b.n,.int .i64 v.w.k,.int .i64 v.w.c,.int .i64 v.w.s,.int .i64 v.w.n,.int .i64 v.w.v]
def vtA(v:Vt):Array Value:=(vtC v).toArray
theorem Ci(v:Vt):(vtC v).length=8:=rfl
theorem ce(v:Vt):∀ u∈vtC v,u.oneCell'=true:=by
 intro u hu;simp only[vtC,iX,M',or_false]at hu;rcases hu with rfl|rfl|rfl|rfl|rfl|rfl|rfl|rfl<;>rfl
def vtL(l:List Vt):List Value:=l.flatMap vtC
theorem LR(v:Vt)(l:List Vt):vtL (v::l)=vtC v++vtL l:=rfl
theorem S7(l m:List Vt):vtL (l++m)=vtL l++vtL m:=by simp[vtL]
theorem CG(l:List Vt):(vtL l).length=l.length*8:=by
 induction l with
 | nil=>rfl
 | cons v l ih=>rw[LR,G',ih,Ci,jo];omega
theorem T9(l:List Vt):∀ u∈vtL l,u.oneCell'=true:=by
 intro u hu;obtain⟨v,_,hv⟩:=kW.1 hu;exact ce v u hv
theorem cm(l:List Vt)(i:Nat)(v:Vt)(h:l[i]?=some v)(j:Nat)(u:Value)(hj:(vtC v)[j]?=some u):(vtL l)[8*i+j]?=some u:=by
 induction l generalizing i with
 | nil=>simp at h
 | cons x l ih =>
  have hj8:j<8:=by have:=(Q'.1 hj).1;rwa [Ci]at this
  rw[LR];cases i with
  | zero =>
   simp at h;subst h;rw[iT (by rw[Ci];omega)];simpa using hj
  | succ i =>
   rw[iV (by rw[Ci];omega),Ci,show 8*(i+1)+j-8=8*i+j by omega];exact ih i (by simpa using h)
theorem YN(l:List Vt)(m:Nat)(u:Value)(h:(vtL l)[m]?=some u):∃ v,l[m/8]?=some v/\(vtC v)[m%8]?=some u:=by
 induction l generalizing m with
 | nil=>simp[vtL]at h
 | cons x l ih =>
  rw[LR]at h
  rcases jt m 8 with hm|hm
  .rw[iT (by rw[Ci];omega)]at h
   exact⟨x,by rw[Nat.div_eq_of_lt hm];rfl,by rwa [lS hm]⟩
  .rw[iV (by rw[Ci];omega),Ci]at h
   obtain⟨v,h1,h2⟩:=ih (m-8) h;refine⟨v,?_,?_⟩
   .rw[show m/8=(m-8)/8+1 by omega];simpa using h1
   .rw[show m%8=(m-8)%8 by omega];exact h2
structure Sv(w:World)(x:Value)(l:List Vt):Prop where
 ex:∃ a cap,x=.slice a l.length cap/\l.length<=cap/\(a=none->cap=0)/\(l=[]\/∃ b off,a=some ⟨b,off,none⟩/\b<w.heap.size/\∀ i v,l[i]?=some v->w.rangeAt b (off+8*i) (vtC v))
 len:l.length<=2199023255488
variable{B b base e g id n o:Nat}{K:Act->World->Prop}{P:Program}{Q:Exit->Act->World->Prop}{S:World->Prop}{a:Act}{fn:Func}{l:List Vt}{op:Oper}{ops:Array Oper}{p u:Tmp}{ty:TypeId}{w w':World}{x:Value}
theorem Sv.below(h:Sv w x l)(hb:Bw w w'):Sv w' x l:=by
 obtain⟨⟨a,cap,rfl,hc,hn,h1⟩,h2⟩:=h;refine⟨⟨a,cap,rfl,hc,hn,?_⟩,h2⟩;rcases h1 with h1|⟨b,off,ha,hbs,hcell⟩
 .exact .inl h1
 .exact .inr ⟨b,off,ha,Z' hbs hb.size,λi v hi j u hj=>(hb.cell (p:=⟨b,off+8*i+j,none⟩) hbs).trans (hcell i v hi j u hj)⟩
theorem Sv.nil(w:World):Sv w (.slice none 0 0) []:=⟨⟨none,0,rfl,by simp,by simp,.inl rfl⟩,by simp⟩
theorem Sv.shape(h:Sv w x l):∃ a cap,x=.slice a l.length cap:=by
 obtain⟨⟨a,cap,e,_⟩,_⟩:=h;exact⟨a,cap,e⟩
theorem Sv.spot{a:Option Addr}{cap:Nat}(h:Sv w (.slice a n cap) l)(i:Nat)(v:Vt)(hi:l[i]?=some v):∃ b off,a=some ⟨b,off,none⟩/\b<w.heap.size/\w.rangeAt b (off+8*i) (vtC v):=by
 obtain⟨⟨a',cap',e,hc,hn,h1⟩,_⟩:=h;simp only[Value.slice.injEq]at e;obtain⟨rfl,rfl,rfl⟩:=e;rcases h1 with rfl|⟨b,off,rfl,hb,hcell⟩
 .simp at hi
 .exact⟨b,off,rfl,hb,hcell i v hi⟩
theorem Sv.ofOwns(h:w.ownsRow base e 8 x l.length (vtL l))(hl:l.length<=2199023255488):Sv w x l:=by
 refine⟨?_,hl⟩;rcases h.2 with⟨rfl,h0⟩|⟨g,cap,cur,rfl,_,hg,hn,_,hcs,ht⟩
 .exact⟨none,0,by rw[h0],by omega,λ_=>rfl,.inl (iN h0)⟩
 .refine⟨_,cap,rfl,hn,by simp,.inr ⟨g,0,rfl,(H'.1 hg).1,λi v hi j u hj=>?_⟩⟩;have hc:=h.cells (g:=g) rfl (8*i+j) u (cm l i v hi j u hj);have hadd:(⟨g,0,none⟩:Addr).add (8*i+j)=⟨g,8*i+j,none⟩:=by unfold Addr.add;split<;>simp_all
  rw[hadd]at hc
  rw[jm];exact hc
theorem Mv(w:World)(base t ty e:Nat)(z:Value)(ht:P.underlying t=some (.slice e))(hinfo:(P.info? e).map (λi=>(i.zero,i.size,i.bytes))=some (some z,8,64))(hz8:z.cells.size=8)(x:Value)(l:List Vt)(hown:w.ownsRow base e 8 x l.length (vtL l))(u:Value)(m:List Vt)(hu:Sv w u m)(hlen:l.length+m.length<=2199023255552)(hbase:base<=w.heap.size) :
  ∃ v' w',(Builtin.append_ #[t,t] ty #[x,u]).run P w=.ok v' w'/\w'.ownsRow base e 8 v' (l++m).length (vtL (l++m))/\w.grownBy w' x.ownBlock:=by
 obtain⟨i,hi,hz,hsz,hby⟩:=info_parts hinfo;obtain⟨⟨a,cap,rfl,hc,hn,h1⟩,_⟩:=hu;cases a with
 | none =>
  have hc0:=hn rfl;subst hc0;have hm:m=[]:=iN (by omega);subst hm;refine⟨x,w,?_,by simpa using hown,⟨rfl,rfl,rfl,A' _,λ_ _ _=>rfl⟩⟩;exact run_append_owned_none (P:=P) (w:=w) base t ty e i 8 ht hi x l.length _ hown
 | some ad =>
  have hcells:∀ j u,(vtL m)[j]?=some u->w.cell? (ad.add j)=some u:=by
   intro j u hj;rcases h1 with rfl|⟨b,off,hab,_,hcell⟩
   .simp[vtL]at hj
   .obtain rfl:ad=⟨b,off,none⟩:=by simpa using hab
    obtain⟨v,h2,h3⟩:=YN m j u hj;have hadd:(⟨b,off,none⟩:Addr).add j=⟨b,off+j,none⟩:=by unfold Addr.add;split<;>simp_all
    rw[hadd];have h4:=hcell (j/8) v h2 (j%8) u h3
    rwa [show off+8*(j/8)+j%8=off+j by omega]at h4
  obtain⟨v',w',hr,ho,hg,_⟩:=run_append_own (P:=P) w base t ty e i z 8 64 ht hi hz hsz hby hz8 (by decide) x l.length _ hown ad m.length cap (vtL m) (CG m) hcells (T9 m)
   (by unfold maxLen;omega) (by omega) hbase
  exact⟨v',w',hr,by rw[S7,G'];exact ho,hg⟩
theorem Bj(w:World){rest:List Oper}{o:Oper}(hgd:o.guard=none)(s x:Operand)(t:TypeId)(ho:o.op=.call { callee:=.builtin .append,args:=#[s,x],argTypes:=#[t,t] })(base e:Nat)(z:Value)(ht:P.underlying t=some (.slice e))(hinfo:(P.info? e).map (λi=>(i.zero,i.size,i.bytes))=some (some z,8,64))(hz8:z.cells.size=8)(v u:Value)(hs:a.eval s=v)(hx:a.eval x=u)(l m:List Vt)(hown:w.ownsRow base e 8 v l.length (vtL l))(hu:Sv w u m)(hlen:l.length+m.length<=2199023255552)(hbase:base<=w.heap.size)(h:∀ v' w',w'.ownsRow base e 8 v' (l++m).length (vtL (l++m))->w.grownBy w' v.ownBlock->wpList P ops Q rest (a.put o.dst v') w'):wpList P ops Q (o::rest) a w:=by
 refine wpList_plain hgd λK hK=>?_;obtain⟨v',w',hrun,r1,r2⟩:=Mv (P:=P) w base t o.type e z ht hinfo hz8 v l hown u m hu hlen hbase;unfold Oper.wp execOp;simp only[ho,resolve,invoke,builtin,Sem.run_bind,Sem.run_pure,Result.andThen_ok,kS,ji,jX,hs,hx,hrun];exact hK _ _ (h v' w' r1 r2)
theorem Sv.one(w:World)(v:Vt)(e:TypeId)(hg:g=w.heap.size):Sv (w.alloc (.cells (vtA v) e)) (.slice (some ⟨g,0,none⟩) 1 1) [v]:=by
 subst hg;refine⟨⟨_,1,rfl,A' _,by simp,.inr ⟨w.heap.size,0,rfl,by simp,λi u hi j x hj=>?_⟩⟩,by simp⟩;cases i with
 | zero =>
  simp at hi;subst hi;rw[cell_of_row _ _ (0+8*0+j) _ _ _ (heap_alloc_new w (.cells (vtA v) e))];simpa[vtA]using hj
 | succ i=>simp at hi
def zVt:Value:=.agg zV8
theorem Ep:(prog.info? 166).map (λi=>(i.zero,i.size,i.bytes))=some (some zVt,8,64):=by kernel_rfl
theorem IS(v:Vt):(prog.info? 166).map (·.size)=some (vtC v).length:=by show _=some 8;kernel_rfl
theorem QZ:prog.elem 103=166:=by kernel_rfl
theorem Sm(w:World):(Go.sizeOf 166).run prog w=.ok 8 w:=by
 obtain⟨i,hi,_,hsz,_⟩:=info_parts Ep;simp[sizeOf,typeInfo,hi,hsz]
theorem D7(b o n c:Nat)(i:Nat)(hi:i<n)(w:World):(Instr.indexAt 103 (.slice (some ⟨b,o,none⟩) n c) (.int .i64 (i:Int))).run prog w=.ok (.pointer (some ⟨b,o+8*i,none⟩)) w:=by
 rw[run_indexAt_slice (P:=prog) w 103 _ n c .i64 _ underlying103,if_pos ⟨by omega,by omega⟩,QZ,Sm];simp[Result.andThen,Addr.add_mid,Nat.mul_comm]
theorem As{l:List Oper}(h:wpList P ops Q l a w):wpList P ops Q l a w:=h
theorem DQ(l:List Vt)(k:Nat)(v:Vt)(h:l[k]?=some v):l.take (k+1)=l.take k++[v]:=by
 obtain⟨hk,e⟩:=Q'.1 h;rw[iW hk,e]
def acA(p:Bal)(x:Value):Array Value:=#[.int .i64 p.r,.int .i64 p.n,x]
theorem Kw:(prog.info? 102).map (·.size)=some 2:=by kernel_rfl
theorem GU(h:Below B w w'){cs:List Value}(hb:b<B)(hr:w.rangeAt b o cs):w'.rangeAt b o cs :=
 λj v hv=>(h.cell (p:=⟨b,o+j,none⟩) hb).trans (hr j v hv)
theorem Aj{a:World}(h:Below B a w)(hg:B<=g)(cs:Array Value):Below B a (w.setRow g cs) :=
 h.trans ⟨rfl,rfl,rfl,by simp,λk hk=>setRow_other w g k cs (by omega)⟩
theorem Sf{y:Value}(h0:w.cell? ⟨b,o,none⟩=some x)(h1:w.cell? ⟨b,o+1,none⟩=some y):w.rangeAt b o [x,y]:=by
 intro j v hj
 match j,hj with
 | 0,hj=>simp at hj;subst hj;exact h0
 | 1,hj=>simp at hj;subst hj;exact h1
 | k+2,hj=>simp at hj
theorem cz(hw:Region.wanted op (yielded ops a.tmps)=true)(x:Operand)(ho:op.op=.load 166 x)(g:Nat)(hx:a.eval x=.pointer (some ⟨g,0,none⟩))(v:Vt)(hS:∀ w,S w->w.heap[g]?=some (.cells (vtA v) 166)):YieldsIf prog ops S op (.agg (vtA v)) a :=
 .inl ⟨hw,λw hw'=>by
  unfold execOp;simp only[ho,hx,Instr.loadAt,Instr.sureAddr,Sem.run_bind,Sem.run_pure,Result.andThen_ok,run_loadVar_row w g 166 166 _ (0,0) _ (hS w hw') underlying166 rfl (show _=some (vtA v).size from IS v)]⟩
theorem aN(R:World->Prop){A:Act}(hreg:∀ K':Act->World->Prop,Hid (∀ W2,R W2->K' A W2)->(Code.region id ops true).wp P (Exit.then K' Q) a w)(hrest:∀ W2,R W2->K A W2):(Code.region id ops true).wp P (Exit.then K Q) a w:=hreg K hrest
theorem cx(hw:Region.wanted op (yielded ops a.tmps)=true)(x:Operand)(ho:op.op=.load 166 x)(b o:Nat)(hx:a.eval x=.pointer (some ⟨b,o,none⟩))(v:Vt)(hS:∀ w,S w->w.rangeAt b o (vtC v)):YieldsIf prog ops S op (.agg (vtA v)) a :=
 yieldsIf_load_mid hw 166 x ho b o hx (vtC v) _ hS underlying166 rfl (IS v)
theorem eV:(prog.info? 103).map (·.size)=some 1:=by kernel_rfl
theorem Jv{v:Tmp}(h:fn.results=#[.cell p ty,.tmp u,.tmp v])(tmps:Array Value)(w:World)(g:Nat)(t:TypeId)(cs:Array Value)(fr:Nat × Nat)(d:TypeDesc)(hp:tmps.getD p undef=.pointer (some ⟨g,0,none⟩))(hg:w.heap[g]?=some (.cells cs t fr))(hu:P.underlying ty=some d)(hd:(match d with|.struct _|.array _ _=>true|_=>false)=true)(hi:(P.info? ty).map (·.size)=some cs.size) :
  (results fn tmps).run P w=.ok (.tuple #[.agg cs,tmps.getD u undef,tmps.getD v undef]) w:=by
 have hp':tmps[p]?.getD undef=.pointer (some ⟨g,0,none⟩):=by simpa using hp
 simp[results,h,hp',asAddr,run_loadVar_row w g t ty cs fr d hg hu hd hi]
theorem PQ(w:World)(o1 o2 o3:Obj):(((w.alloc o1).alloc o2).alloc o3).heap[w.heap.size]?=some o1/\(((w.alloc o1).alloc o2).alloc o3).heap[w.heap.size+1]?=some o2/\(((w.alloc o1).alloc o2).alloc o3).heap[w.heap.size+2]?=some o3/\Bw w (((w.alloc o1).alloc o2).alloc o3):=by
 refine⟨?_,?_,?_,(((Below.refl _ _).alloc (A' _) _).alloc (by simp) _).alloc (by simp;omega) _⟩
 .rw[heap_alloc_old _ _ (by simp;omega)];exact heap_alloc2_old w o1 o2
 .rw[heap_alloc_old _ _ (by simp)];exact heap_alloc2_new w o1 o2
 .have:=heap_alloc_new ((w.alloc o1).alloc o2) o3;simpa using this
theorem EY{k8:Nat}{v:Value}{xs:List Value}(h:w.ownsRow base e k8 v n xs)(hk:∀ k,v.ownBlock=some k->w'.heap[k]?=w.heap[k]?):w'.ownsRow base e k8 v n xs:=by
 refine⟨h.1,?_⟩;rcases h.2 with h2|⟨g,cap,cur,hv,hb,hg,hr⟩
 .exact .inl h2
 .exact .inr ⟨g,cap,cur,hv,hb,(hk g (by rw[hv];rfl)).trans hg,hr⟩
theorem UL(R:Option Addr->Nat->Value->World->Prop){A:Option Addr->Nat->Value->Act}(hreg:∀ K':Act->World->Prop,Hid (∀ g c y W2,R g c y W2->K' (A g c y) W2)->(Code.region id ops true).wp P (Exit.then K' Q) a w)(hrest:∀ g c y W2,R g c y W2->K (A g c y) W2):(Code.region id ops true).wp P (Exit.then K Q) a w:=hreg K hrest
theorem fg(v:Vt):(prog.info? 166).map (·.size)=some (vtA v).size:=by show _=some 8;kernel_rfl
theorem FH(h:fn.results=#[.cell p ty,.tmp u])(tmps:Array Value)(w:World)(g:Nat)(t:TypeId)(cs:Array Value)(fr:Nat × Nat)(d:TypeDesc)(hp:tmps.getD p undef=.pointer (some ⟨g,0,none⟩))(hg:w.heap[g]?=some (.cells cs t fr))(hu:P.underlying ty=some d)(hd:(match d with|.struct _|.array _ _=>true|_=>false)=true)(hi:(P.info? ty).map (·.size)=some cs.size) :
  (results fn tmps).run P w=.ok (.tuple #[.agg cs,tmps.getD u undef]) w:=by
 have hp':tmps[p]?.getD undef=.pointer (some ⟨g,0,none⟩):=by simpa using hp
 simp[results,h,hp',asAddr,run_loadVar_row w g t ty cs fr d hg hu hd hi]
def cmC(c:Cmd):Array Value:=cmA c.k c.c c.s c.n c.v
theorem BV(p:Bal)(x:Value):(prog.info? 105).map (·.size)=some (acA p x).size:=by show _=some 3;kernel_rfl
theorem ZA(a b a' b':Int):∀ w,(binOp .eql 102 (.agg #[.int .i64 a,.int .i64 b]) (.agg #[.int .i64 a',.int .i64 b'])).run prog w=.ok (.bool (decide (a=a'/\b=b'))) w:=by
 intro w;rw[run_eql_struct,run_equalIn_agg w 9999 _ _ _ (by kernel_rfl) (by kernel_rfl)];unfold Program.fieldsOf;rw[underlying102];have h3:=underlying3;simp[Op.eqFields,go_sem,h3]
 repeat' split
 all_goals simp_all
theorem W8(a b c d e f g h a' b' c' d' e' f' g' h':Int):∀ w,(binOp .eql 166 (.agg #[.int .i64 a,.int .i64 b,.int .i64 c,.int .i64 d,.int .i64 e,.int .i64 f,.int .i64 g,.int .i64 h]) (.agg #[.int .i64 a',.int .i64 b',.int .i64 c',.int .i64 d',.int .i64 e',.int .i64 f',.int .i64 g',.int .i64 h'])).run prog w=.ok (.bool (decide (a=a'/\b=b'/\c=c'/\d=d'/\e=e'/\f=f'/\g=g'/\h=h'))) w:=by
 intro w;rw[run_eql_struct,run_equalIn_agg w 9999 _ _ _ (by kernel_rfl) (by kernel_rfl)];unfold Program.fieldsOf;rw[underlying166];have h3:=underlying3;have h4:=underlying102;have h5:=underlying25;simp[Op.eqFields,go_sem,h3,h4,h5]
 repeat' split
 all_goals simp_all
end
end
section
section
def KP(l:List Vt)(v:Vt):Nat->List Vt
 | 0=>[]
 | k+1=>KP l v k++(if(k:Int)=v.slot then[v]else Af l k)
variable{a b l:List Vt}{v:Vt}
theorem Qd(ha:BA a)(hb:BA b)(h:∀ x∈a,∀ y∈b,x.slot<y.slot):BA (a++b):=by
 induction a with
 | nil=>exact hb
 | cons x xs ih =>
  refine⟨λu hu=>?_,ih ha.2 (λy hy=>h y (P' _ hy))⟩;rcases V'.1 hu with hu|hu
  .exact ha.1 u hu
  .exact h x U' u hu
theorem J1(h:BA l)(q:Vt->Bool):BA (l.filter q):=by
 induction l with
 | nil=>trivial
 | cons x xs ih =>
  rw[List.filter_cons];split
  .exact⟨λu hu=>h.1 u (List.mem_filter.1 hu).1,ih h.2⟩
  .exact ih h.2
theorem Yb(ha:BA a)(hb:BA b)(h:∀ u,u∈a↔u∈b):a=b:=by
 induction a generalizing b with
 | nil =>
  cases b with
  | nil=>rfl
  | cons y ys=>exact absurd ((h y).2 U') (M')
 | cons x xs ih =>
  cases b with
  | nil=>exact absurd ((h x).1 U') (M')
  | cons y ys =>
   have hxy:x=y:=by
    rcases iX.1 ((h x).1 U')with e|e
    .exact e
    .rcases iX.1 ((h y).2 U')with e'|e'
     .exact e'.symm
     .have:=ha.1 y e';have:=hb.1 x e;omega
   subst hxy;rw[ih ha.2 hb.2 (λu=>?_)];constructor
   .intro hu;rcases iX.1 ((h u).1 (P' _ hu))with rfl|e
    .have:=ha.1 u hu;omega
    .exact e
   .intro hu;rcases iX.1 ((h u).2 (P' _ hu))with rfl|e
    .have:=hb.1 u hu;omega
    .exact e
theorem Pr(k:Nat)(u:Vt):u∈KP l v k↔(0<=u.slot/\u.slot<k)/\(u=v\/(u∈l/\u.slot≠v.slot)):=by
 induction k with
 | zero=>simp[KP];omega
 | succ k ih =>
  rw[KP,V',ih];by_cases hk:(k:Int)=v.slot
  .rw[if_pos hk,O'];constructor
   .rintro(⟨h1,h2⟩|rfl)
    .exact⟨by omega,h2⟩
    .exact⟨by omega,.inl rfl⟩
   .rintro⟨h1,rfl|⟨h2,h3⟩⟩
    .exact .inr rfl
    .exact .inl ⟨by omega,.inr ⟨h2,h3⟩⟩
  .rw[if_neg hk,BO];constructor
   .rintro(⟨h1,h2⟩|⟨h1,h2⟩)
    .exact⟨by omega,h2⟩
    .exact⟨by omega,.inr ⟨h1,by omega⟩⟩
   .rintro⟨h1,rfl|⟨h2,h3⟩⟩
    .exact .inl ⟨by omega,.inl rfl⟩
    .by_cases h4:u.slot=k
     .exact .inr ⟨h2,h4⟩
     .exact .inl ⟨by omega,.inr ⟨h2,h3⟩⟩
theorem II(h:BA l)(s:Int):(Af l s).length<=1:=by
 match e:Af l s with
 | []=>simp
 | [_]=>simp
 | x::y::r =>
  have hr:BA (Af l s):=J1 h _;have hx:=(BO.1 (show x∈Af l s by rw[e];simp)).2;have hy:=(BO.1 (show y∈Af l s by rw[e];simp)).2;rw[e]at hr
  have:=hr.1 y U';omega
theorem WO(v:Vt)(h:BA l)(k:Nat):(KP l v k).length<=k:=by
 induction k with
 | zero=>simp[KP]
 | succ k ih =>
  rw[KP,G'];have:=II h k;split
  .simp;omega
  .omega
theorem Uo(v:Vt)(h:BA l)(k:Nat):BA (KP l v k):=by
 induction k with
 | zero=>trivial
 | succ k ih =>
  rw[KP];refine Qd ih ?_ ?_
  .split
   .exact⟨λu hu=>(M' hu).elim,trivial⟩
   .exact J1 h _
  .intro x hx y hy;have h1:=((Pr k x).1 hx).1;split at hy
   .obtain rfl:y=v:=by simpa using hy
    omega
   .have:=(BO.1 hy).2;omega
theorem ZN(k:Nat)(h:BA l)(hl:∀ u∈l,0<=u.slot/\u.slot<k)(hv:0<=v.slot/\v.slot<k):KP l v k=Ba l v:=by
 refine Yb (Uo v h k) (IC v h) λu=>?_;rw[Pr,Cw h];constructor
 .exact λhh=>hh.2
 .rintro(rfl|⟨h1,h2⟩)
  .exact⟨hv,.inl rfl⟩
  .exact⟨hl u h1,.inr ⟨h1,h2⟩⟩
theorem Jt(l:List Vt)(u:Vt)(s:Int):Af (l++[u]) s=Af l s++(if u.slot=s then[u]else[]):=by
 unfold Af;rw[kG];by_cases h:u.slot=s<;>simp[h]
theorem Vu(ls:List (List Vt))(j:Nat)(l:List Vt)(h:ls[j]?=some l):(ls.take (j+1)).flatten=(ls.take j).flatten++l:=by
 obtain⟨hj,e⟩:=Q'.1 h;rw[iW hj,e];simp
theorem Dh(a b:List Vt)(s:Int):Af (a++b) s=Af a s++Af b s:=by unfold Af;rw[kG]
end
end
section
open Go.RowKit
section
structure Sac(w:World)(x:Value)(ac:List Acc):Prop where
 ex:∃ a cap,x=.slice a ac.length cap/\(ac=[]\/∃ b off,a=some ⟨b,off,none⟩/\b<w.heap.size/\∀ (i:Nat) (A:Acc),ac[i]?=some A->∃ y,w.rangeAt b (off+3*i) [.int .i64 A.p.r,.int .i64 A.p.n,y]/\Sv w y A.vs)
 len:ac.length<=3518437208780
variable{ac:List Acc}{s:Int}{w:World}{x:Value}
theorem Sac.below{w':World}(h:Sac w x ac)(hb:Bw w w'):Sac w' x ac:=by
 obtain⟨⟨a,cap,rfl,h1⟩,h2⟩:=h;refine⟨⟨a,cap,rfl,?_⟩,h2⟩;rcases h1 with h1|⟨b,off,ha,hbs,hc⟩
 .exact .inl h1
 .refine .inr ⟨b,off,ha,Z' hbs hb.size,λi A hi=>?_⟩;obtain⟨y,h3,h4⟩:=hc i A hi;exact⟨y,GU hb hbs h3,h4.below hb⟩
theorem Sac.shape(h:Sac w x ac):∃ a cap,x=.slice a ac.length cap:=by
 obtain⟨⟨a,cap,e,_⟩,_⟩:=h;exact⟨a,cap,e⟩
theorem Sac.spot{a:Option Addr}{n cap:Nat}(h:Sac w (.slice a n cap) ac)(i:Nat)(A:Acc)(hi:ac[i]?=some A):∃ b off y,a=some ⟨b,off,none⟩/\b<w.heap.size/\w.rangeAt b (off+3*i) [.int .i64 A.p.r,.int .i64 A.p.n,y]/\Sv w y A.vs:=by
 obtain⟨⟨a',cap',e,h1⟩,_⟩:=h;simp only[Value.slice.injEq]at e;obtain⟨rfl,rfl,rfl⟩:=e;rcases h1 with rfl|⟨b,off,rfl,hb,hc⟩
 .simp at hi
 .obtain⟨y,h3,h4⟩:=hc i A hi;exact⟨b,off,y,rfl,hb,h3,h4⟩
theorem dI:prog.elem 227=105:=by kernel_rfl
theorem eN(w:World):(Go.sizeOf 105).run prog w=.ok 3 w:=by
 have h:(prog.info? 105).map (·.size)=some 3:=by kernel_rfl
 cases hi:prog.info? 105 with
 | none=>rw[hi]at h;cases h
 | some i =>
  rw[hi]at h
  simp at h;simp[sizeOf,typeInfo,hi,h]
theorem Nq(b o n c:Nat)(i:Nat)(hi:i<n)(w:World):(Instr.indexAt 227 (.slice (some ⟨b,o,none⟩) n c) (.int .i64 (i:Int))).run prog w=.ok (.pointer (some ⟨b,o+3*i,none⟩)) w:=by
 rw[run_indexAt_slice (P:=prog) w 227 _ n c .i64 _ underlying227,if_pos ⟨by omega,by omega⟩,dI,eN];simp[Result.andThen,Addr.add_mid,Nat.mul_comm]
def En(ac:List Acc)(s:Int):List Vt:=Af (ac.map (·.vs)).flatten s
def CZ(ac:List Acc)(s:Int):Int:=if ¬ ((0<=s/\s<=39)/\(1<=(ac.length:Int)/\(ac.length:Int)<=5))then 2 else if ¬ ∀ a∈ac,An a then 5 else if(Hk (En ac s) ac.length).isSome then 0 else 9
def Cv(ac:List Acc)(s:Int):Cmd:=if CZ ac s=0 then((Hk (En ac s) ac.length).map (·.w)).getD ⟨0,0,0,0,0⟩else⟨0,0,0,0,0⟩
theorem I6(h:¬ ((0<=s/\s<=39)/\(1<=(ac.length:Int)/\(ac.length:Int)<=5))):Cv ac s=⟨0,0,0,0,0⟩/\CZ ac s=2:=by
 have e:CZ ac s=2:=if_pos h;exact⟨if_neg (by rw[e];decide),e⟩
theorem TV(h:(0<=s/\s<=39)/\(1<=(ac.length:Int)/\(ac.length:Int)<=5))(hb:¬ ∀ a∈ac,An a):Cv ac s=⟨0,0,0,0,0⟩/\CZ ac s=5:=by
 have e:CZ ac s=5:=by unfold CZ;rw[if_neg (λg=>g h),if_pos hb]
 exact⟨if_neg (by rw[e];decide),e⟩
theorem VZ(h:(0<=s/\s<=39)/\(1<=(ac.length:Int)/\(ac.length:Int)<=5))(hb:∀ a∈ac,An a)(ho:Hk (En ac s) ac.length=none):Cv ac s=⟨0,0,0,0,0⟩/\CZ ac s=9:=by
 have e:CZ ac s=9:=by unfold CZ;rw[if_neg (λg=>g h),if_neg (λg=>g hb),ho];rfl
 exact⟨if_neg (by rw[e];decide),e⟩
theorem Wa(h:(0<=s/\s<=39)/\(1<=(ac.length:Int)/\(ac.length:Int)<=5))(hb:∀ a∈ac,An a){x:Vt}(ho:Hk (En ac s) ac.length=some x):Cv ac s=x.w/\CZ ac s=0:=by
 have e:CZ ac s=0:=by unfold CZ;rw[if_neg (λg=>g h),if_neg (λg=>g hb),ho];rfl
 exact⟨by unfold Cv;rw[if_pos e,ho];rfl,e⟩
theorem d8{bs:List Acc}(h:∀ a∈bs,An a)(s:Int):(Af (bs.map (·.vs)).flatten s).length<=bs.length:=by
 induction bs with
 | nil=>simp[Af]
 | cons a bs ih =>
  have h1:=II (h a U').2.2 s;have h2:=ih (λb hb=>h b (P' _ hb));simp only[ji,List.flatten_cons,jo];rw[Dh,G'];omega
theorem Vs{j:Nat}{a:Acc}(h:ac[j]?=some a)(h1:∀ a∈ac.take j,An a)(h2:An a):∀ a∈ac.take (j+1),An a:=by
 obtain⟨hj,e⟩:=Q'.1 h;rw[iW hj,e];intro b hb;rcases V'.1 hb with g|g
 .exact h1 b g
 .obtain rfl:b=a:=by simpa using g
  exact h2
theorem Sy(ac:List Acc)(j:Nat)(a:Acc)(h:ac[j]?=some a):((ac.take (j+1)).map (·.vs)).flatten=((ac.take j).map (·.vs)).flatten++a.vs:=by
 obtain⟨hj,e⟩:=Q'.1 h;rw[iW hj,e];simp
end
end
section
end
section
open Go.RowKit
section
def baA(b:Bal):Array Value:=#[.int .i64 b.r,.int .i64 b.n]
variable{fr:Nat × Nat}{g:Nat}{l:List Vt}{ls:List (List Vt)}{p:Bal}{s:Int}{ty:TypeId}{w:World}
theorem D4{b:Bal}(h:w.heap[g]?=some (.cells (baA b) ty fr)) :
  w.cell? ⟨g,0,none⟩=some (.int .i64 b.r)/\w.cell? ⟨g,1,none⟩=some (.int .i64 b.n) :=
 ⟨cell_of_row _ _ 0 _ _ _ h,cell_of_row _ _ 1 _ _ _ h⟩
theorem IY{v:Vt}(h:w.heap[g]?=some (.cells (vtA v) ty fr)) :
  w.cell? ⟨g,0,none⟩=some (.int .i64 v.slot)/\w.cell? ⟨g,1,none⟩=some (.int .i64 v.b.r)/\w.cell? ⟨g,2,none⟩=some (.int .i64 v.b.n)/\w.cell? ⟨g,3,none⟩=some (.int .i64 v.w.k)/\w.cell? ⟨g,4,none⟩=some (.int .i64 v.w.c)/\w.cell? ⟨g,5,none⟩=some (.int .i64 v.w.s)/\w.cell? ⟨g,6,none⟩=some (.int .i64 v.w.n)/\w.cell? ⟨g,7,none⟩=some (.int .i64 v.w.v) :=
 ⟨cell_of_row _ _ 0 _ _ _ h,cell_of_row _ _ 1 _ _ _ h,cell_of_row _ _ 2 _ _ _ h,cell_of_row _ _ 3 _ _ _ h,cell_of_row _ _ 4 _ _ _ h,cell_of_row _ _ 5 _ _ _ h,cell_of_row _ _ 6 _ _ _ h,cell_of_row _ _ 7 _ _ _ h⟩
def OkV(p:Bal)(l:List Vt):Prop:=(∀ v∈l,Ak v/\¬ p.lt v.b)/\BA l
theorem Vb(l:List Vt)(v:Vt):BA (l++[v])↔BA l/\∀ u∈l,u.slot<v.slot:=by
 induction l with
 | nil=>exact⟨λ_=>⟨trivial,λu hu=>(M' hu).elim⟩,λ_=>⟨λu hu=>(M' hu).elim,trivial⟩⟩
 | cons x xs ih =>
  show((∀ u∈xs++[v],x.slot<u.slot)/\BA (xs++[v]))↔((∀ u∈xs,x.slot<u.slot)/\BA xs)/\∀ u∈x::xs,u.slot<v.slot;rw[ih];constructor
  .rintro⟨h1,h2,h3⟩;refine⟨⟨λu hu=>h1 u (jl _ hu),h2⟩,λu hu=>?_⟩;rcases iX.1 hu with rfl|hu
   .exact h1 v (jx _ U')
   .exact h3 u hu
  .rintro⟨⟨h1,h2⟩,h3⟩;refine⟨λu hu=>?_,h2,λu hu=>h3 u (P' _ hu)⟩;rcases V'.1 hu with hu|hu
   .exact h1 u hu
   .obtain rfl:u=v:=by simpa using hu
    exact h3 x U'
theorem OkV.snoc(h:OkV p l)(v:Vt):OkV p (l++[v])↔Ak v/\¬ p.lt v.b/\∀ u∈l,u.slot<v.slot:=by
 unfold OkV;rw[Vb];constructor
 .rintro⟨h1,h2,h3⟩;exact⟨(h1 v (by simp)).1,(h1 v (by simp)).2,h3⟩
 .rintro⟨h1,h2,h3⟩;refine⟨λu hu=>?_,h.2,h3⟩;rcases V'.1 hu with hu|hu
  .exact h.1 u hu
  .obtain rfl:u=v:=by simpa using hu
   exact⟨h1,h2⟩
theorem OkV.left{m:List Vt}(h:OkV p (l++m)):OkV p l:=by
 refine⟨λv hv=>h.1 v (jl _ hv),?_⟩;have h2:=h.2;clear h;induction l with
 | nil=>trivial
 | cons x xs ih=>exact⟨λu hu=>h2.1 u (jl _ hu),ih h2.2⟩
def Fv(a:Acc)(b:Bal):Bal:=if BQ a b=0 then b else⟨0,0⟩
def Fu(a:Acc)(b:Bal):List Vt:=if BQ a b=0 then a.vs else[]
def BR(a:Acc)(v:Vt):Bal:=if AQ a v=0 then v.b else⟨0,0⟩
def Ca(a:Acc)(v:Vt):List Vt:=if AQ a v=0 then Ba a.vs v else[]
def G7(ls:List (List Vt))(s:Int):Cmd:=if C1 ls s=0 then((Jw ls s).map (·.w)).getD ⟨0,0,0,0,0⟩else⟨0,0,0,0,0⟩
def Fr(ls:List (List Vt))(s:Int):Bool:=if C1 ls s=0 then(Jw ls s).isSome else false
theorem XQ(h:¬ (0<=s/\s<=39)):G7 ls s=⟨0,0,0,0,0⟩/\Fr ls s=false/\C1 ls s=2:=by
 have e:C1 ls s=2:=if_pos h;exact⟨if_neg (by rw[e];decide),if_neg (by rw[e];decide),e⟩
theorem RW(h:0<=s/\s<=39)(hb:¬ ∀ l∈ls,∀ v∈l,Ak v):G7 ls s=⟨0,0,0,0,0⟩/\Fr ls s=false/\C1 ls s=5:=by
 have e:C1 ls s=5:=by unfold C1;rw[if_neg (λg=>g h),if_neg hb]
 exact⟨if_neg (by rw[e];decide),if_neg (by rw[e];decide),e⟩
theorem YA{j:Nat}(h:ls[j]?=some l)(h1:∀ l∈ls.take j,∀ v∈l,Ak v)(h2:∀ v∈l,Ak v):∀ l∈ls.take (j+1),∀ v∈l,Ak v:=by
 obtain⟨hj,e⟩:=Q'.1 h;rw[iW hj,e];intro l' hl';rcases V'.1 hl' with g|g
 .exact h1 l' g
 .obtain rfl:l'=l:=by simpa using g
  exact h2
theorem YB{k:Nat}{u:Vt}(h:l[k]?=some u)(h1:∀ v∈l.take k,Ak v)(h2:Ak u):∀ v∈l.take (k+1),Ak v:=by
 rw[DQ l k u h];intro v hv;rcases V'.1 hv with g|g
 .exact h1 v g
 .obtain rfl:v=u:=by simpa using g
  exact h2
end
end
end Go.Proofs.YtalbmmghmoggcadGreatDoor
