/- Part 14 of the walk: what the functions of the program do, one by one. -/
import Derived.Test.YtakgfdbjgeopdaaGreatDoorZ11
import Derived.Test.YtakgfdbjgeopdaaGreatDoorZ13
set_option maxRecDepth 100000
set_option maxHeartbeats 4000000
open Go.Proofs.Tryz
set_option linter.unusedVariables false
namespace Go.Proofs.YtakgfdbjgeopdaaGreatDoor
open Go.RowKit
structure NX where
 tape:S3
 votes:S3
 synced:S3
 queue:S3
 agreed:S3
 wants:S3
 hv:Nat→S3
 asked:Option Nat
def Ao(i ob:Nat)(p:Nod)(x:NX):Array Value:=([iv (i:Int),.bool p.up,S3.v x.tape,iv p.sy,iv (p.bad:Int),pt ob 0,iv p.vo.p.r,iv p.vo.p.n,S3.v x.votes,S3.v x.synced,iv p.rounds,iv p.rnd.bal.r,iv p.rnd.bal.n,.bool (p.rnd.pro 0),.bool (p.rnd.pro 1),.bool (p.rnd.pro 2),.bool (p.rnd.pro 3),.bool (p.rnd.pro 4),iv ((p.rnd.heard 0).p.r),iv ((p.rnd.heard 0).p.n),S3.v (x.hv 0),iv ((p.rnd.heard 1).p.r),iv ((p.rnd.heard 1).p.n),S3.v (x.hv 1),iv ((p.rnd.heard 2).p.r),iv ((p.rnd.heard 2).p.n),S3.v (x.hv 2),iv ((p.rnd.heard 3).p.r),iv ((p.rnd.heard 3).p.n),S3.v (x.hv 3),iv ((p.rnd.heard 4).p.r),iv ((p.rnd.heard 4).p.n),S3.v (x.hv 4),iv (p.rnd.taught 0:Int),iv (p.rnd.taught 1:Int),iv (p.rnd.taught 2:Int),iv (p.rnd.taught 3:Int),iv (p.rnd.taught 4:Int),iv (p.rnd.next:Int),S3.v x.queue,S3.v x.agreed,iv (p.done:Int)]++((stA p.sto).toList++[S3.v x.wants,.map x.asked])).toArray
def Ek(l:Let)(vs wh:S3):Array Value:=#[iv (l.kind:Int),iv (l.src:Int),iv (l.dst:Int),iv l.bal.r,iv l.bal.n,iv l.vote.slot,iv l.vote.b.r,iv l.vote.b.n,iv l.vote.w.k,iv l.vote.w.c,iv l.vote.w.s,iv l.vote.w.n,iv l.vote.w.v,S3.v vs,iv (l.slot:Int),S3.v wh]
def Kd(t:Tol):List Value:=[iv (t.n:Int),iv t.c,iv t.s,iv t.e,iv t.a]
def cmV(c:Cmd):List Value:=[iv c.k,iv c.c,iv c.s,iv c.n,iv c.v]
def cmL(l:List Cmd):List Value:=l.flatMap cmV
theorem BJ(l m:List Cmd):cmL (l++m)=cmL l++cmL m:=by simp[cmL]
theorem Bi(l:List Cmd):(cmL l).length=l.length*5:=by
 induction l with
 | nil=>rfl
 | cons c l ih=>rw[cmL,List.flatMap_cons,List.length_append];show 5+(cmL l).length=_;rw[ih,List.length_cons];omega
theorem Ef(l:List Cmd):∀ u∈cmL l,u.oneCell'=true:=by
 intro u hu;obtain⟨c,_,hc⟩:=List.mem_flatMap.1 hu;simp only[cmV,List.mem_cons,List.not_mem_nil,or_false]at hc;rcases hc with rfl|rfl|rfl|rfl|rfl<;>rfl
theorem LX{l:List Cmd}{k:Nat}{c:Cmd}(h:l[k]?=some c){j:Nat}{u:Value}(hj:(cmV c)[j]?=some u):(cmL l)[5*k+j]?=some u:=by
 induction l generalizing k with
 | nil=>cases h
 | cons d l ih =>
  rw[cmL,List.flatMap_cons];cases k with
  | zero =>
   simp only[List.getElem?_cons_zero,Option.some.injEq]at h;subst h;rw[List.getElem?_append_left (by have:=(List.getElem?_eq_some_iff.1 hj).1;omega)];simpa using hj
  | succ k =>
   rw[List.getElem?_append_right (by show 5≤_;omega),show 5*(k+1)+j-(cmV d).length=5*k+j by show 5*(k+1)+j-5=_;omega];exact ih (by simpa using h)
theorem Jl(l:List Cmd)(k:Nat):(cmL l).drop (5*k)=cmL (l.drop k):=by
 induction l generalizing k with
 | nil=>simp[cmL]
 | cons c l ih =>
  cases k with
  | zero=>simp
  | succ k =>
   show(cmV c++cmL l).drop (5*(k+1))=cmL (l.drop k);rw[← ih k,List.drop_append,show(cmV c).drop (5*(k+1))=[]from List.drop_eq_nil_of_le (by show 5≤_;omega),List.nil_append,show 5*(k+1)-(cmV c).length=5*k by show 5*(k+1)-5=_;omega]
def Frz(g:Gh)(x:S3):Prop:=∀ a,x.a=some a→g.t a.block=.z
structure FSl(g:Gh)(w:World)(x:S3)(l:List Int):Prop where
 s:Sl w x.v l
 z:l≠[]→Frz g x
structure FSv(g:Gh)(w:World)(x:S3)(l:List Vt):Prop where
 s:Sv w x.v l
 z:l≠[]→Frz g x
section
variable{B:Nat}{T:List Tg}{g g':Gh}{w w':World}
theorem Cg.zc(c:Cg B T g w g' w')(hz:Tg.z∉T){b:Nat}(hb:b<w.heap.size)(ht:g.t b=.z):w'.heap[b]?=w.heap[b]?:=c.same b hb (by rw[ht];exact hz) (fun h=>by rw[ht]at h;cases h)
theorem FSl.ch{x:S3}{l:List Int}(h:FSl g w x l)(c:Cg B T g w g' w')(hz:Tg.z∉T):FSl g' w' x l:=by
 obtain⟨⟨⟨a,cap,hv,hc,hn,h1⟩,h2,h3⟩,h4⟩:=h;simp only[Value.slice.injEq]at hv;obtain⟨rfl,hxn,rfl⟩:=hv;rcases h1 with h1|⟨b,off,ha,hbs,hcell⟩
 ·exact⟨⟨⟨_,_,by simp only[Value.slice.injEq,and_true,true_and];exact hxn,hc,hn,.inl h1⟩,h2,h3⟩,fun h=>absurd h1 h⟩
 ·have hne:∀ _:l≠[],g.t b=.z:=fun h=>h4 h _ ha;by_cases hl:l=[]
  ·exact⟨⟨⟨_,_,by simp only[Value.slice.injEq,and_true,true_and];exact hxn,hc,hn,.inl hl⟩,h2,h3⟩,fun h=>absurd hl h⟩
  ·refine⟨⟨⟨_,_,by simp only[Value.slice.injEq,and_true,true_and];exact hxn,hc,hn,.inr ⟨b,off,ha,Nat.lt_of_lt_of_le hbs c.size,fun i hi=>?_⟩⟩,h2,h3⟩,fun _ a' ha'=>?_⟩
   ·rw[World.cell?_of_block (w:=w) (c.zc hz hbs (hne hl))];exact hcell i hi
   ·rw[ha]at ha';simp only[Option.some.injEq]at ha';subst ha';rw[c.tag hbs (fun h=>absurd ((hne hl).symm.trans h) (by simp))];exact hne hl
theorem FSv.ch{x:S3}{l:List Vt}(h:FSv g w x l)(c:Cg B T g w g' w')(hz:Tg.z∉T):FSv g' w' x l:=by
 obtain⟨⟨⟨a,cap,hv,hc,hn,h1⟩,h2⟩,h4⟩:=h;simp only[Value.slice.injEq]at hv;obtain⟨rfl,hxn,rfl⟩:=hv;rcases h1 with h1|⟨b,off,ha,hbs,hcell⟩
 ·exact⟨⟨⟨_,_,by simp only[Value.slice.injEq,and_true,true_and];exact hxn,hc,hn,.inl h1⟩,h2⟩,fun h=>absurd h1 h⟩
 ·by_cases hl:l=[]
  ·exact⟨⟨⟨_,_,by simp only[Value.slice.injEq,and_true,true_and];exact hxn,hc,hn,.inl hl⟩,h2⟩,fun h=>absurd hl h⟩
  ·have hzb:g.t b=.z:=h4 hl _ ha;refine⟨⟨⟨_,_,by simp only[Value.slice.injEq,and_true,true_and];exact hxn,hc,hn,.inr ⟨b,off,ha,Nat.lt_of_lt_of_le hbs c.size,fun i v hi j u hj=>?_⟩⟩,h2⟩,fun _ a' ha'=>?_⟩
   ·rw[World.cell?_of_block (w:=w) (c.zc hz hbs hzb)];exact hcell i v hi j u hj
   ·rw[ha]at ha';simp only[Option.some.injEq]at ha';subst ha';rw[c.tag hbs (fun h=>absurd (hzb.symm.trans h) (by simp))];exact hzb
structure Rc(g:Gh)(w:World)(x:S3)(l:List Cmd):Prop where
 len:x.n=l.length
 cap:x.n≤x.c
 nul:x.a=none→x.c=0
 ex:l=[]∨∃ b off,x.a=some ⟨b,off,none⟩∧b<w.heap.size∧(∀ j u,(cmL l)[j]?=some u→w.cell? ⟨b,off+j,none⟩=some u)∧(g.t b=.z∨off+5*l.length≤g.k b)
theorem Rc.nil(g:Gh)(w:World):Rc g w s30 []:=⟨rfl,Nat.le_refl _,fun _=>rfl,.inl rfl⟩
theorem Rc.ch{x:S3}{l:List Cmd}(h:Rc g w x l)(c:Cg B T g w g' w')(hz:Tg.z∉T):Rc g' w' x l:=by
 refine⟨h.len,h.cap,h.nul,?_⟩;rcases h.ex with h1|⟨b,off,h1,h2,h3,h4⟩
 ·exact .inl h1
 ·refine .inr ⟨b,off,h1,Nat.lt_of_lt_of_le h2 c.size,fun j u hj=>?_,?_⟩
  ·rcases h4 with h4|h4
   ·rw[World.cell?_of_block (w:=w) (c.zc hz h2 h4)];exact h3 j u hj
   ·have hjl:j<(cmL l).length:=(List.getElem?_eq_some_iff.1 hj).1;rw[Bi]at hjl
    rw[c.pref b h2 (off+j) (by omega)];exact h3 j u hj
  ·rcases h4 with h4|h4
   ·exact .inl ((c.tag h2 (by rw[h4];intro h;cases h)).trans h4)
   ·exact .inr (Nat.le_trans h4 (c.kap b h2))
structure Box(g:Gh)(w:World)(b:Nat)(cs:Array Value)(t:TypeId):Prop where
 r:w.heap[b]?=some (.cells cs t)
 z:g.t b=.z
theorem Box.ch{b:Nat}{cs:Array Value}{t:TypeId}(h:Box g w b cs t)(c:Cg B T g w g' w')(hz:Tg.z∉T):Box g' w' b cs t:=⟨(c.zc hz (rl h.r) h.z).trans h.r,(c.tag (rl h.r) (by rw[h.z];intro h;cases h)).trans h.z⟩
def BW(g:Gh)(w:World)(b:Nat)(l:Let):Prop:=∃ vs wh,Box g w b (Ek l vs wh) 177∧FSv g w vs l.votes∧Rc g w wh l.what
theorem BW.ch{b:Nat}{l:Let}(h:BW g w b l)(c:Cg B T g w g' w')(hz:Tg.z∉T):BW g' w' b l:=let ⟨vs,wh,h1,h2,h3⟩:=h;⟨vs,wh,h1.ch c hz,h2.ch c hz,h3.ch c hz⟩
def Ja(g:Gh)(w:World)(nb:Nat)(v:Value):Pend→Prop
 | .began b vs=>∃ b1 b2 b3 x,v=.func (.func 115) #[] #[pt b1 0,pt b2 0,pt b3 0]∧Box g w b1 #[pt nb 0] 107∧Box g w b2 #[iv b.r,iv b.n] 112∧Box g w b3 #[S3.v x] 113∧FSv g w x vs
 | .prom to b vs=>∃ b1 b2 b3 x lb l,v=.func (.func 148) #[] #[pt b1 0,pt b2 0,pt b3 0]∧Box g w b1 #[pt nb 0] 107∧Box g w b2 #[pt lb 0] 178∧Box g w b3 #[S3.v x] 113∧FSv g w x vs∧BW g w lb l∧l.src=to∧l.bal=b
 | .voted to u=>∃ b1 b2 lb l,v=.func (.func 154) #[] #[pt b1 0,pt b2 0]∧Box g w b1 #[pt nb 0] 107∧Box g w b2 #[pt lb 0] 178∧BW g w lb l∧l.src=to∧l.vote=u
 | .refuse to b=>∃ b1 b2 b3,v=.func (.func 200) #[] #[pt b1 0,pt b2 0,pt b3 0]∧Box g w b1 #[pt nb 0] 107∧Box g w b2 #[iv (to:Int)] 3∧Box g w b3 #[iv b.r,iv b.n] 112
 | .prop u=>∃ b1 b2,v=.func (.func 169) #[] #[pt b1 0,pt b2 0]∧Box g w b1 #[pt nb 0] 107∧Box g w b2 (vtA u) 175
 | .askNews to=>∃ b1 b2 lb l,v=.func (.func 156) #[] #[pt b1 0,pt b2 0]∧Box g w b1 #[pt nb 0] 107∧Box g w b2 #[pt lb 0] 178∧BW g w lb l∧l.src=to
 | .start=>∃ b1,v=.func (.func 128) #[] #[pt b1 0]∧Box g w b1 #[pt nb 0] 107
 | .tell to slot=>∃ b1 b2 lb l,v=.func (.func 158) #[] #[pt b1 0,pt b2 0]∧Box g w b1 #[pt nb 0] 107∧Box g w b2 #[pt lb 0] 178∧BW g w lb l∧l.src=to∧l.slot=slot
theorem Ja.ch{nb:Nat}{v:Value}{q:Pend}(h:Ja g w nb v q)(c:Cg B T g w g' w')(hz:Tg.z∉T):Ja g' w' nb v q:=by
 cases q with
 | began b vs=>obtain⟨b1,b2,b3,x,e,h1,h2,h3,h4⟩:=h;exact⟨b1,b2,b3,x,e,h1.ch c hz,h2.ch c hz,h3.ch c hz,h4.ch c hz⟩
 | prom to b vs=>obtain⟨b1,b2,b3,x,lb,l,e,h1,h2,h3,h4,h5,h6⟩:=h;exact⟨b1,b2,b3,x,lb,l,e,h1.ch c hz,h2.ch c hz,h3.ch c hz,h4.ch c hz,h5.ch c hz,h6⟩
 | voted to u=>obtain⟨b1,b2,lb,l,e,h1,h2,h3,h4⟩:=h;exact⟨b1,b2,lb,l,e,h1.ch c hz,h2.ch c hz,h3.ch c hz,h4⟩
 | refuse to b=>obtain⟨b1,b2,b3,e,h1,h2,h3⟩:=h;exact⟨b1,b2,b3,e,h1.ch c hz,h2.ch c hz,h3.ch c hz⟩
 | prop u=>obtain⟨b1,b2,e,h1,h2⟩:=h;exact⟨b1,b2,e,h1.ch c hz,h2.ch c hz⟩
 | askNews to=>obtain⟨b1,b2,lb,l,e,h1,h2,h3,h4⟩:=h;exact⟨b1,b2,lb,l,e,h1.ch c hz,h2.ch c hz,h3.ch c hz,h4⟩
 | start=>obtain⟨b1,e,h1⟩:=h;exact⟨b1,e,h1.ch c hz⟩
 | tell to slot=>obtain⟨b1,b2,lb,l,e,h1,h2,h3,h4⟩:=h;exact⟨b1,b2,lb,l,e,h1.ch c hz,h2.ch c hz,h3.ch c hz,h4⟩
def mkA(x:Cmd × Bal × Nat):MapEntry:={ key:=.agg (cmV x.1).toArray,val:=.agg #[iv x.2.1.r,iv x.2.1.n],born:=x.2.2 }
structure AskAt(g:Gh)(w:World)(τ:Tg)(b:Nat)(f:Cmd→Option Bal):Prop where
 t:g.t b=τ
 k:g.k b=0
 ex:∃ (es:List (Cmd × Bal × Nat)) (clock:Nat),w.heap[b]?=some (.map (es.map mkA).toArray clock)∧(∀ x∈es,x.2.2<clock)∧(es.map (·.2.2)).Nodup∧(es.map (·.1)).Nodup∧∀ c,f c=(es.find? fun x=>decide (c=x.1)).map (·.2.1)
def SS(g:Gh)(w:World)(i:Nat)(f:Cmd→Option Bal):Option Nat→Prop
 | some b=>AskAt g w (.n 5 i) b f
 | none=>f=fun _=>none
structure Pends(g:Gh)(w:World)(nb:Nat)(vs:List Value)(l:List Pend):Prop where
 len:vs.length=l.length
 at_:∀ (k:Nat) (v:Value) (q:Pend),vs[k]?=some v→l[k]?=some q→Ja g w nb v q
structure NodeAt(g:Gh)(w:World)(i nb ob:Nat)(x:NX)(p:Nod):Prop where
 row:w.heap[nb]?=some (.cells (Ao i ob p x) 134)
 tag:g.t nb=.n 0 i
 kap:g.k nb=0
 tape:FSl g w x.tape p.d
 votes:FSv g w x.votes p.vo.vs
 heard:∀ j,j<5→FSv g w (x.hv j) (p.rnd.heard j).vs
 pend:∃ vs,OwnS g w (.n 1 i) true 1 1 x.synced vs∧Pends g w nb vs p.pend
 queue:OwnS g w (.n 2 i) false 25 5 x.queue (cmL p.rnd.queue)
 agreed:OwnS g w (.n 3 i) true 25 5 x.agreed (cmL p.agreed)
 wants:OwnS g w (.n 4 i) false 25 5 x.wants (cmL p.wants)
 asked:SS g w i p.asked x.asked
 upm:p.up=true→∃ b,x.asked=some b
structure Lets(g:Gh)(w:World)(bs:List Nat)(l:List Let):Prop where
 len:bs.length=l.length
 at_:∀ (k b:Nat) (m:Let),bs[k]?=some b→l[k]?=some m→BW g w b m
structure OutAt(g:Gh)(w:World)(ob:Nat)(lt tl:S3)(ls:List Let)(ts:List Tol):Prop where
 row:w.heap[ob]?=some (.cells #[lt.v,tl.v] 104)
 tag:g.t ob=.n 50 0
 kap:g.k ob=0
 lets:∃ bs,OwnS g w (.n 51 0) false 178 1 lt (bs.map (pt · 0))∧Lets g w bs ls
 told:OwnS g w (.n 52 0) false 140 5 tl (ts.flatMap Kd)
theorem Pends.ch{nb:Nat}{vs:List Value}{l:List Pend}(h:Pends g w nb vs l)(c:Cg B T g w g' w')(hz:Tg.z∉T):Pends g' w' nb vs l:=⟨h.len,fun k v q h1 h2=>(h.at_ k v q h1 h2).ch c hz⟩
theorem Lets.ch{bs:List Nat}{l:List Let}(h:Lets g w bs l)(c:Cg B T g w g' w')(hz:Tg.z∉T):Lets g' w' bs l:=⟨h.len,fun k v q h1 h2=>(h.at_ k v q h1 h2).ch c hz⟩
theorem Lets.snoc{bs:List Nat}{l:List Let}{b:Nat}{m:Let}(h:Lets g w bs l)(hm:BW g w b m):Lets g w (bs++[b]) (l++[m]):=by
 refine⟨by simp[h.len],fun k c q h1 h2=>?_⟩;by_cases hk:k<bs.length
 ·rw[List.getElem?_append_left hk]at h1
  rw[List.getElem?_append_left (by rw[← h.len];exact hk)]at h2
  exact h.at_ k c q h1 h2
 ·rw[List.getElem?_append_right (by omega)]at h1
  rw[List.getElem?_append_right (by rw[← h.len];omega),← h.len]at h2
  cases hx:k-bs.length with
  | zero=>rw[hx]at h1 h2;simp at h1 h2;subst h1 h2;exact hm
  | succ n=>rw[hx]at h1;simp at h1
theorem Cg.rc(c:Cg B T g w g' w'){b:Nat}{o:Obj}{r i:Nat}(h:w.heap[b]?=some o)(ht:g.t b=.n r i)(hn:Tg.n r i∉T):w'.heap[b]?=some o∧g'.t b=.n r i∧g'.k b=g.k b :=
 ⟨(c.same b (rl h) (by rw[ht];exact hn) (fun h=>by rw[ht]at h;cases h)).trans h,(c.tag (rl h) (by rw[ht];intro h;cases h)).trans ht,c.kat b (rl h) (by rw[ht];exact hn) (by rw[ht];intro h;cases h)⟩
theorem AskAt.ch{r i b:Nat}{f:Cmd→Option Bal}(h:AskAt g w (.n r i) b f)(c:Cg B T g w g' w')(hn:Tg.n r i∉T):AskAt g' w' (.n r i) b f:=by
 obtain⟨h1,h2,es,k,h3,h4⟩:=h;have h5:=c.rc h3 h1 hn;exact⟨h5.2.1,h5.2.2.trans h2,es,k,h5.1,h4⟩
theorem SS.ch{i:Nat}{a:Option Nat}{f:Cmd→Option Bal}(h:SS g w i f a)(c:Cg B T g w g' w')(hn:Tg.n 5 i∉T):SS g' w' i f a:=by
 cases a with
 | none=>exact h
 | some b=>exact AskAt.ch h c hn
theorem NodeAt.ch{i nb ob:Nat}{x:NX}{p:Nod}(h:NodeAt g w i nb ob x p)(c:Cg B T g w g' w')(hz:Tg.z∉T)(hn:∀ r,r<6→Tg.n r i∉T):NodeAt g' w' i nb ob x p:=by
 have h1:=c.rc h.row h.tag (hn 0 (by omega));obtain⟨vs,h2,h3⟩:=h.pend;exact⟨h1.1,h1.2.1,h1.2.2.trans h.kap,h.tape.ch c hz,h.votes.ch c hz,fun j hj=>(h.heard j hj).ch c hz,⟨vs,h2.ch c (hn 1 (by omega)) (by simp),h3.ch c hz⟩,h.queue.ch c (hn 2 (by omega)) (by simp),h.agreed.ch c (hn 3 (by omega)) (by simp),h.wants.ch c (hn 4 (by omega)) (by simp),h.asked.ch c (hn 5 (by omega)),h.upm⟩
theorem OutAt.ch{ob:Nat}{lt tl:S3}{ls:List Let}{ts:List Tol}(h:OutAt g w ob lt tl ls ts)(c:Cg B T g w g' w')(hz:Tg.z∉T)(hn:∀ r,50≤r→Tg.n r 0∉T):OutAt g' w' ob lt tl ls ts:=by
 have h1:=c.rc h.row h.tag (hn 50 (by omega));obtain⟨bs,h2,h3⟩:=h.lets;exact⟨h1.1,h1.2.1,h1.2.2.trans h.kap,⟨bs,h2.ch c (hn 51 (by omega)) (by simp),h3.ch c hz⟩,h.told.ch c (hn 52 (by omega)) (by simp)⟩
end
def TN(i:Nat):List Tg:=[.n 0 i,.n 1 i,.n 2 i,.n 3 i,.n 4 i,.n 5 i,.n 50 0,.n 51 0,.n 52 0,.n 60 0]
theorem AV(i:Nat):Tg.z∉TN i:=by simp[TN]
def NS(i nb ob:Nat)(g:Gh)(w:World)(p:Nod)(ls:List Let)(ts:List Tol):Prop:=∃ x lt tl,NodeAt g w i nb ob x p∧OutAt g w ob lt tl ls ts∧Hc g w
def NP(i nb ob:Nat)(g:Gh)(w:World)(v:Value)(p:Nod)(ls:List Let)(ts:List Tol):Ending→World→Prop:=fun e w'=>∃ g',e=.returned v∧NS i nb ob g' w' p ls ts∧Cg w.heap.size (TN i) g w g' w'
theorem NS.new{i nb ob:Nat}{g:Gh}{w:World}{p:Nod}{ls:List Let}{ts:List Tol}(h:NS i nb ob g w p ls ts):Hc g w:=let ⟨_,_,_,_,_,h⟩:=h;h
theorem NS.below{i nb ob:Nat}{g:Gh}{w w':World}{p:Nod}{ls:List Let}{ts:List Tol}(h:NS i nb ob g w p ls ts)(b:Below w.heap.size w w'):NS i nb ob g w' p ls ts :=
 let ⟨x,lt,tl,h1,h2,h3⟩:=h
 have c:=Cg.ofBelow (B:=0) (T:=[]) (g:=g) b
 ⟨x,lt,tl,h1.ch c (by simp) (by simp),h2.ch c (by simp) (by simp),fun k hk=>h3 k (Nat.le_trans b.size hk)⟩
theorem NS.ch0{i nb ob:Nat}{B:Nat}{g g':Gh}{w w':World}{p:Nod}{ls:List Let}{ts:List Tol}(h:NS i nb ob g w p ls ts)(c:Cg B [] g w g' w')(hn:Hc g' w'):NS i nb ob g' w' p ls ts :=
 let ⟨x,lt,tl,h1,h2,_⟩:=h
 ⟨x,lt,tl,h1.ch c (by simp) (by simp),h2.ch c (by simp) (by simp),hn⟩
theorem NodeAt.askSome{g:Gh}{w:World}{i nb ob b:Nat}{x:NX}{p:Nod}(h:NodeAt g w i nb ob x p)(hx:x.asked=some b):AskAt g w (.n 5 i) b p.asked:=by have:=h.asked;rw[hx]at this;exact this
theorem B2{B:Nat}{T:List Tg}{g g':Gh}{w w':World}{i nb:Nat}{x:S3}{l:List Pend}(h:∃ vs,OwnS g w (.n 1 i) true 1 1 x vs∧Pends g w nb vs l)(c:Cg B T g w g' w')(hz:Tg.z∉T)(hn:Tg.n 1 i∉T):∃ vs,OwnS g' w' (.n 1 i) true 1 1 x vs∧Pends g' w' nb vs l :=
 let ⟨vs,h1,h2⟩:=h
 ⟨vs,h1.ch c hn (by simp),h2.ch c hz⟩
theorem CW{B:Nat}{T:List Tg}{g g':Gh}{w w':World}{x:S3}{l:List Let}(h:∃ bs:List Nat,OwnS g w (.n 51 0) false 178 1 x (bs.map (pt · 0))∧Lets g w bs l)(c:Cg B T g w g' w')(hz:Tg.z∉T)(hn:Tg.n 51 0∉T):∃ bs:List Nat,OwnS g' w' (.n 51 0) false 178 1 x (bs.map (pt · 0))∧Lets g' w' bs l :=
 let ⟨bs,h1,h2⟩:=h
 ⟨bs,h1.ch c hn (by simp),h2.ch c hz⟩
theorem AZ{B:Nat}{T:List Tg}{g g':Gh}{w w':World}{hv:Nat→S3}{f:Nat→Acc}(h:∀ j,j<5→FSv g w (hv j) (f j).vs)(c:Cg B T g w g' w')(hz:Tg.z∉T):∀ j,j<5→FSv g' w' (hv j) (f j).vs:=fun j hj=>(h j hj).ch c hz
theorem Pends.snoc{g:Gh}{w:World}{nb:Nat}{vs:List Value}{l:List Pend}{v:Value}{q:Pend}(h:Pends g w nb vs l)(hm:Ja g w nb v q):Pends g w nb (vs++[v]) (l++[q]):=by
 refine⟨by simp[h.len],fun k c m h1 h2=>?_⟩;by_cases hk:k<vs.length
 ·rw[List.getElem?_append_left hk]at h1
  rw[List.getElem?_append_left (by rw[← h.len];exact hk)]at h2
  exact h.at_ k c m h1 h2
 ·rw[List.getElem?_append_right (by omega)]at h1
  rw[List.getElem?_append_right (by rw[← h.len];omega),← h.len]at h2
  cases hx:k-vs.length with
  | zero=>rw[hx]at h1 h2;simp at h1 h2;subst h1 h2;exact hm
  | succ n=>rw[hx]at h1;simp at h1
theorem OwnS.num{g:Gh}{w:World}{τ:Tg}{kp:Bool}{e:TypeId}{x:S3}{l:List Cmd}(h:OwnS g w τ kp e 5 x (cmL l)):x.n=l.length:=by have:=h.len;rw[Bi]at this;omega
theorem OwnS.rc{g:Gh}{w:World}{τ:Tg}{e:TypeId}{x:S3}{l:List Cmd}(h:OwnS g w τ true e 5 x (cmL l)):Rc g w x l:=by
 have hn:=h.num;rcases h.ex with⟨h1,h2,h3⟩|⟨b,cur,h1,h2,h3,h4,h5,h6,h7,h8⟩
 ·exact⟨hn,by omega,fun _=>h3,.inl (List.eq_nil_of_length_eq_zero (by omega))⟩
 ·refine⟨hn,h3,fun h=>(by rw[h1]at h;cases h),.inr ⟨b,0,h1,rl h2,fun j u hj=>?_,.inr ?_⟩⟩
  ·obtain⟨b',hb',_,hc⟩:=h.cell hj;rw[h1]at hb'
   simp only[Option.some.injEq,Addr.mk.injEq,and_true]at hb';subst hb';rw[Nat.zero_add];exact hc
  ·rw[h8,Bi];simp;omega
theorem NTab.value1{w:World}(h:NTab w):w.cell? ⟨0,1*3+2,none⟩=some (.int .i64 1073741824):=h.cell 5 (by omega)
theorem NTab.value{w:World}(h:NTab w)(k:Nat)(h0:1≤k)(h1:k≤3):w.cell? ⟨0,k*3+2,none⟩=some (.int .i64 (if k=1 then 1073741824 else 0)):=by
 rcases(by omega:k=1∨k=2∨k=3)with rfl|rfl|rfl
 ·exact h.cell 5 (by omega)
 ·exact h.cell 8 (by omega)
 ·exact h.cell 11 (by omega)
theorem Dp(k c s n v:Int)(w:World)(ht:NTab w) :
  Calls prog 44 #[.agg (cmA k c s n v)] w fun e w'=>e=.returned (.int .i64 (Ba k c s n v))∧Below w.heap.size w w':=by
 have bb:Below w.heap.size w (w.alloc (.cells (cmA k c s n v) 25)):=(Below.refl _ _).alloc (Nat.le_refl _) _;have bc:=Bc.made w k c s n v;have hT:=ht.below bb;have hi:=Fp k c s n v;generalize hW:w.alloc (.cells (cmA k c s n v) 25)=W at bb bc hT;have hW':w.alloc (.cells #[.int .i64 k,.int .i64 c,.int .i64 s,.int .i64 n,.int .i64 v] 25)=W:=hW;obtain⟨c0,c1,c2,c3,c4⟩:=DR bc.row;clear ht;go_enter func44,ntmps44
 go_wp2_with fail
 clear hW hW';refine(Pq k _).mono ?_;rintro e w1 ⟨rfl,rfl⟩;by_cases h1:0≤k∧k≤3
 ·rw[decide_eq_true h1];by_cases h2:k=0
  ·subst h2;go_wp2_with (refine wpList_load_row rfl 25 _ rfl w.heap.size rfl 25 _ (0,0) _ bc.row underlying25 rfl hi ?_)
   refine(U6 c s n v _).mono ?_;rintro e w2 ⟨rfl,b2⟩;have d2:Below w.heap.size w w2:=bb.trans (b2.mono bb.size);go_wp2
   go_ret;exact⟨rfl,d2⟩
  ·obtain⟨m,rfl⟩:=Int.eq_ofNat_of_zero_le h1.1;have hk:1≤(m:Int)∧(m:Int)≤3:=by omega
   go_wp2_with (refine wpList_load_row rfl 25 _ rfl w.heap.size rfl 25 _ (0,0) _ bc.row underlying25 rfl hi ?_)
   refine(Mg (m:Int) c s n v _ hk hT).mono ?_;rintro e w2 ⟨rfl,b2⟩;have d2:Below w.heap.size w w2:=bb.trans (b2.mono bb.size);have bc2:=bc.below b2;have hT2:=hT.below b2;clear c0 c1 c2 c3 c4 bc hT b2 bb;by_cases h3:InC c s n v
   ·rw[decide_eq_true h3];obtain⟨c0,c1,c2,c3,c4⟩:=DR bc2.row;have hV:=hT2.value m (by omega) (by omega);have k0:(0:Int)≤(m:Int):=by omega
    have k1:(m:Int)<4:=by omega
    have k2:m<4:=by omega
    clear bc2 hT2 h1 h2;by_cases h4:v≤(if m=1 then 1073741824 else 0)
    ·have HE:Hid (0=Ba (m:Int) c s n v):=by
      refine(VW hk h3 ?_).symm;unfold InC at h3;split at h4<;>omega
     clear h3 hk;generalize (if m=1 then(1073741824:Int)else 0)=V at hV h4;go_wp2_with fail
     go_quiet (fail)
     have e1:Below w.heap.size w (w2.drewN nq):=Ag d2 nq;generalize w2.drewN nq=w3 at e1 ⊢;go_wp2
     go_ret;exact⟨AC HE.out,e1⟩
    ·have HE:Hid (3=Ba (m:Int) c s n v):=by
      unfold InC at h3;refine(Rr ⟨?_,by omega⟩ (by unfold InC;omega) ?_).symm
      ·split at h4<;>omega
      ·split at h4<;>omega
     clear h3 hk;generalize (if m=1 then(1073741824:Int)else 0)=V at hV h4;go_wp2_with fail
     go_quiet (fail)
     have e1:Below w.heap.size w (w2.drewN nq):=Ag d2 nq;generalize w2.drewN nq=w3 at e1 ⊢;go_wp2
     go_ret;exact⟨AC HE.out,e1⟩
   ·rw[decide_eq_false h3];have HE:Hid (2=Ba (m:Int) c s n v):=(OS hk h3).symm;clear h3;go_wp2
    go_ret;exact⟨AC HE.out,d2⟩
 ·rw[decide_eq_false h1];have HE:Hid (4=Ba k c s n v):=(Rt h1).symm;go_wp2
  go_ret;exact⟨AC HE.out,bb⟩
theorem FS(s:Int)(w:World) :
  Calls prog 231 #[.int .i64 s] w fun e w'=>e=.returned (.bool (decide (0≤s∧s≤39)))∧w'=w:=by
 by_cases h0:0≤s
 ·by_cases h1:s<40
  ·rw[decide_eq_true ⟨h0,by omega⟩];go_enter func231,ntmps231
   go_wp2
   go_ret;exact⟨Ab (by simp),rfl⟩
  ·rw[decide_eq_false (by omega)];go_enter func231,ntmps231
   go_wp2
   go_ret;exact⟨Ab (by simp),rfl⟩
 ·rw[decide_eq_false (by omega)];go_enter func231,ntmps231
  go_wp2
  go_ret;exact⟨Ab (by simp),rfl⟩
theorem J8(b:Bal)(w:World) :
  Calls prog 207 #[.agg (baA b)] w fun e w'=>e=.returned (.bool (decide (Af b)))∧Below w.heap.size w w':=by
 obtain⟨r,n⟩:=b;have bb:Below w.heap.size w (w.alloc (.cells (baA ⟨r,n⟩) 112)):=(Below.refl _ _).alloc (Nat.le_refl _) _;have rr:=heap_alloc_new w (.cells (baA ⟨r,n⟩) 112);generalize hW:w.alloc (.cells (baA ⟨r,n⟩) 112)=W at bb rr;have c0:W.cell? ⟨w.heap.size,0,none⟩=some (.int .i64 r):=(Db rr).1;have c1:W.cell? ⟨w.heap.size,1,none⟩=some (.int .i64 n):=(Db rr).2;clear rr;by_cases h1:1≤r
 ·by_cases h2:r≤65536
  ·by_cases h3:0≤n
   ·by_cases h4:n<5
    ·have HB:Hid (true=decide (Af ⟨r,n⟩)):=(decide_eq_true (by simp only[Af];omega)).symm;go_enter func207,ntmps207
     go_wp2
     go_ret;exact⟨Ab HB.out,bb⟩
    ·have HB:Hid (false=decide (Af ⟨r,n⟩)):=(decide_eq_false (by simp only[Af];omega)).symm;go_enter func207,ntmps207
     go_wp2
     go_ret;exact⟨Ab HB.out,bb⟩
   ·have HB:Hid (false=decide (Af ⟨r,n⟩)):=(decide_eq_false (by simp only[Af];omega)).symm;go_enter func207,ntmps207
    go_wp2
    go_ret;exact⟨Ab HB.out,bb⟩
  ·have HB:Hid (false=decide (Af ⟨r,n⟩)):=(decide_eq_false (by simp only[Af];omega)).symm;go_enter func207,ntmps207
   go_wp2
   go_ret;exact⟨Ab HB.out,bb⟩
 ·have HB:Hid (false=decide (Af ⟨r,n⟩)):=(decide_eq_false (by simp only[Af];omega)).symm;go_enter func207,ntmps207
  go_wp2
  go_ret;exact⟨Ab HB.out,bb⟩
theorem Di(a b:Bal)(w:World) :
  Calls prog 208 #[.agg (baA a),.agg (baA b)] w fun e w'=>e=.returned (.bool (decide (a.lt b)))∧Below w.heap.size w w':=by
 obtain⟨r,n⟩:=a;obtain⟨q,m⟩:=b;have b1:Below w.heap.size w (w.alloc (.cells (baA ⟨r,n⟩) 112)):=(Below.refl _ _).alloc (Nat.le_refl _) _;have r1:=heap_alloc_new w (.cells (baA ⟨r,n⟩) 112);have z1:(w.alloc (.cells (baA ⟨r,n⟩) 112)).heap.size=w.heap.size+1:=by simp
 have b2:Below (w.heap.size+1) (w.alloc (.cells (baA ⟨r,n⟩) 112)) ((w.alloc (.cells (baA ⟨r,n⟩) 112)).alloc (.cells (baA ⟨q,m⟩) 112)):=(Below.refl _ _).alloc (by omega) _;have r2:=heap_alloc_new (w.alloc (.cells (baA ⟨r,n⟩) 112)) (.cells (baA ⟨q,m⟩) 112);rw[z1]at r2
 replace r1:=(b2.block w.heap.size (by omega)).trans r1;have bb:=b1.trans (b2.mono (Nat.le_succ _));clear b1 b2 z1;generalize hW:(w.alloc (.cells (baA ⟨r,n⟩) 112)).alloc (.cells (baA ⟨q,m⟩) 112)=W at bb r1 r2;have c0:W.cell? ⟨w.heap.size,0,none⟩=some (.int .i64 r):=(Db r1).1;have c1:W.cell? ⟨w.heap.size,1,none⟩=some (.int .i64 n):=(Db r1).2;have e0:W.cell? ⟨w.heap.size+1,0,none⟩=some (.int .i64 q):=(Db r2).1;have e1:W.cell? ⟨w.heap.size+1,1,none⟩=some (.int .i64 m):=(Db r2).2;clear r1 r2;by_cases h2:r=q
 ·subst h2;have HB:Hid (decide (n<m)=decide (Bal.lt ⟨r,n⟩ ⟨r,m⟩)):=decide_eq_decide.2 (by unfold Bal.lt;simp);go_enter func208,ntmps208
  go_wp2
  go_ret;exact⟨Ab HB.out,bb⟩
 ·have HB:Hid (decide (r<q)=decide (Bal.lt ⟨r,n⟩ ⟨q,m⟩)):=decide_eq_decide.2 (by unfold Bal.lt;simp[h2]);go_enter func208,ntmps208
  go_wp2
  go_ret;exact⟨Ab HB.out,bb⟩
theorem G4(v:Vt)(w:World)(ht:NTab w) :
  Calls prog 213 #[.agg (vtA v)] w fun e w'=>e=.returned (.bool (decide (Ah v)))∧Below w.heap.size w w':=by
 obtain⟨s,⟨r,n⟩,⟨k,c,q,m,x⟩⟩:=v;have bb:Below w.heap.size w (w.alloc (.cells (vtA ⟨s,⟨r,n⟩,⟨k,c,q,m,x⟩⟩) 175)):=(Below.refl _ _).alloc (Nat.le_refl _) _;have rr:=heap_alloc_new w (.cells (vtA ⟨s,⟨r,n⟩,⟨k,c,q,m,x⟩⟩) 175);have hT:=ht.below bb;clear ht;generalize hW:w.alloc (.cells (vtA ⟨s,⟨r,n⟩,⟨k,c,q,m,x⟩⟩) 175)=W at bb rr hT;have lt:=(Array.getElem?_eq_some_iff.1 rr).1;have HC:Hid (∀ w',Below W.heap.size W w'→_):=fun w' hb=>Ie ((hb.block _ lt).trans rr);obtain⟨c0,c1,c2,c3,c4,c5,c6,c7⟩:=Ie rr;clear rr;go_enter func213,ntmps213
 go_wp2_with fail
 clear hW;refine(FS s _).mono ?_;rintro e w1 ⟨rfl,rfl⟩;by_cases h1:0≤s∧s≤39
 ·rw[decide_eq_true h1];go_wp2_with fail
  refine(J8 ⟨r,n⟩ _).mono ?_;rintro e w2 ⟨rfl,b2⟩;have d2:=bb.trans (b2.mono bb.size);have hT2:=hT.below b2;obtain⟨c0,c1,c2,c3,c4,c5,c6,c7⟩:=HC.out w2 b2;by_cases h2:Af ⟨r,n⟩
  ·rw[decide_eq_true h2];go_wp2_with fail
   refine(Dp k c q m x _ hT2).mono ?_;rintro e w3 ⟨rfl,b3⟩;have d3:=d2.trans (b3.mono d2.size);by_cases h3:Ba k c q m x=0
   ·have HB:Hid (true=decide (Ah ⟨s,⟨r,n⟩,⟨k,c,q,m,x⟩⟩)):=(decide_eq_true ⟨h1,h2,h3⟩).symm;rw[h3];clear c0 c1 c2 c3 c4 c5 c6 c7 h3;go_wp2
    go_ret;exact⟨Ab HB.out,d3⟩
   ·have HB:Hid (false=decide (Ah ⟨s,⟨r,n⟩,⟨k,c,q,m,x⟩⟩)):=(decide_eq_false (fun g=>h3 g.2.2)).symm;generalize Ba k c q m x=E at h3 ⊢;go_wp2
    go_ret;exact⟨by rw[← HB.out];simp[h3],d3⟩
  ·rw[decide_eq_false h2];have HB:Hid (false=decide (Ah ⟨s,⟨r,n⟩,⟨k,c,q,m,x⟩⟩)):=(decide_eq_false (fun g=>h2 g.2.1)).symm;go_wp2
   go_ret;exact⟨Ab HB.out,d2⟩
 ·rw[decide_eq_false h1];have HB:Hid (false=decide (Ah ⟨s,⟨r,n⟩,⟨k,c,q,m,x⟩⟩)):=(decide_eq_false (fun g=>h1 g.1)).symm;go_wp2
  go_ret;exact⟨Ab HB.out,bb⟩
end Go.Proofs.YtakgfdbjgeopdaaGreatDoor
