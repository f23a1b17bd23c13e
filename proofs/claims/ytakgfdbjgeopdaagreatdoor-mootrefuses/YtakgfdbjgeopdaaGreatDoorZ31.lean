/- Part 31 of the walk: what the functions of the program do, one by one. -/
import Derived.Test.YtakgfdbjgeopdaaGreatDoorZ30
import Derived.Test.YtakgfdbjgeopdaaGreatDoorZ25
set_option maxRecDepth 100000
set_option maxHeartbeats 4000000
open Go.Proofs.Tryz
set_option linter.unusedVariables false
namespace Go.Proofs.YtakgfdbjgeopdaaGreatDoor
def Br(l:List Vt):Prop:=B4 l∧∀ v∈l,0≤v.slot∧v.slot≤39
theorem UV(l:List Vt)(a:Int)(h:B4 l)(hb:∀ v∈l,a≤v.slot∧v.slot≤39):l.length≤(40-a).toNat:=by
 induction l generalizing a with
 | nil=>exact Nat.zero_le _
 | cons u l ih =>
  obtain⟨h1,h2⟩:=h;have hu:=hb u List.mem_cons_self;have:=ih (u.slot+1) h2 fun v hv=>⟨by have:=h1 v hv;omega,(hb v (List.mem_cons_of_mem _ hv)).2⟩;rw[List.length_cons];omega
theorem Br.len{l:List Vt}(h:Br l):l.length≤40:=UV l 0 h.1 h.2
theorem Br.nil:Br []:=⟨trivial,fun v h=>by cases h⟩
theorem DY{a:Acc}{v:Vt}(h:AW a v=0):AE a∧Ah v∧¬ v.b.lt a.p:=by
 unfold AW at h;by_cases h1:AE a
 ·rw[if_neg (fun g=>g h1)]at h
  by_cases h2:Ah v
  ·rw[if_neg (fun g=>g h2)]at h
   by_cases h3:v.b.lt a.p
   ·rw[if_pos h3]at h;cases h
   ·exact⟨h1,h2,h3⟩
  ·rw[if_pos h2]at h;cases h
 ·rw[if_pos h1]at h;cases h
theorem Lu{a:Acc}{b:Bal}(h:BN a b=0):AE a∧Af b∧¬ b.lt a.p:=by
 unfold BN at h;by_cases h1:AE a
 ·rw[if_neg (fun g=>g h1)]at h
  by_cases h2:Af b
  ·rw[if_neg (fun g=>g h2)]at h
   by_cases h3:b.lt a.p
   ·rw[if_pos h3]at h;cases h
   ·exact⟨h1,h2,h3⟩
  ·rw[if_pos h2]at h;cases h
 ·rw[if_pos h1]at h;cases h
theorem EO{l:List Vt}{v:Vt}(h:Br l)(hv:Ah v):Br (Bo l v) :=
 ⟨Lg v h.1,fun u hu=>by
  rcases(J1 h.1).1 hu with rfl|⟨h2,_⟩
  ·exact hv.1
  ·exact h.2 u h2⟩
theorem RE(a:Acc)(l:List Vt)(h:Br a.vs):Br (Is a l).vs:=by
 induction l generalizing a with
 | nil=>exact h
 | cons v l ih =>
  rw[Is];refine ih _ ?_;by_cases hv:AW a v=0
  ·rw[if_pos hv];show Br (CO a v);rw[(Qn hv).2];exact EO h (DY hv).2.1
  ·rw[if_neg hv];exact h
def POk(k:Nat):Pend→Prop
 | .began b vs=>Br vs
 | .prom to b vs=>to<5∧Bq b∧Br vs
 | .voted to v=>to<5
 | .refuse to b=>to<5∧Bq b
 | .prop v=>True
 | .askNews to=>to<5
 | .start=>True
 | .tell to slot=>to<5∧slot≤k
theorem POk.mono{k m:Nat}{q:Pend}(h:POk k q)(hk:k≤m):POk m q:=by
 cases q<;>first|exact h|exact⟨h.1,Nat.le_trans h.2 hk⟩
def Pend.wt:Pend→Nat
 | .began _ _=>4
 | .prop _=>4
 | .start=>4
 | _=>1
def Au:List Pend→Nat
 | []=>0
 | q::l=>q.wt+Au l
theorem Eu(l:List Pend)(q:Pend):Au (l++[q])=Au l+q.wt:=by
 induction l with
 | nil=>simp[Au]
 | cons x l ih=>simp only[List.cons_append,Au,ih];omega
theorem Dc(l:List Pend):l.length≤Au l:=by
 induction l with
 | nil=>exact Nat.le_refl _
 | cons x l ih =>
  rw[Au,List.length_cons];have:1≤x.wt:=by cases x<;>simp[Pend.wt]
  omega
structure NOk(n:Nat)(p:Nod):Prop where
 ag:p.agreed.length≤40
 dn:p.done≤p.agreed.length
 qu:p.rnd.queue.length≤40
 wa:p.wants.length≤n
 ask:∀ c,(p.asked c).isSome=true→c∈p.wants
 ro:0≤p.rounds∧p.rounds≤65536
 vp:Bq p.vo.p
 vs:Br p.vo.vs
 he:∀ j,Br (p.rnd.heard j).vs
 pe:∀ q∈p.pend,POk p.agreed.length q
structure LOk(l:Let):Prop where
 kd:l.kind<7
 src:l.src<5
 dst:l.dst<5
 bal:Bq l.bal
 vs:Br l.votes
 wh:l.what.length≤40
 sl:l.kind=5→l.slot+l.what.length≤40
theorem Bq.b0:Bq Co:=.inr ⟨rfl,rfl⟩
theorem Bq.rng{b:Bal}(h:Bq b):0≤b.r∧b.r≤65536∧0≤b.n∧b.n≤4:=by
 rcases h with⟨h1,h2⟩|⟨h1,h2⟩<;>omega
section
variable{n:Nat}{p:Nod}
theorem NOk.wait(h:NOk n p){q:Pend}(hq:POk p.agreed.length q):NOk n (p.wait q) :=
 { h with pe:=fun r hr=>(List.mem_append.1 hr).elim (h.pe r) fun h1=>(List.mem_singleton.1 h1)▸hq }
theorem NOk.promise(h:NOk n p)(b:Bal):NOk n (p.promise b).1∧(p.promise b).1.pend=p.pend∧(p.promise b).1.agreed=p.agreed∧Br (p.promise b).2.1∧((p.promise b).2.2=0→Af b):=by
 unfold Nod.promise;by_cases h1:BN p.vo b≠0
 ·rw[if_pos h1];exact⟨h,rfl,rfl,Br.nil,fun g=>absurd g h1⟩
 ·rw[if_neg h1];have h2:=Lu (Decidable.byContradiction h1);by_cases h3:b=p.vo.p
  ·rw[if_pos h3];exact⟨{ h with vp:=.inl h2.2.1,vs:=h.vs },rfl,rfl,h.vs,fun _=>h2.2.1⟩
  ·rw[if_neg h3];by_cases h4:BH p.d p.sy (Af b) (Bb b)≠0
   ·rw[if_pos h4];exact⟨h,rfl,rfl,Br.nil,fun g=>absurd g h4⟩
   ·rw[if_neg h4];exact⟨{ h with vp:=.inl h2.2.1,vs:=h.vs },rfl,rfl,h.vs,fun _=>h2.2.1⟩
theorem NOk.vote(h:NOk n p)(v:Vt):NOk n (p.vote v).1∧(p.vote v).1.pend=p.pend∧(p.vote v).1.agreed=p.agreed∧(p.vote v).1.rnd=p.rnd:=by
 unfold Nod.vote;by_cases h1:AW p.vo v≠0
 ·rw[if_pos h1];exact⟨h,rfl,rfl,rfl⟩
 ·rw[if_neg h1];have h2:=DY (Decidable.byContradiction h1);by_cases h3:v∈p.vo.vs
  ·rw[if_pos h3];exact⟨{ h with vp:=.inl h2.2.1.2.1,vs:=EO h.vs h2.2.1 },rfl,rfl,rfl⟩
  ·rw[if_neg h3];by_cases h4:BH p.d p.sy (Ah v) (Be v)≠0
   ·rw[if_pos h4];exact⟨h,rfl,rfl,rfl⟩
   ·rw[if_neg h4];exact⟨{ h with vp:=.inl h2.2.1.2.1,vs:=EO h.vs h2.2.1 },rfl,rfl,rfl⟩
theorem NOk.refuse(h:NOk n p){to:Nat}(hto:to<5)(e:Int):NOk n (p.refuse to e)∧(p.refuse to e).agreed=p.agreed∧Au (p.refuse to e).pend≤Au p.pend+1:=by
 unfold Nod.refuse;split
 ·exact⟨h.wait ⟨hto,h.vp⟩,rfl,by show Au (p.pend++[_])≤_;rw[Eu];exact Nat.le_refl _⟩
 ·exact⟨h,rfl,Nat.le_succ _⟩
theorem WE(k:Nat)(r:Rnd)(l:List Cmd)(h:l.length≤40):(Mk k r l).length≤40∧l.length≤(Mk k r l).length:=by
 induction k generalizing l with
 | zero=>exact⟨h,Nat.le_refl _⟩
 | succ k ih =>
  rw[Mk];split
  ·rename_i h1
   have h2:=Ts h1;have:=ih (l++[Cp r.accs (l.length:Int)]) (by simp;omega);simp at this;exact⟨this.1,by omega⟩
  ·exact⟨h,Nat.le_refl _⟩
theorem NOk.grow(h:NOk n p){l:List Cmd}(h1:l.length≤40)(h2:p.agreed.length≤l.length):NOk n { p with agreed:=l } :=
 { h with ag:=h1,dn:=Nat.le_trans h.dn h2,pe:=fun q hq=>(h.pe q hq).mono h2 }
theorem NOk.learnC(h:NOk n p):NOk n p.learnC∧p.learnC.pend=p.pend∧p.agreed.length≤p.learnC.agreed.length :=
 have:=WE 41 p.rnd p.agreed h.ag
 ⟨h.grow this.1 this.2,rfl,this.2⟩
theorem NOk.learn(h:NOk n p){slot:Nat}{what:List Cmd}(h1:slot≤p.agreed.length)(h2:slot+what.length≤40):NOk n (p.learn slot what)∧(p.learn slot what).pend=p.pend∧p.agreed.length≤(p.learn slot what).agreed.length:=by
 have ha:=h.ag;refine⟨h.grow ?_ ?_,rfl,?_⟩
 ·rw[List.length_append,List.length_drop];omega
 ·rw[List.length_append];omega
 ·show _≤(p.agreed++_).length;rw[List.length_append];omega
theorem V4{α:Type}{f:Nat→α}{P:α→Prop}(h:∀ j,P (f j))(i:Nat){x:α}(hx:P x):∀ j,P (upN f i x j):=by
 intro j;unfold upN;split
 ·exact hx
 ·exact h j
theorem NOk.hear(h:NOk n p)(j:Nat){vs:List Vt}(hv:Br vs):NOk n { p with rnd:=p.rnd.hear j vs } :=
 { h with qu:=h.qu,he:=V4 (P:=fun a:Acc=>Br a.vs) h.he j (RE _ _ hv) }
theorem NOk.count(h:NOk n p)(j:Nat)(v:Vt):NOk n (p.count j v)∧(p.count j v).pend=p.pend∧p.agreed.length≤(p.count j v).agreed.length:=by
 unfold Nod.count;by_cases h1:v.b≠p.rnd.bal
 ·rw[if_pos h1];exact⟨h,rfl,Nat.le_refl _⟩
 ·rw[if_neg h1];by_cases h2:AW (p.rnd.heard j) v≠0
  ·rw[if_pos h2];exact⟨h,rfl,Nat.le_refl _⟩
  ·rw[if_neg h2];have h3:=Decidable.byContradiction h2;have:NOk n { p with rnd:={ p.rnd with heard:=upN p.rnd.heard j ⟨BT (p.rnd.heard j) v,CO (p.rnd.heard j) v⟩ } } :=
    { h with qu:=h.qu,he:=V4 (P:=fun a:Acc=>Br a.vs) h.he j (by show Br (CO _ v);rw[(Qn h3).2];exact EO (h.he j) (DY h3).2.1) }
   exact this.learnC
theorem NOk.enqueue(h:NOk n p)(l:List Cmd):NOk n (p.enqueue l)∧(p.enqueue l).pend=p.pend∧(p.enqueue l).agreed=p.agreed:=by
 unfold Nod.enqueue;split
 ·exact⟨{ h with qu:=Wg _ _ h.qu,he:=h.he },rfl,rfl⟩
 ·exact⟨h,rfl,rfl⟩
theorem NOk.take(h:NOk n p){l:Let}(hl:LOk l):NOk n (p.take l)∧Au (p.take l).pend≤Au p.pend+1∧p.agreed.length≤(p.take l).agreed.length:=by
 have ha:=h.ag;unfold Nod.take;have hw:∀ {P:Nod} {q:Pend},P.pend=p.pend→q.wt=1→Au (P.wait q).pend≤Au p.pend+1:=fun{P q} e e2=>by
  show Au (P.pend++[q])≤_;rw[Eu,e,e2];exact Nat.le_refl _
 split
 ·have hp:=h.promise l.bal;split
  ·have:=h.refuse hl.src (p.promise l.bal).2.2;exact⟨this.1,this.2.2,by rw[this.2.1];exact Nat.le_refl _⟩
  ·rename_i h1
   exact⟨hp.1.wait ⟨hl.src,.inl (hp.2.2.2.2 (Decidable.byContradiction h1)),hp.2.2.2.1⟩,hw hp.2.1 rfl,by show _≤(p.promise l.bal).1.agreed.length;rw[hp.2.2.1];exact Nat.le_refl _⟩
 ·have hk:=h.learn (slot:=0) (what:=l.what) (Nat.zero_le _) (by have:=hl.wh;omega);simp only;split
  ·exact⟨hk.1,by rw[hk.2.1];omega,hk.2.2⟩
  ·have h2:=hk.1.hear l.src (vs:=l.votes) hl.vs;have h3:NOk n { p.learn 0 l.what with rnd:={ (p.learn 0 l.what).rnd.hear l.src l.votes with taught:=upN (p.learn 0 l.what).rnd.taught l.src l.what.length } }:={ h2 with qu:=h2.qu,he:=h2.he };have h4:=h3.learnC;exact⟨h4.1,by rw[h4.2.1];show Au (p.learn 0 l.what).pend≤_;rw[hk.2.1];omega,Nat.le_trans hk.2.2 h4.2.2⟩
 ·have hr:=h.ro;have hb:=hl.bal.rng;exact⟨{ h with ro:=by show 0≤max p.rounds l.bal.r∧max p.rounds l.bal.r≤65536;omega },Nat.le_succ _,Nat.le_refl _⟩
 ·have hp:=h.vote l.vote;split
  ·have:=h.refuse hl.src (p.vote l.vote).2;exact⟨this.1,this.2.2,by rw[this.2.1];exact Nat.le_refl _⟩
  ·exact⟨hp.1.wait hl.src,hw hp.2.1 rfl,by show _≤(p.vote l.vote).1.agreed.length;rw[hp.2.2.1];exact Nat.le_refl _⟩
 ·have:=h.count l.src l.vote;exact⟨this.1,by rw[this.2.1];omega,this.2.2⟩
 ·rename_i hk
  split
  ·exact⟨h.wait hl.src,hw rfl rfl,Nat.le_refl _⟩
  ·have:=h.learn (slot:=l.slot) (what:=l.what) (by omega) (hl.sl hk);exact⟨this.1,by rw[this.2.1];omega,this.2.2⟩
 ·have he:=h.enqueue l.what;simp only;split
  ·rename_i h1
   exact⟨he.1.wait ⟨hl.src,Nat.le_of_lt h1⟩,hw he.2.1 rfl,by show _≤(p.enqueue l.what).agreed.length;rw[he.2.2];exact Nat.le_refl _⟩
  ·exact⟨he.1,by rw[he.2.1];omega,by rw[he.2.2];exact Nat.le_refl _⟩
 ·exact⟨h,Nat.le_succ _,Nat.le_refl _⟩
end
end Go.Proofs.YtakgfdbjgeopdaaGreatDoor
namespace Go.Proofs.YtakgfdbjgeopdaaGreatDoor
open Go.RowKit
def EM(l:List Int)(n:Nat):List Int:=l++List.replicate (n-l.length) 0
def Gz(l:List Int):List Int:=if 64<l.length then dig l else l
def fk(l:List Int):List Int:=EM (Gz l) 64
def AU(k:List Int)(m:Int):List Int:=k.map fun x=>bits .xor .u8 x m
def EQ(key b:List Int):List Int:=dig (AU (fk key) 92++dig (AU (fk key) 54++b))
theorem Kx(l:List Int)(n:Nat)(h:l.length≤n):(EM l n).length=n:=by simp[EM];omega
theorem Nj{l:List Int}(h:∀ x∈l,0≤x∧x<256)(n:Nat):∀ x∈EM l n,0≤x∧x<256:=by
 intro x hx;rcases List.mem_append.1 hx with h1|h1
 ·exact h x h1
 ·rw[List.eq_of_mem_replicate h1];omega
theorem Mi(l:List Int):(Gz l).length≤64:=by
 unfold Gz;split
 ·rw[AA];omega
 ·omega
theorem Pt{l:List Int}(h:∀ x∈l,0≤x∧x<256):∀ x∈Gz l,0≤x∧x<256:=by
 unfold Gz;split
 ·exact CL l
 ·exact h
theorem DS(l:List Int):(fk l).length=64:=Kx _ _ (Mi l)
theorem Wj{l:List Int}(h:∀ x∈l,0≤x∧x<256):∀ x∈fk l,0≤x∧x<256:=Nj (Pt h) 64
theorem El(l:List Int)(m:Int):(AU l m).length=l.length:=by simp[AU]
theorem J6{l:List Int}(h:∀ x∈l,0≤x∧x<256){m:Int}(hm:0≤m∧m<256):∀ x∈AU l m,0≤x∧x<256:=by
 intro x hx;obtain⟨y,hy,rfl⟩:=List.mem_map.1 hx;have hb:=h y hy;rw[u8_xor _ _ hb.1 hb.2 hm.1 hm.2];have:y.toNat ^^^ m.toNat<256:=Nat.xor_lt_two_pow (n:=8) (by omega) (by omega);omega
theorem D7(k b:List Int):(EQ k b).length=32:=rfl
theorem RQ(k b:List Int):∀ x∈EQ k b,0≤x∧x<256:=CL _
theorem Lf:(prog.info? 5).map (·.size)=some 1:=by kernel_rfl
theorem I4(l:List Int):splice ((List.replicate 64 (0:Int)).map (Value.int .u8)) 0 (l.map (Value.int .u8))=(EM l 64).map (Value.int .u8):=by
 have e:(List.replicate 64 (0:Int)).map (Value.int .u8)=List.replicate 64 (Value.int .u8 0):=List.map_replicate;rw[e];simp only[splice,EM,List.take_zero,List.nil_append,List.length_map,Nat.zero_add,List.drop_replicate,List.map_append,List.map_replicate]
theorem GZ{P:Program}{ops:Array Oper}{rest:List Oper}{o:Oper}{a:Act}{w:World}{Q:Exit→Act→World→Prop}(hgd:o.guard=none)(ty:TypeId)(x y:Operand)(ho:o.op=.store ty x y)
  (g:Nat)(cells:Array Value)(hx:a.eval x=.pointer (some ⟨g,0,none⟩))(hy:a.eval y=.agg cells)
  (t:TypeId)(old:Array Value)(hg:w.heap[g]?=some (.cells old t (0,0)))(hi:(P.info? ty).map (·.size)=some cells.size)
  (hold:old.size=cells.size)(h1:cells.all (·.oneCell')=true)(B:Nat)(w0:World)(hb:Below B w0 w)(hBg:B≤g)
  (h:∀ w',w'.heap[g]?=some (.cells cells t (0,0))→Below B w0 w'→wpList P ops Q rest (a.put o.dst undef) w'):wpList P ops Q (o::rest) a w :=
 wpList_store_row hgd ty x y ho g cells hx hy t old hg hi hold h1 (h _ (setRow_heap w g _ _ t _ hg) (Bu hb hBg _))
theorem Sl.copySrc{w:World}{sp:Option Addr}{n c:Nat}{l:List Int}(h:Sl w (.slice sp n c) l)(hp:0<l.length):∃ ad,sp=some ad∧∀ (j:Nat) (v:Value),(l.map (Value.int .u8))[j]?=some v→w.cell? (ad.add j)=some v:=by
 obtain⟨⟨a,cap,e,hc,hn,h1⟩,hla,hba⟩:=h;simp only[Value.slice.injEq]at e;obtain⟨rfl,rfl,rfl⟩:=e;rcases h1 with rfl|⟨b,off,rfl,_,hcell⟩
 ·simp at hp
 ·refine⟨_,rfl,fun j v hj=>?_⟩;have hjl:j<l.length:=by
   have:=(List.getElem?_eq_some_iff.1 hj).1;simpa using this
  have hadd:(⟨b,off,none⟩:Addr).add j=⟨b,off+j,none⟩:=by unfold Addr.add;split<;>simp_all
  rw[hadd,hcell j hjl];simp[List.getElem?_eq_getElem hjl]at hj
  rw[AG hjl,hj]
theorem Nk(v:Value)(l:List Int)(w:World)(h:Sl w v l)(hl:l.length≤100000)(ht:AI w) :
  Calls prog 130 #[v] w fun e w'=>e=.returned (.agg (AK (fk l)))∧Below w.heap.size w w':=by
 have hs:=h;obtain⟨⟨a,cap,rfl,hc,hn,h1⟩,hla,hba⟩:=h;have H1:Hid _:=h1;have hsz:(prog.info? 186).map (·.size)=some (AK (fk l)).size:=by rw[Ay,DS];kernel_rfl
 clear h1 hba;by_cases hk:64<l.length
 ·have ek:Gz l=dig l:=by unfold Gz;rw[if_pos hk]
  have EK:Hid (fk l=EM (dig l) 64):=by unfold Hid fk;rw[ek]
  clear ek;go_enter func130,ntmps130
  go_wp2_with fail
  generalize hW0:w.alloc _=W0;have hb0:Below w.heap.size w W0:=by rw[← hW0];exact(Below.refl _ _).alloc (Nat.le_refl _) _
  have hr0:W0.heap[w.heap.size]?=some (.cells (AK (List.replicate 64 0)) 186 (0,0)):=by rw[← hW0];exact heap_alloc_new _ _
  have hs0:W0.heap.size=w.heap.size+1:=by rw[← hW0];simp
  clear hW0;refine(Ei _ l W0 (hs.below hb0) hl (ht.below hb0)).mono ?_;rintro e w1 ⟨v1,rfl,ho1,hb1⟩;obtain⟨g1,c1,hv,hgB,hgs,hcp,hcell,_⟩:=Ds ho1 (Eo (AA l));subst hv;have hr1:w1.heap[w.heap.size]?=some (.cells (AK (List.replicate 64 0)) 186 (0,0)):=(hb1.block _ (by omega)).trans hr0;have hB1:Below w.heap.size w w1:=hb0.trans (hb1.mono hb0.size);have hz1:w.heap.size<w1.heap.size:=(Array.getElem?_eq_some_iff.1 hr1).1;have s1:Sl w1 (.slice (some ⟨g1,0,none⟩) (dig l).length c1) (dig l):=Sl.ofOwns ho1 (by rw[AA];omega) (CL l);go_wp2_with (refine wpList_copy_splice rfl _ _ 26 26 rfl 5 underlying26 Lf _ _ _ _ _ _ rfl rfl w1.heap.size 0 ((List.replicate 64 (0:Int)).map (Value.int .u8)) 186 (heap_alloc_new _ _) ((dig l).map (Value.int .u8)) (by rw[List.length_map,AA];rfl) (fun _=>⟨rfl,(s1.below ((Below.refl _ _).alloc (Nat.le_refl _) _)).copySrc (by rw[AA];omega)⟩) (by rw[List.length_map,AA];simp) (DT _) w1.heap.size _ (Below.refl _ _) (Nat.le_refl _) ?_)
  intro w2 H2 hb2;have hr2:w2.heap[w1.heap.size]?=some (.cells (AK (fk l)) 186 (0,0)):=by
   have h3:w2.heap[w1.heap.size]?=some (.cells (splice ((List.replicate 64 (0:Int)).map (Value.int .u8)) 0 ((dig l).map (Value.int .u8))).toArray 186 (0,0)):=H2.out;rw[I4]at h3
   rw[EK.out];exact h3
  have hB2:Below w.heap.size w w2:=(hB1.alloc hB1.size _).trans (hb2.mono (by omega));have hq2:w2.heap[w.heap.size]?=some (.cells (AK (List.replicate 64 0)) 186 (0,0)):=by
   rw[hb2.block _ hz1,heap_alloc_old _ _ hz1];exact hr1
  clear H2 hb2 hr1 hr0 hs0 hb0 hb1 hcell ho1 s1 hgs hgB;go_wp2_with (first|(refine wpList_load_row rfl 186 _ rfl w1.heap.size rfl 186 _ (0,0) _ hr2 underlying186 rfl hsz ?_)|(refine wpList_store_row rfl 186 _ _ rfl w.heap.size _ rfl rfl 186 _ hq2 hsz (by rw[Ay,Ay,DS];rfl) (Jd _) ?_))
  refine bodyPost_ret (v:=.agg (AK (fk l))) (results_cell_row rfl _ _ w.heap.size 186 _ (0,0) _ rfl (setRow_heap w2 w.heap.size _ _ 186 _ hq2) underlying186 rfl hsz) rfl ⟨rfl,Bu hB2 (Nat.le_refl _) _⟩
 ·have ek:Gz l=l:=by unfold Gz;rw[if_neg hk]
  have EK:Hid (fk l=EM l 64):=by unfold Hid fk;rw[ek]
  clear ek;go_enter func130,ntmps130
  go_wp2_with (refine wpList_copy_splice rfl _ _ 26 26 rfl 5 underlying26 Lf _ _ _ _ _ _ rfl rfl (w.heap.size+1) 0 ((List.replicate 64 (0:Int)).map (Value.int .u8)) 186 (heap_alloc2_new _ _ _) (l.map (Value.int .u8)) (by rw[List.length_map];exact(Nat.min_eq_left (show l.length≤64 by omega)).symm) (fun hp=>⟨rfl,(hs.below (((Below.refl _ _).alloc (Nat.le_refl _) _).alloc (by simp) _)).copySrc (by simpa using hp)⟩) (by rw[List.length_map,List.length_map,List.length_replicate];omega) (DT _) (w.heap.size+1) _ (Below.refl _ _) (Nat.le_refl _) ?_)
  intro w2 H2 hb2;have hr2:w2.heap[w.heap.size+1]?=some (.cells (AK (fk l)) 186 (0,0)):=by
   have h3:w2.heap[w.heap.size+1]?=some (.cells (splice ((List.replicate 64 (0:Int)).map (Value.int .u8)) 0 (l.map (Value.int .u8))).toArray 186 (0,0)):=H2.out;rw[I4]at h3
   rw[EK.out];exact h3
  have hB2:Below w.heap.size w w2:=(((Below.refl _ _).alloc (Nat.le_refl _) _).alloc (by simp) _).trans (hb2.mono (by omega));have hq2:w2.heap[w.heap.size]?=some (.cells (AK (List.replicate 64 0)) 186 (0,0)):=by
   rw[hb2.block _ (by omega)];exact heap_alloc2_old _ _ _
  clear H2 hb2;go_wp2_with (first|(refine wpList_load_row rfl 186 _ rfl (w.heap.size+1) rfl 186 _ (0,0) _ hr2 underlying186 rfl hsz ?_)|(refine wpList_store_row rfl 186 _ _ rfl w.heap.size _ rfl rfl 186 _ hq2 hsz (by rw[Ay,Ay,DS];rfl) (Jd _) ?_))
  refine bodyPost_ret (v:=.agg (AK (fk l))) (results_cell_row rfl _ _ w.heap.size 186 _ (0,0) _ rfl (setRow_heap w2 w.heap.size _ _ 186 _ hq2) underlying186 rfl hsz) rfl ⟨rfl,Bu hB2 (Nat.le_refl _) _⟩
theorem Wv(l:List Int)(hl:l.length=64)(j:Nat)(hj:j<64):∀ w,(Instr.index 186 (.agg (AK l)) (.int .i64 (j:Int))).run prog w=.ok (.int .u8 (l.getD j 0)) w:=by
 intro w;have hg:(AK l)[j]?=some (.int .u8 (l.getD j 0)):=by
  simp[AK,List.getElem?_eq_getElem (show j<l.length by omega),List.getD]
 have h0:(0:Int)≤j∧(j:Int)<64:=by omega
 simp[Instr.index,run_underlying underlying186,asIntOf,h0,part,hg];intro h;omega
theorem J7(k:List Int)(m:Int)(w:World)(hk:k.length=64)(hm:0≤m∧m<256)(hb:∀ x∈k,0≤x∧x<256) :
  Calls prog 132 #[.agg (AK k),.int .u8 m] w fun e w'=>∃ v',e=.returned v'∧w'.ownsRow w.heap.size 5 1 v' (AU k m).length ((AU k m).map (Value.int .u8))∧Below w.heap.size w w':=by
 obtain⟨i0,hi,hz0,hz1,hz2⟩:=info_parts AB;have hsz:(prog.info? 186).map (·.size)=some (AK k).size:=by rw[Ay,hk];kernel_rfl
 have HK:Hid (k.length=64):=hk;clear hk;go_enter func132,ntmps132
 go_wp2_with (at_make;refine wpList_make_own _ rfl _ _ 26 rfl w.heap.size 5 i0 (.int .u8 0) 1 underlying26 hi hz0 hz1 _ _ _ 64 rfl rfl (by omega) (by rw[hz2];omega) (by unfold maxLen;omega) (by simp) ?_)
 intro w1 ho1 hg1;have hb1:Below w.heap.size w w1:=((Below.refl _ _).alloc (Nat.le_refl _) _).grown hg1 (by simp) (by simp);have hrow:w1.heap[w.heap.size]?=some (.cells (AK k) 186 (0,0)):=by
  rw[hg1.block w.heap.size (by simp) (by simp)];exact heap_alloc_new _ _
 have ho1':w1.ownsRow w.heap.size 5 1 (.slice (some ⟨w.heap.size+1,0,none⟩) 0 64) (AU (k.take 0) m).length ((AU (k.take 0) m).map (Value.int .u8)):=ho1;clear ho1 hg1;go_wp2_with (refine wpList_load_row rfl 186 _ rfl w.heap.size rfl 186 _ (0,0) _ hrow underlying186 rfl hsz ?_)
 go_loopw [5,10] (fun v i wr=>∃ j:Nat,j≤64∧i=.int .i64 j∧wr.ownsRow w.heap.size 5 1 v (AU (k.take j) m).length ((AU (k.take j) m).map (Value.int .u8))∧Below w.heap.size w wr) (fun _ i _=>64-(intOf i).toNat)
 case atStart=>exact⟨0,by omega,rfl,ho1',hb1⟩
 case round =>
  clear ho1' hb1 hrow;obtain⟨j,hj,rfl,hown,hbw⟩:=hrel;have hlt:=hown.lt;by_cases hj64:j<64
  ·have hix:=Wv k HK.out j hj64;have hlen:(AU (k.take j) m).length≤64:=by rw[El,List.length_take];omega
   have HT:Hid (AU (k.take (j+1)) m=AU (k.take j) m++[bits .xor .u8 (k.getD j 0) m]):=by
    unfold Hid;have hjl:j<k.length:=by rw[HK.out];exact hj64
    rw[List.take_succ_eq_append_getElem hjl,AG hjl,AU,List.map_append];rfl
   have hxb:=Ak hb j;have hyb:0≤bits .xor .u8 (k.getD j 0) m∧bits .xor .u8 (k.getD j 0) m<256:=by
    rw[u8_xor _ _ hxb.1 hxb.2 hm.1 hm.2];have:(k.getD j 0).toNat ^^^ m.toNat<256:=Nat.xor_lt_two_pow (n:=8) (by omega) (by omega);omega
   have HY:Hid (0≤bits .xor .u8 (k.getD j 0) m∧bits .xor .u8 (k.getD j 0) m<256):=hyb;generalize AU (k.take j) m=pre at hown HT hlen;generalize k.getD j 0=x at hix HT hxb hyb HY;clear hyb hxb;go_wp2_with (at_builtin;refine Aa _ rfl _ _ 26 rfl w.heap.size 5 underlying26 AB _ _ rfl rfl pre _ (hown.alloc _) (Sl.one _ _ _ rfl HY.out) (by simp;omega) (by have:=hbw.size;simp;omega) ?_)
   intro v' w' ho hg;have ho':w'.ownsRow w.heap.size 5 1 v' (pre++[bits .xor .u8 x m]).length ((pre++[bits .xor .u8 x m]).map (Value.int .u8)):=by simpa using ho
   have hb':Below w.heap.size w w':=(hbw.alloc hbw.size _).grown hg (by have:=hbw.size;simp;omega) (fun k hk=>(hlt k hk).1);clear ho hg hown hlt hbw;go_wp2
   go_roundw
   case rel=>exact⟨j+1,by omega,by go_num,by rw[HT.out];exact ho',hb'⟩
   case measure=>simp[intOf];omega
  ·have HJ:Hid (k.take j=k):=by unfold Hid;exact List.take_of_length_le (by rw[HK.out];omega)
   go_wp2
   go_ret;refine⟨u5,rfl,?_,hbw⟩;rw[HJ.out]at hown
   exact hown
theorem Ml(vk vb:Value)(k b:List Int)(w:World)(hk:Sl w vk k)(hb:Sl w vb b)(hkl:k.length≤100000)(hbl:b.length≤90000)(ht:AI w) :
  Calls prog 83 #[vk,vb] w fun e w'=>∃ v',e=.returned v'∧Fresh w w' v' (EQ k b):=by
 have hsz:(prog.info? 186).map (·.size)=some (AK (fk k)).size:=by rw[Ay,DS];kernel_rfl
 have hfb:=Wj hk.byte;have hfl:=DS k;have HF:Hid (EQ k b=dig (AU (fk k) 92++dig (AU (fk k) 54++b))):=rfl;go_enter func83,ntmps83
 go_wp2_with fail
 refine(Nk vk k w hk hkl ht).mono ?_;rintro e w1 ⟨rfl,hb1⟩;generalize fk k=K at hsz hfb hfl HF ⊢;go_wp2_with (refine GZ rfl 186 _ _ rfl w1.heap.size _ rfl rfl 186 _ (heap_alloc_new _ _) hsz (by rw[Ay,hfl];rfl) (Jd _) w.heap.size w (hb1.alloc hb1.size _) hb1.size ?_)
 intro w2 hrow hb2;have hz:w1.heap.size<w2.heap.size:=(Array.getElem?_eq_some_iff.1 hrow).1;go_wp2_with (refine wpList_load_row rfl 186 _ rfl w1.heap.size rfl 186 _ (0,0) _ hrow underlying186 rfl hsz ?_)
 refine(J7 K 54 w2 hfl (by omega) hfb).mono ?_;rintro e w3 ⟨v3,rfl,ho3,hb3⟩;have hB3:Below w.heap.size w w3:=hb2.trans (hb3.mono hb2.size);have hlt3:=ho3.lt;have lm54:(AU K 54).length=64:=by rw[El,hfl]
 have lm92:(AU K 92).length=64:=by rw[El,hfl]
 have bm54:=J6 hfb (m:=54) (by omega);have bm92:=J6 hfb (m:=92) (by omega);go_wp2_with (at_builtin;refine Aa _ rfl _ _ 26 rfl w2.heap.size 5 underlying26 AB _ _ rfl rfl (AU K 54) b ho3 (hb.below hB3) (by omega) hb3.size ?_)
 intro v4 w4 ho4 hg4;have hb4:Below w2.heap.size w2 w4:=hb3.grown hg4 hb3.size (fun k hk=>(hlt3 k hk).1);have hB4:Below w.heap.size w w4:=hb2.trans (hb4.mono hb2.size);have ho4':w4.ownsRow w2.heap.size 5 1 v4 (AU K 54++b).length ((AU K 54++b).map (Value.int .u8)):=by simpa[lm54]using ho4
 have by4:∀ x∈AU K 54++b,0≤x∧x<256:=fun x hx=>by
  rcases List.mem_append.1 hx with h|h
  ·exact bm54 x h
  ·exact hb.byte x h
 have ly4:(AU K 54++b).length≤91000:=by rw[List.length_append,lm54];omega
 clear ho4 hg4 ho3 hlt3;generalize AU K 54++b=L4 at ho4' by4 ly4 HF;go_wp2_with fail
 refine(Ei v4 L4 w4 (Sl.ofOwns ho4' (by omega) by4) (by omega) (ht.below hB4)).mono ?_;rintro e w5 ⟨v5,rfl,ho5,hb5⟩;have hb5':Below w2.heap.size w2 w5:=hb4.trans (hb5.mono hb4.size);have s5:Sl w5 v5 (dig L4):=Sl.ofOwns ho5 (by rw[AA];omega) (CL L4);have l5:=AA L4;have y5:=CL L4;generalize dig L4=D at s5 HF l5 y5;have hrow5:w5.heap[w1.heap.size]?=some (.cells (AK K) 186 (0,0)):=(hb5'.block _ hz).trans hrow;clear ho4' ho5;go_wp2_with (refine wpList_load_row rfl 186 _ rfl w1.heap.size rfl 186 _ (0,0) _ hrow5 underlying186 rfl hsz ?_)
 refine(J7 K 92 w5 hfl (by omega) hfb).mono ?_;rintro e w6 ⟨v6,rfl,ho6,hb6⟩;have hlt6:=ho6.lt;go_wp2_with (at_builtin;refine Aa _ rfl _ _ 26 rfl w5.heap.size 5 underlying26 AB _ _ rfl rfl (AU K 92) D ho6 (s5.below hb6) (by omega) hb6.size ?_)
 intro v7 w7 ho7 hg7;have hb7:Below w5.heap.size w5 w7:=hb6.grown hg7 hb6.size (fun k hk=>(hlt6 k hk).1);have hB5:Below w.heap.size w w5:=hb2.trans (hb5'.mono hb2.size);have hB7:Below w.heap.size w w7:=hB5.trans (hb7.mono hB5.size);have ho7':w7.ownsRow w5.heap.size 5 1 v7 (AU K 92++D).length ((AU K 92++D).map (Value.int .u8)):=by simpa[lm92,l5]using ho7
 have by7:∀ x∈AU K 92++D,0≤x∧x<256:=fun x hx=>by
  rcases List.mem_append.1 hx with h|h
  ·exact bm92 x h
  ·exact y5 x h
 have ly7:(AU K 92++D).length≤96:=by rw[List.length_append,lm92];omega
 clear ho7 hg7 ho6 hlt6;generalize AU K 92++D=L7 at ho7' by7 ly7 HF;go_wp2_with fail
 refine(Ei v7 L7 w7 (Sl.ofOwns ho7' (by omega) by7) (by omega) (ht.below hB7)).mono ?_;rintro e w8 ⟨v8,rfl,ho8,hb8⟩;go_wp2
 go_ret;refine⟨v8,rfl,?_⟩;rw[HF.out];exact Fresh.ofOwns (B1 ho8 hB7.size) (Eo (AA L7)) (by rw[AA];omega) (CL L7) (hB7.trans (hb8.mono hB7.size))
theorem XO(vk vb:Value)(k b:List Int)(w:World)(hk:Sl w vk k)(hb:Sl w vb b)(hkl:k.length≤256)(hbl:b.length≤2000)(ht:AI w) :
  Calls prog 81 #[vk,vb] w fun e w'=>∃ v',e=.returned (.tuple #[v',.int .i64 0])∧Fresh w w' v' (EQ k b):=by
 have hs:=hk;have hs2:=hb;obtain⟨⟨a,cap,rfl,_,_,_⟩,hla,hba⟩:=hk;obtain⟨⟨a2,cap2,rfl,_,_,_⟩,hla2,hba2⟩:=hb;clear hba hba2;go_enter func81,ntmps81
 go_wp2_with fail
 refine(Ml _ _ k b w hs hs2 (by omega) (by omega) ht).mono ?_;rintro e w1 ⟨v1,rfl,hf⟩;go_wp2
 go_ret2
 exact⟨v1,rfl,hf⟩
end Go.Proofs.YtakgfdbjgeopdaaGreatDoor
