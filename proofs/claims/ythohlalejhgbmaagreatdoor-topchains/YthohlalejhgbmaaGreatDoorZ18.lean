/- Part 18 of the walk. -/
import Derived.ChangeKeysEq
import Derived.Test.YthohlalejhgbmaaGreatDoorZ17
set_option maxRecDepth 100000
set_option maxHeartbeats 4000000
open Go.Proofs.Tryz
set_option linter.unusedVariables false
namespace Go.Proofs.YthohlalejhgbmaaGreatDoor
section
def alk:List Cmd->List Cmd->Bool
 | c::a,d::b=>decide (c=d)&&alk a b
 | _,_=>true
theorem ec{l m:List Cmd}(h:∀ (s:Nat) (c d:Cmd),l[s]?=some c->m[s]?=some d->c=d):alk l m=true:=by
 induction l generalizing m with
 | nil=>cases m<;>rfl
 | cons c l ih =>
  cases m with
  | nil=>rfl
  | cons d m =>
   rw[alk,h 0 c d rfl rfl,ih λs c d a b=>h (s+1) c d a b];simp
theorem X6{M:Meet}{i s:Nat}{c:Cmd}(h:(M.log i)[s]?=some c):(M.af i).ae[s]?=some c:=by
 unfold Meet.log at h;rw[kJ]at h
 split at h
 .exact h
 .cases h
theorem X7{L:List Lac}(o:∀ x∈L,LacOk x)(p:L.length<=100000){k m:Nat}{i j:Nat}(f:i<5)(h:j<5):alk ((AQ.nn (L.take k)).log i) ((AQ.nn (L.take m)).log j)=true:=by
 have key:∀ {k m i j:Nat},k<=m->i<5->j<5->∀ (s:Nat) (c d:Cmd),((AQ.nn (L.take k)).log i)[s]?=some c->((AQ.nn (L.take m)).log j)[s]?=some d->c=d:=λ{k m i j} l f h s c d b a=>by
  have e:L.take m=L.take k++(L.take m).drop k:=by
   have:=kO k (L.take m);rw[lO,kQ l]at this
   exact this.symm
  rw[e]at a
  refine agree (L:=L.take k) (K:=(L.take m).drop k) (λx n=>?_) ?_ f h (X6 b) (X6 a)
  .rw[<- e]at n;exact o x (jU n)
  .rw[<- e,X'];omega
 refine ec λs c d b a=>?_;rcases Nat.le_total k m with g|g
 .exact key g f h s c d b a
 .exact(key g h f s d c a b).symm
end
section
open Go.RowKit
theorem Zr{L:List Lac}(a:∀ x∈L,LacOk x)(d:L.length<=100000){i j:Nat}(b:i<5)(c:j<5):alk ((AQ.nn L).log i) ((AQ.nn L).log j)=true:=by
 have:=X7 a d (k:=L.length) (m:=L.length) b c
 rwa [lI]at this
end
section
section
variable{S:Cmd->Prop}
section
def VsS(S:Cmd->Prop)(l:List Vt):Prop:=∀ v∈l,S v.w
def RsS(S:Cmd->Prop)(rs:List Rk):Prop:=∀ v,Rk.vt v∈rs->S v.w
def PnS(S:Cmd->Prop):Pend->Prop
 | .began _ vs=>VsS S vs
 | .prom _ _ vs=>VsS S vs
 | .voted _ v=>S v.w
 | .prop v=>S v.w
 | _=>True
structure NdS(S:Cmd->Prop)(p:Nod):Prop where
 up:p.up=true->∃ dr rs,TpU p dr rs/\RsS S rs
 dn:p.up=false->∃ dr,TpD p dr/\RsS S dr
 ag:∀ c∈p.ae,S c
 wa:∀ c∈p.an,S c
 qu:∀ c∈p.br.dW,S c
 he:∀ j,j<5->VsS S (p.br.al j).vs
 pe:∀ q∈p.bn,PnS S q
structure LtS(S:Cmd->Prop)(l:Let):Prop where
 vs:VsS S l.ln
 wh:∀ c∈l.ed,S c
 vt:l.kind=3\/l.kind=4->S l.bN.w
variable{M:Meet}{dr:List Rk}{i:Nat}{p q:Nod}{r:Rnd}
theorem NdS.tape(h:NdS S p){q:Nod}(i:q.up=p.up)(a:q.d=p.d)(f:q.sy=p.sy)(n:q.vo=p.vo)(l:∀ c∈q.ae,S c)(t:∀ c∈q.an,S c)(r:∀ c∈q.br.dW,S c)(m:∀ j,j<5->VsS S (q.br.al j).vs)(o:∀ x∈q.bn,PnS S x):NdS S q :=
 ⟨λe=>by
  obtain⟨b,s,k,g⟩:=h.up (i▸e);exact⟨b,s,⟨k.ok,k.pre,a.trans k.d,f.trans k.sy,n.trans k.vo,by rw[a];exact k.len⟩,g⟩,λe=>by
  obtain⟨b,k,g⟩:=h.dn (i▸e);exact⟨b,⟨k.ok,by rw[a];exact k.pE,by rw[a];exact k.tk,by rw[f,a];exact k.sy,by rw[a];exact k.len⟩,g⟩,l,t,r,m,o⟩
theorem NdS.wait(h:NdS S p){x:Pend}(a:PnS S x):NdS S (p.wait x) :=
 h.tape rfl rfl rfl rfl h.ag h.wa h.qu h.he λy b=>(Q'.1 b).elim (h.pe y) λe=>by rw[G'.1 e];exact a
theorem NdS.fa(h:NdS S p)(a:Nat)(e:Int):NdS S (p.fa a e):=by
 unfold Nod.fa;split
 .exact h.wait trivial
 .exact h
theorem NdS.wrote(h:NdS S p){f b:List Rk}(j:TpU q f b)(i:RsS S b)(k:p.up=true){d:List Int}{a:Acc}(g:q=p.tv d p.sy a)(l:∀ c∈q.ae,S c):NdS S q:=by
 subst g;exact⟨λ_=>⟨f,b,j,i⟩,λe=>(by rw[show(p.tv d p.sy a).up=p.up from rfl,k]at e;cases e),h.ag,h.wa,h.qu,h.he,h.pe⟩
theorem dU(h:∀ j,j<5->VsS S (r.al j).vs){a:Acc}(b:a∈r.jv):VsS S a.vs:=by
 unfold Rnd.jv at b;simp only[jQ,N',or_false]at b;rcases b with rfl|rfl|rfl|rfl|rfl
 .exact h 0 (by omega)
 .exact h 1 (by omega)
 .exact h 2 (by omega)
 .exact h 3 (by omega)
 .exact h 4 (by omega)
theorem WQ(h:∀ j,j<5->VsS S (r.al j).vs){s:Int}{v:Vt}(e:v∈Af (r.jv.map (·.vs)).flatten s):S v.w:=by
 obtain⟨l,b,c⟩:=mX.1 (B1.1 e).1;obtain⟨a,d,rfl⟩:=kn.1 b;exact dU h d v c
theorem eD(h:∀ j,j<5->VsS S (r.al j).vs){s:Int}(a:Dp r.jv s=0):S (CE r.jv s):=by
 have c:CE r.jv s=((GN (DU r.jv s) r.jv.length).map (·.w)).getD ⟨0,0,0,0,0⟩:=if_pos a;unfold Dp at a;split at a
 .cases a
 .split at a
  .cases a
  .split at a
   .rename_i hO
    obtain⟨v,b⟩:=lG.1 hO;rw[c,b];exact WQ h (np b)
   .cases a
theorem fg(h:∀ j,j<5->VsS S (r.al j).vs)(k:Nat){l:List Cmd}(a:∀ c∈l,S c):∀ c∈II k r l,S c:=by
 induction k generalizing l with
 | zero=>exact a
 | succ k ih =>
  rw[II];split
  .rename_i he;exact ih λc b=>(Q'.1 b).elim (a c) λe=>by rw[G'.1 e];exact eD h he
  .exact a
theorem NdS.nU(h:NdS S p):NdS S p.nU:=h.tape rfl rfl rfl rfl (fg h.he 41 h.ag) h.wa h.qu h.he h.pe
theorem aH(a:Acc)(l:List Vt)(d:VsS S a.vs)(e:VsS S l):VsS S (CI a l).vs:=by
 induction l generalizing a with
 | nil=>exact d
 | cons u l ih =>
  rw[CI];refine ih _ ?_ λv b=>e v (O' _ b);by_cases c:AV a u=0
  .rw[if_pos c];intro v b;have b:v∈Bu a u:=b;rw[(DS c).2]at b
   rcases(BR (AC c).1.2.2).1 b with rfl|⟨b,_⟩
   .exact e v P'
   .exact d v b
  .rw[if_neg c];exact d
theorem Xe(h:∀ j,j<5->VsS S (r.al j).vs)(j:Nat)(b:j<5){a:List Vt}(d:VsS S a):∀ k,k<5->VsS S ((r.og j a).al k).vs:=λk c=>by
 show VsS S (upN r.al j _ k).vs;unfold upN;split
 .exact aH ⟨r.fv,a⟩ _ d (h j b)
 .exact h k c
theorem NdS.count(h:NdS S p){j:Nat}(c:j<5){v:Vt}(e:S v.w):NdS S (p.count j v):=by
 unfold Nod.count;split
 .exact h
 .split
  .exact h
  .rename_i b
   have b:=jR.1 b;refine NdS.nU (h.tape rfl rfl rfl rfl h.ag h.wa h.qu (λk d=>?_) h.pe);show VsS S (upN p.br.al j _ k).vs;unfold upN;split
   .intro u a;have a:u∈Bu (p.br.al j) v:=a;rw[(DS b).2]at a
    rcases(BR (AC b).1.2.2).1 a with rfl|⟨a,_⟩
    .exact e
    .exact h.he j c u a
   .exact h.he k d
theorem eN(q l:List Cmd)(b:∀ c∈q,S c)(f:∀ c∈l,S c):∀ c∈Mp q l,S c:=by
 induction l generalizing q with
 | nil=>exact b
 | cons d l ih =>
  rw[Mp];refine ih _ ?_ λc a=>f c (O' _ a);split
  .exact λc a=>(Q'.1 a).elim (b c) λe=>by rw[G'.1 e];exact f d P'
  .exact b
theorem NdS.eo(h:NdS S p){l:List Cmd}(a:∀ c∈l,S c):NdS S (p.eo l):=by
 unfold Nod.eo;split
 .exact h.tape rfl rfl rfl rfl h.ag h.wa (eN _ _ h.qu a) h.he h.pe
 .exact h
theorem NdS.gC(h:NdS S p)(au:Nat){l:List Cmd}(b:∀ c∈l,S c):NdS S (p.gC au l) :=
 h.tape rfl rfl rfl rfl (λc a=>(Q'.1 a).elim (h.ag c) λg=>b c (lP g)) h.wa h.qu h.he h.pe
theorem TpU.qf{a:List Rk}(h:TpU p dr a)(b:RsS S a):VsS S p.vo.vs:=λv c=>b v (LE h.ok v (by rw[<- h.vo];exact c))
theorem NdS.take(h:NdS S p)(f:p.up=true){l:Let}(b:LtS S l)(j:l.src<5):NdS S (p.take l):=by
 obtain⟨m,n,k,c⟩:=h.up f;unfold Nod.take;split
 .rcases k.av l.fv with⟨e,he⟩|⟨e,he,hvs,rs',hp,ht,hm,hpb,hpv,d,a,hq⟩
  .rw[if_pos e];exact h.fa _ _
  .rw[if_neg (λg=>g e)];exact(h.wrote ht (λv i=>c v ((hm v).1 i)) f hq (by rw[hq];exact h.ag)).wait (by show VsS S _;rw[hvs];exact k.qf c)
 .have hL:=h.gC 0 b.wh;generalize p.gC 0 l.ed=K at hL ⊢;simp only;split
  .exact hL
  .exact NdS.nU (hL.tape rfl rfl rfl rfl hL.ag hL.wa hL.qu (Xe hL.he _ j b.vs) hL.pe)
 .exact h.tape rfl rfl rfl rfl h.ag h.wa h.qu h.he h.pe
 .rename_i hk
  rcases k.bN l.bN with⟨e,he⟩|⟨e,he,rs',hp,ht,hm,hpb,d,a,hq⟩
  .rw[if_pos e];exact h.fa _ _
  .rw[if_neg (λg=>g e)];exact(h.wrote ht (λv i=>((hm v).1 i).elim (λe=>by rw[e];exact b.vt (.inl hk)) (c v)) f hq (by rw[hq];exact h.ag)).wait (b.vt (.inl hk))
 .rename_i hk;exact h.count j (b.vt (.inr hk))
 .split
  .exact h.wait trivial
  .exact h.gC _ b.wh
 .simp only;split
  .exact(h.eo b.wh).wait trivial
  .exact h.eo b.wh
 .exact h
theorem bk(h:NdS S p){s:Nat}{c:Cmd}(b:p.oo s=some c):S c:=by
 unfold Nod.oo at b;split at b
 .cases b
 .rename_i a
  have a:=jR.1 a;split at b
  .rename_i hF
   have f:GC (p.br.jv.map (·.vs)) (s:Int)=((GD (p.br.jv.map (·.vs)) (s:Int)).map (·.w)).getD ⟨0,0,0,0,0⟩:=if_pos a;have d:Fx (p.br.jv.map (·.vs)) (s:Int)=(GD (p.br.jv.map (·.vs)) (s:Int)).isSome:=if_pos a;rw[hF]at d
   obtain⟨x,i⟩:=lG.1 d.symm;rw[i]at f
   rw[<- kK b,f];refine WQ h.he (s:=(s:Int)) ?_;have:∀ (l:List Vt) (o:Option Vt) (x:Vt),BQ l o=some x->x∈l\/o=some x:=by
    intro l;induction l with
    | nil=>intro o x e;exact .inr e
    | cons v l ih =>
     intro o x e;cases o with
     | none =>
      rw[BQ]at e
      rcases ih _ _ e with g|g
      .exact .inl (O' _ g)
      .left;cases g;exact P'
     | some u =>
      rw[BQ]at e
      split at e
      .rcases ih _ _ e with g|g
       .exact .inl (O' _ g)
       .left;cases g;exact P'
      .rcases ih _ _ e with g|g
       .exact .inl (O' _ g)
       .exact .inr g
   exact(this _ _ _ i).resolve_right λe=>by cases e
  .exact h.qu c (np b)
theorem NdS.dT(h:NdS S p)(f:p.up=true):NdS S p.dT:=by
 obtain⟨l,m,k,i⟩:=h.up f;unfold Nod.dT;split
 .exact h
 .cases hn:p.oo p.ae.length with
  | none=>exact h
  | some c =>
   have b:=bk h hn;simp only;rcases k.bN ⟨(p.ae.length:Int),p.br.fv,c⟩with⟨e,he⟩|⟨e,he,rs',hp,ht,hm,hpb,d,a,hq⟩
   .rw[if_pos e];exact h
   .rw[if_neg (λg=>g e)];have g:=h.wrote ht (λv j=>((hm v).1 j).elim (λe=>by rw[e];exact b) (i v)) f hq (by rw[hq];exact h.ag);exact NdS.wait (p:={ (p.bN ⟨(p.ae.length:Int),p.br.fv,c⟩).1 with br:={ p.br with next:=p.ae.length+1 } }) (g.tape rfl rfl rfl rfl g.ag g.wa h.qu h.he g.pe) b
theorem NdS.run(o:i<5){p:Nod}(h:NdS S p){q:Pend}{l:List Pend}(r:p.bn=q::l):NdS S { p.nR i q with bn:=l }/\∀ m∈p.nV i q,LtS S m:=by
 have f:=h.pe q (by rw[r];exact P');have j:∀ {p':Nod},NdS S p'->p'.bn=p.bn->NdS S { p' with bn:=l }:=λ{p'} g e=>g.tape rfl rfl rfl rfl g.ag g.wa g.qu g.he λx s=>g.pe x (by rw[e,r];exact O' _ s);have none:∀ c∈([]:List Cmd),S c:=λc n=>by cases n
 have a:VsS S []:=λc n=>by cases n
 cases q with
 | began b vs =>
  unfold Nod.nR Nod.nV;simp only;split
  .exact⟨j h rfl,λm d=>(by cases d)⟩
  .refine⟨j (p':={ p with br:=p.br.og i vs }) (h.tape rfl rfl rfl rfl h.ag h.wa h.qu (Xe h.he i o f) h.pe) rfl,λm d=>?_⟩;obtain⟨k,_,rfl⟩:=Cm d;exact⟨a,none,λe=>e.elim (λg=>by cases g) λg=>(by cases g)⟩
 | prom k b vs=>exact⟨j h rfl,λm d=>by rw[G'.1 d];exact⟨f,h.ag,λe=>e.elim (λg=>by cases g) λg=>(by cases g)⟩⟩
 | voted k v=>exact⟨j h rfl,λm d=>by rw[G'.1 d];exact⟨a,none,λ_=>f⟩⟩
 | fa k b=>exact⟨j h rfl,λm d=>by rw[G'.1 d];exact⟨a,none,λe=>e.elim (λg=>by cases g) λg=>(by cases g)⟩⟩
 | prop v =>
  refine⟨j (h.count o f) (EH p i (.prop v)).1,λm d=>?_⟩;obtain⟨k,_,rfl⟩:=Cm d;exact⟨a,none,λ_=>f⟩
 | askNews k=>exact⟨j h rfl,λm d=>by rw[G'.1 d];exact⟨a,none,λe=>e.elim (λg=>by cases g) λg=>(by cases g)⟩⟩
 | start =>
  refine⟨j h rfl,λm d=>?_⟩;obtain⟨k,_,rfl⟩:=Cm d;exact⟨a,none,λe=>e.elim (λg=>by cases g) λg=>(by cases g)⟩
 | tell k au=>exact⟨j h rfl,λm d=>by rw[G'.1 d];exact⟨a,λc n=>h.ag c (lP n),λe=>e.elim (λg=>by cases g) λg=>(by cases g)⟩⟩
theorem NdS.lead(h:NdS S p)(m:p.up=true):NdS S (p.lead i):=by
 obtain⟨o,q,k,l⟩:=h.up m;unfold Nod.lead;simp only;generalize (⟨max p.cn p.vo.p.r+1,(i:Int)⟩:Bal)=b;rcases k.av b with⟨e,he⟩|⟨e,he,hvs,rs',hp,ht,hm,hpb,hpv,d,a,hq⟩
 .rw[if_pos e];exact h
 .rw[if_neg (λg=>g e)];have g:=h.wrote ht (λv f=>l v ((hm v).1 f)) m hq (by rw[hq];exact h.ag);exact NdS.wait (p:={ (p.av b).1 with br:=⟨b,λ_=>false,λ_=>DT,λ_=>p.ae.length,0,[]⟩ }) (x:=.began b (p.av b).2.1) (g.tape rfl rfl rfl rfl g.ag g.wa (λc n=>by cases n) (λj _ v f=>by cases f) g.pe) (by show VsS S _;rw[hvs];exact k.qf l)
theorem er(b:Bal)(f:Cmd->Option Bal)(l:List Cmd)(h:∀ c∈l,S c):∀ c∈(CP b f l).1,S c:=by
 induction l generalizing f with
 | nil=>intro c a;cases a
 | cons d l g =>
  have g:=λf=>g f λc a=>h c (O' _ a);rw[CP];split
  .exact λc a=>(jQ.1 a).elim (λe=>by rw[e];exact h d P') (g _ c)
  .exact g f
structure MtS(S:Cmd->Prop)(M:Meet):Prop where
 nd:∀ i,i<5->NdS S (M.af i)
 lt:∀ l∈M.bt,LtS S l
theorem MtS.set(h:MtS S M){i:Nat}{p:Nod}(d:NdS S p){ls:List Let}(b:∀ l∈ls,l∈M.bt\/LtS S l)(ts:List Tol):MtS S (M.set i p ls ts) :=
 ⟨λj a=>by
  show NdS S (upN M.af i p j);unfold upN;split
  .exact d
  .exact h.nd j a,λl c=>(b l c).elim (h.lt l) id⟩
theorem MtS.step{D:Wh}(y:∀ i d,D.d i d->∀ now:Nat,opE d (now:Int)=0->S (GX d (now:Int))){n:Nat}{M N:Meet}(s:Stp D n M N)(h:MtS S M):MtS S N:=by
 have a:∀ l∈M.bt,l∈M.bt\/LtS S l:=λl r=>.inl r;have app:∀ {ms:List Let},(∀ m∈ms,LtS S m)->∀ l∈M.bt++ms,l∈M.bt\/LtS S l:=λg l r=>(Q'.1 r).imp id (g l);cases s with
 | take _ l r hd hu _=>exact h.set ((h.nd _ hd.2).take hu (h.lt l r) hd.1) a _
 | bt _ ls r _=>exact⟨h.nd,λl g=>h.lt l (r l g)⟩
 | one _ i c hi hu b he =>
  refine h.set ?_ a _;have k:=h.nd i hi;unfold Nod.hZ;split
  .exact k.tape rfl rfl rfl rfl k.ag (λc b=>k.wa c (List.mem_of_mem_erase b)) k.qu k.he k.pe
  .exact k.tape rfl rfl rfl rfl k.ag k.wa k.qu k.he k.pe
 | ask _ i hi hu =>
  have k:=h.nd i hi;have F:=er (M.af i).vo.p (M.af i).bw ((M.af i).an.take 40) λc b=>k.wa c (jU b);have C:NdS S { M.af i with bw:=(CP (M.af i).vo.p (M.af i).bw ((M.af i).an.take 40)).2 }:=k.tape rfl rfl rfl rfl k.ag k.wa k.qu k.he k.pe;refine h.set ?_ (app ?_) _
  .unfold Nod.nr;split
   .exact C
   .split
    .exact C.eo F
    .exact C
  .intro m hm;unfold Nod.nr at hm;split at hm
   .cases hm
   .split at hm
    .cases hm
    .rw[G'.1 hm];exact⟨λv o=>(by cases o),F,λe=>e.elim (λg=>by cases g) λg=>(by cases g)⟩
 | prop _ i hi hu=>exact h.set ((h.nd i hi).dT hu) a _
 | ou _ i hi hu hlt z =>
  have k:=h.nd i hi;obtain⟨w,E,g,t⟩:=k.up hu;exact h.set (p:={ M.af i with sy:=((M.af i).d.length:Int) }) ⟨λ_=>⟨E,E,g.ou,t⟩,λe=>(by rw[show _=(M.af i).up from rfl,hu]at e;cases e),k.ag,k.wa,k.qu,k.he,k.pe⟩ a _
 | run _ i hi hu q l hp hs =>
  have g:=(h.nd i hi).run hi hp;exact h.set g.1 (app g.2) _
 | oK _ i hi hu hL =>
  have k:=h.nd i hi;refine h.set (p:=Hj (M.af i) i 5) (k.tape rfl rfl rfl rfl k.ag k.wa k.qu k.he k.pe) (app ?_) _;have:∀ n,∀ m∈Dv (M.af i) i n,LtS S m:=by
   intro n;induction n with
   | zero=>intro m hm;cases hm
   | succ n ih =>
    intro m hm;rw[Dv]at hm
    rcases Q'.1 hm with hm|hm
    .exact ih m hm
    .split at hm
     .rw[G'.1 hm];exact⟨λv o=>(by cases o),λc b=>k.ag c (lP b),λe=>e.elim (λg=>by cases g) λg=>(by cases g)⟩
     .cases hm
  exact this 5
 | lead _ i hi hu _=>exact h.set ((h.nd i hi).lead hu) a _
 | sub _ i d hi hu hd =>
  have k:=h.nd i hi;refine h.set ?_ a _;unfold Nod.oA Nod.oz;split
  .exact k
  .split
   .exact k.tape rfl rfl rfl rfl k.ag k.wa k.qu k.he k.pe
   .rename_i he
    split
    .exact k
    .show NdS S (Nod.want _ _);unfold Nod.want;split
     .exact k
     .exact k.tape rfl rfl rfl rfl k.ag (λc b=>(Q'.1 b).elim (k.wa c) λe=>by rw[G'.1 e];exact y i d hd _ (jR.1 he)) k.qu k.he k.pe
 | lp _ i c hi hu b _ =>
  have k:=h.nd i hi;obtain⟨w,E,g,t⟩:=k.up hu;obtain⟨x,_,H,y⟩:=g.lp b;have A:Gx (M.af i).d (M.af i).sy c=0:=by unfold Gx;rw[if_neg (λe=>e g.pT),if_neg (by omega)]
  have B:=KJ (p:=M.af i) g.pT b;refine h.set ⟨λe=>(by rw[B.2.1]at e;cases e),λ_=>⟨x,y,λv o=>t v (H.subset o)⟩,?_,?_,?_,?_,?_⟩ a _<;>(unfold Nod.lp;rw[if_neg (λe=>e A)])
  .exact λc b=>by cases b
  .exact λc b=>by cases b
  .exact λc b=>by cases b
  .exact λj _ v o=>by cases o
  .exact λc b=>by cases b
 | start _ i hi hu _ =>
  obtain⟨w,g,t⟩:=(h.nd i hi).dn hu;have z:AZ (M.af i).d (M.af i).sy:=⟨g.len,by rw[g.sy];omega,by rw[g.sy];omega⟩;have u:=Iu (p:=M.af i) z;have f:(M.af i).start.br=bX/\(M.af i).start.bn=[.start]/\(M.af i).start.an=[]:=by
   unfold Nod.start;rw[if_neg (λe=>e (if_pos z))];split<;>exact⟨rfl,rfl,rfl⟩
  refine h.set ⟨λ_=>⟨w,w,g.start,t⟩,λe=>(by rw[u.2.1]at e;cases e),?_,?_,?_,?_,?_⟩ a _
  .rw[u.2.2.2];exact λc b=>by cases b
  .rw[f.2.2];exact λc b=>by cases b
  .rw[f.1];exact λc b=>by cases b
  .rw[f.1];exact λj _ v o=>by cases o
  .rw[f.2.1];exact λq G=>by rw[G'.1 G];trivial
theorem MtS.zero:MtS S AQ:=⟨λi _=>⟨λ_=>⟨[],[],TpU.zero,λv b=>(by cases b)⟩,λe=>(by cases e),λc a=>(by cases a),λc a=>(by cases a),λc a=>(by cases a),λj _ v b=>(by cases b),λc a=>(by cases a)⟩,λl d=>(by cases d)⟩
theorem dZ(L:List Lac)(f:∀ x∈L,LacOk x)(n:L.length<=100000)(j:∀ x∈L,x.k=1->∀ now:Nat,opE x.d (now:Int)=0->S (GX x.d (now:Int))):MtS S (AQ.nn L):=by
 have s:Sts ⟨λ_ d=>∃ x∈L,x.k=1/\x.d=d,True,True,True,True,True⟩ L.length AQ (AQ.nn L):=K3 L MOk.zero (by omega) λx a=>⟨f x a,λe=>⟨x,a,e,rfl⟩,λ_=>trivial,λ_=>trivial,λ_=>⟨trivial,trivial⟩,λ_=>trivial⟩;exact s.inv (λ_ M N h g=>g.step (λi d l now m=>by obtain⟨x,b,c,rfl⟩:=l;exact j x b c now m) h) MtS.zero
end
end
section
def iR(l:List Int):Cmd:=⟨Ac (unQ l) 0,Ac (unQ l) 4,Ac (unQ l) 8,Ac (unQ l) 12,Ac (unQ l) 16⟩
variable{l:List Int}{now:Int}
theorem iz(h:opE l now=0):unE l=0:=by
 unfold opE at h;split at h
 .rename_i g;exact absurd h g
 .rename_i g;exact jR.1 g
theorem iS(h:unE l=0):(iR l).e=0:=by
 have:=(Qy h).2;unfold Ca at this;split at this
 .cases this
 .exact this
theorem XM(h:opE l now=0):GX l now=iR l:=by unfold GX;rw[if_pos h];rfl
end
end
section
open Go.RowKit
variable{f:Nat->Cmd}{n:Nat}
end
section
open Go.RowKit
section
variable{B b n off:Nat}{f:Nat->Cmd}{g:Gh}{w:World}{x:S3}
theorem Sl.px(w:World)(l:List Int)(e:TypeId){g:Nat}(b:g=w.heap.size){n:Nat}(f:n=l.length)(d:l.length<=140737488351232)(a:∀ x∈l,0<=x/\x<256) :
  Sl (w.alloc (.cells (l.map (Value.int .u8)).toArray e)) (.slice (some ⟨g,0,none⟩) n n) l:=by
 subst b f;refine⟨⟨_,_,rfl,A' _,by simp,?_⟩,d,a⟩;refine .inr ⟨w.heap.size,0,rfl,by simp,λi c=>?_⟩;rw[cell_of_row _ _ (0+i) _ _ _ (heap_alloc_new w (.cells (l.map (Value.int .u8)).toArray e))];simp[List.getElem?_eq_getElem c,List.getD]
def zEn:Value:=.agg #[.int .i64 0,.int .i64 0,.int .i64 0,.int .i64 0,.int .i64 0,.int .i64 0,.int .i64 0,.slice none 0 0]
def tlA(s:Sto)(a:Option Addr)(n c:Nat):Array Value:=(stA s).push (.slice a n c)
theorem JF(c a:Int)(w:World)(c0:0<=c)(c1:c<2147483648)(a0:0<=a)(F:a<2147483648) :
  Calls prog 44 #[.agg #[.int .i64 c,.int .i64 a]] w λe w'=>∃ v',e=.returned v'/\w'.ownsRow w.heap.size 5 1 v' (Ab c++Ab a).length ((Ab c++Ab a).map (Value.int .u8))/\Bw w w':=by
 obtain⟨d,rfl⟩:=jY c0;obtain⟨f,rfl⟩:=jY a0;have u:Bw w (w.alloc (.cells #[.int .i64 (d:Int),.int .i64 (f:Int)] 39)):=(Below.refl _ _).alloc (A' _) _;have s:=heap_alloc_new w (.cells #[.int .i64 (d:Int),.int .i64 (f:Int)] 39);generalize H:w.alloc (.cells #[.int .i64 (d:Int),.int .i64 (f:Int)] 39)=W at u s;have K:W.cell? ⟨w.heap.size,0,none⟩=some (.int .i64 (d:Int)):=cell_of_row _ _ 0 _ _ _ s;have L:W.cell? ⟨w.heap.size,1,none⟩=some (.int .i64 (f:Int)):=cell_of_row _ _ 1 _ _ _ s;have P:w.heap.size<=W.heap.size:=u.size;go_enter func44,ntmps44
 go_wp2_with fail
 clear H K L s
 go_loopw [3,11] (λv iv wr=>∃ i:Nat,i<=2/\iv=.int .i64 (i:Int)/\Hid (wr.ownsRow w.heap.size 5 1 v (([Ab (d:Int),Ab (f:Int)].take i).flatten).length ((([Ab (d:Int),Ab (f:Int)].take i).flatten).map (Value.int .u8)))/\Bw w wr) (λ_ iv _=>(2-intOf iv).toNat)
 case atStart=>exact⟨0,by omega,rfl,World.ownsRow_nil _ _ _ _,u⟩
 case round =>
  obtain⟨i,O,rfl,h,g⟩:=hrel;have b:=h.out;clear h;have l:=b.lt;have A:=g.size;by_cases N:i<2
  .have hm:∃ m:Nat,(m:Int)<2147483648/\(∀ W,(Instr.index 176 (.agg #[.int .i64 (d:Int),.int .i64 (f:Int)]) (.int .i64 (i:Int))).run prog W=.ok (.int .i64 (m:Int)) W)/\([Ab (d:Int),Ab (f:Int)].take (i+1)).flatten=([Ab (d:Int),Ab (f:Int)].take i).flatten++Ab (m:Int):=by
    rcases(by omega:i=0\/i=1)with rfl|rfl
    .exact⟨d,c1,λW=>by kernel_rfl,by simp⟩
    .exact⟨f,F,λW=>by kernel_rfl,by simp⟩
   obtain⟨m,J,z,o⟩:=hm;have B:Hid _:=o;have q:(([Ab (d:Int),Ab (f:Int)].take i).flatten).length<=8:=by
    rcases(by omega:i=0\/i=1)with rfl|rfl<;>simp[Ab]
   clear o;have G:(i:Int)<2:=by omega
   generalize ([Ab (d:Int),Ab (f:Int)].take i).flatten=pre at b B q;have D:(m:Int)/16777216%256=(m:Int)/16777216:=by omega
   have C:Hid ([(m:Int)/16777216,(m:Int)/65536%256,(m:Int)/256%256,(m:Int)%256]=Ab (m:Int)):=by
    show _=[_,_,_,_];rw[D]
   have n:∀ x∈[(m:Int)/16777216,(m:Int)/65536%256,(m:Int)/256%256,(m:Int)%256],0<=x/\x<256:=by rw[C.out];exact Au _
   have t:Hid _:=n
   clear n D;go_wp2_with (at_builtin;refine Aa _ rfl _ _ 48 rfl w.heap.size 5 underlying48 Aq _ _ rfl rfl pre [(m:Int)/16777216,(m:Int)/65536%256,(m:Int)/256%256,(m:Int)%256] (b.alloc _) (Sl.px _ _ _ rfl rfl (by simp) t.out) (by simp;omega) (by simp;omega) ?_)
   intro M E r p;have y:Bw w E:=(g.alloc A _).grown p (by simp;omega) (λk I=>(l k I).1);have j:Hid (E.ownsRow w.heap.size 5 1 M (([Ab (d:Int),Ab (f:Int)].take (i+1)).flatten).length ((([Ab (d:Int),Ab (f:Int)].take (i+1)).flatten).map (Value.int .u8))):=by
    unfold Hid;rw[B.out,<- C.out];simpa using r
   clear r p b l g z;go_wp2
   go_roundw
   case rel=>exact⟨i+1,by omega,by go_num,j,y⟩
   case measure=>simp[intOf];omega
  .obtain rfl:i=2:=by omega
   have j:Hid (wr.ownsRow w.heap.size 5 1 u3 (Ab (d:Int)++Ab (f:Int)).length ((Ab (d:Int)++Ab (f:Int)).map (Value.int .u8))):=by
    unfold Hid;simpa using b
   clear b l;go_wp2
   go_ret;exact⟨_,rfl,j.out,g⟩
theorem Zc(a0:Option Addr)(c0:Nat)(d:List Int)(k c q n v C A:Int)(w:World)(hS:Sl w (.slice a0 32 c0) d)(hl:d.length=32)(he:AW k c q n v=0)(C0:0<=C)(C1:C<2147483648)(A0:0<=A)(A1:A<2147483648)(hT:Ax w)(hN:NTab w) :
  Calls prog 19 #[.slice a0 32 c0,.agg #[.int .i64 k,.int .i64 c,.int .i64 q,.int .i64 n,.int .i64 v],.agg #[.int .i64 C,.int .i64 A]] w λe w'=>∃ g cap,e=.returned (.tuple #[.slice (some ⟨g,0,none⟩) 32 cap,.int .i64 0])/\w.heap.size<=g/\So w' g cap (lnk d ⟨k,c,q,n,v⟩ C A)/\Bw w w':=by
 have W:Hid (d.length=32):=hl;clear hl;have a8:=hT;have a7:=hN;obtain⟨K,J⟩:∃ K,(w.alloc (.cells #[.int .i64 k,.int .i64 c,.int .i64 q,.int .i64 n,.int .i64 v] 47)).alloc (.cells #[.int .i64 C,.int .i64 A] 39)=K:=⟨_,rfl⟩;have o:K.heap[w.heap.size]?=some (.cells #[.int .i64 k,.int .i64 c,.int .i64 q,.int .i64 n,.int .i64 v] 47):=by rw[<- J];exact LN _ _ _
 have s:K.heap[w.heap.size+1]?=some (.cells #[.int .i64 C,.int .i64 A] 39):=by rw[<- J];exact LO _ _ _
 have P:Bw w K:=by rw[<- J];exact NB _ _ _
 have r:w.heap.size<K.heap.size:=(H'.1 o).1;have p:(w.heap.size+1)<K.heap.size:=(H'.1 s).1;have M:=hT.ab P;have E:=hN.ab P;have z:=hS.ab P;go_enter func19,ntmps19
 go_wp2_with ((with_reducible (refine Dy ?_));(refine wpList_load_row rfl 47 _ rfl w.heap.size rfl 47 _ (0,0) _ o underlying47 rfl SO ?_))
 clear J;have key:=KN k c q n v K E;rw[he,Oc he]at key
 simp only[cmA]at key;refine(key).mono ?_;rintro e w1 ⟨v1,rfl,U,b⟩;have s1:=Sl.kc U (by rw[BI];omega) (Gj _ _ _ _ _);rw[BI]at U
 obtain⟨g1,c1,rfl⟩:=Cd U;clear U key;have d1:=P.trans (b.mono P.size);have F:=M.ab b;have G:=E.ab b;have t:=(b.block _ r).trans o;have i:=Y' r b.size;have m:=(b.block _ p).trans s;have f:=Y' p b.size;have B:=z.ab b;clear M E r o p s z;clear b;go_wp2_with ((with_reducible (refine Dy ?_));(refine wpList_load_row rfl 39 _ rfl (w.heap.size+1) rfl 39 _ (0,0) _ m underlying39 rfl eg ?_))
 refine(JF C A w1 C0 C1 A0 A1).mono ?_;rintro e w2 ⟨v2,rfl,S,a⟩;have s2:=Sl.kc S (by simp[Ab]) (λx hx=>by rcases Q'.1 hx with h|h;(· exact Au _ x h);exact Au _ x h);replace S:w2.ownsRow _ 5 1 v2 8 _:=S;obtain⟨g2,c2,rfl⟩:=Cd S;clear S;have d2:=d1.trans (a.mono d1.size);have H:=F.ab a;have I:=G.ab a;have y:=(a.block _ i).trans t;have l:=Y' i a.size;have u:=(a.block _ f).trans m;have j:=Y' f a.size;have D:=B.ab a;have N:=s1.ab a;clear F G i t f m B s1;clear a;go_wp2_with fail
 refine(ZL _ _ _ d (CS k c q n v) (Ab C++Ab A) w2 _ _ rfl D N s2 (by rw[W.out];omega) (by rw[BI];omega) (by simp[Ab]) (by rw[W.out];omega)).mono ?_;rintro e w3 ⟨v3,rfl,V,L⟩;have T:(d++(CS k c q n v++(Ab C++Ab A))).length=60:=by rw[M',W.out,M',BI];rfl
 have s3:=Sl.kc V (by rw[T];omega) (λx hx=>by rcases Q'.1 hx with h|h;(· exact D.byte x h);rcases Q'.1 h with h|h;(· exact Gj _ _ _ _ _ x h);rcases Q'.1 h with h|h;(· exact Au _ x h);exact Au _ x h);rw[T]at V
 obtain⟨g3,c3,rfl⟩:=Cd V;clear V;have Y:=d2.trans (L.mono d2.size);have O:=H.ab L;have a6:=I.ab L;have a5:=(L.block _ l).trans y;have a3:=Y' l L.size;have a4:=(L.block _ j).trans u;have a2:=Y' j L.size;clear H I l y j u;clear L;have R:(d++(CS k c q n v++(Ab C++Ab A))).length<=2000:=by rw[T];omega
 clear T;go_wp2_with fail
 refine(cJ _ (d++(CS k c q n v++(Ab C++Ab A))) w3 s3 R O).mono ?_;rintro e w4 ⟨v4,rfl,o4,b4⟩;obtain⟨Z,c4,rfl,Q,s4⟩:=So.kc o4 (Ao _) (CT _);have dd:=Y.trans (b4.mono Y.size);have a1:w.heap.size<=Z:=jG Y.size Q;have X:Hid (So w4 Z c4 (lnk d ⟨k,c,q,n,v⟩ C A)):=s4;clear s4 s3 b4 Q R o4;go_wp2
 go_ret2
 exact⟨Z,c4,rfl,a1,X.out,dd⟩
structure En where
 m:Cmd
 c:Int
 a:Int
 y:S3
 g:List Int
def enV(e:En):List Value:=[iv e.m.k,iv e.m.c,iv e.m.s,iv e.m.n,iv e.m.v,iv e.c,iv e.a,e.y.v]
def enL(E:List En):List Value:=E.flatMap enV
theorem WF(E:List En)(e:En):enL (E++[e])=enL E++enV e:=by simp[enL]
theorem ZV(E:List En):(enL E).length=E.length*8:=E9 (f:=enV) (λ_=>rfl) E
def NN(g:Gh)(w:World)(E:List En):Prop:=∀ e∈E,FSl g w e.y e.g
variable{E:List En}
theorem NN.ch{T:List Tg}{a:Gh}{b:World}(h:NN g w E)(c:Cg B T g w a b)(e:Tg.z∉T:=by simp):NN a b E:=λp d=>(h p d).ch c e
def Fa.oe(r:Nat)(x:S3)(E:List En):Fa:=⟨some r,λg w=>OwnS g w (.n 60 r) true 50 8 x (enL E)/\NN g w E,λhz hr c h=>⟨h.1.ch c (hr r rfl) (by simp),h.2.ch c hz⟩⟩
def Fa.sm(E:List En):Fa:=⟨none,λg w=>NN g w E,λhz _ c h=>h.ch c hz⟩
theorem NN.snoc(h:NN g w E){e:En}(k:FSl g w e.y e.g):NN g w (E++[e]):=λp a=>(Q'.1 a).elim (h p) λq=>by rw[G'.1 q];exact k
def Fa.en(x:S3)(E:List En):Fa:=⟨none,λg w=>FzV g w x 8 (enL E)/\NN g w E,λhz _ c h=>⟨h.1.ch c hz,h.2.ch c hz⟩⟩
def chQ(f:Nat->Cmd)(n:Nat)(E:List En):Prop:=E.map (λe=>(e.m,e.c,e.a,e.g))=(List.range n).map λi=>(f i,cAt f i,aAt f i,gAt f (i+1))
theorem chQ.len(h:chQ f n E):E.length=n:=by have:=congrArg List.length h;simpa using this
theorem chQ.snoc(h:chQ f n E)(y:S3):chQ f (n+1) (E++[⟨f n,cAt f n,aAt f n,y,gAt f (n+1)⟩]):=by
 unfold chQ;rw[jW,h,lJ,jW];rfl
theorem chQ.at(h:chQ f n E){i:Nat}(d:i<n):∃ y,E[i]?=some ⟨f i,cAt f i,aAt f i,y,gAt f (i+1)⟩:=by
 have b:=congrArg (·[i]?) h;simp only[kh,lx d,ku]at b;cases hq:E[i]? with
 | none=>rw[hq]at b;cases b
 | some e =>
  rw[hq]at b
  obtain⟨m,c,a,y,g⟩:=e;simp only[ku,V',kG]at b;obtain⟨rfl,rfl,rfl,rfl⟩:=b;exact⟨y,rfl⟩
structure EnN(B:Nat)(w:World)(x:S3)(E:List En):Prop where
 o:OwN B w 50 8 x (enL E)
 d:∀ e∈E,Sl w e.y.v e.g/\Nb B e.y e.g
theorem EnN.en(h:EnN B w x E)(G:∀ b,B<=b->g.t b=.z):(Fa.en x E).p g w:=⟨h.o.fz G,λp a=>Lm (h.d p a).1 (h.d p a).2 G⟩
theorem dE{W:World}(c:x.a=some ⟨b,off,none⟩)(j:Nat)(d:j<x.n):(Instr.indexAt 35 x.v (iv (j:Int))).run prog W=.ok (pt b (off+8*j)) W:=by
 obtain⟨f,h,g⟩:=x;simp only at c d;subst c;exact L2 (P:=prog) (e:=50) (z:=8) underlying35 (by kernel_rfl) (by kernel_rfl) d _ rfl
theorem eM(h:(Fa.en x E).p g w):x.n=E.length:=by
 have:=h.1.rd.len;rw[ZV]at this;omega
theorem MT(h:(Fa.en x E).p g w){i b c:Nat}(o:x.a=some ⟨b,c,none⟩){e:En}(k:E[i]?=some e){j:Nat}{u:Value}(n:(enV e)[j]?=some u):w.cell? ⟨b,c+8*i+j,none⟩=some u:=by
 have s:=eM h;have r:=(U'.1 k).1;obtain⟨q,l,d,_,m⟩:=h.1.rd.spot (i:=i) (by omega);rw[o]at d;cases d
 exact m j u (Km (f:=enV) (sz:=8) (λ_=>rfl) E k n)
end
section
variable{P:Program}{fn:Func}{R:Ending->World->Prop}{w0:World}{Φ:List Fa}{g:Gh}{w:World}
theorem tMk{s:Xs}(i r c:Nat)(t e:TypeId)(j a:Nat)(z:Value)(Q:a*c<=281474976710656)(B:c<=maxLen)(K:Φ.all (λf=>f.ro != some r)=true)
  (J:∀ x' g' w',x'.n=0->GT P fn R w0 (Fa.ow r e j x' []::Φ) (nxt s i (S3.v x') s.L).s g' w')
  (M:P.underlying t=some (.slice e):=by kernel_rfl)(d:(P.info? e).map (λi=>(i.zero,i.size,i.bytes))=some (some z,j,a):=by kernel_rfl)
  (b:Dd s i=some (Instr.makeSlice t (.int .i64 0) (.int .i64 (c:Int))>>=λv=>pure (.value v)):=by kernel_rfl)(q:(nxt s i undef s.L).o.map Ob.l'=(nxt s i undef s.L).o.map Ob.r':=by kernel_rfl):GT P fn R w0 Φ s g w:=by
 refine⟨λF C=>JM i s.L q (BE b) λA O S o u=>?_⟩;obtain⟨y,I,N,x,p⟩:=info_parts d;have l:(c:Int)<=9223372036854775807:=by have h:=B;simp[maxLen]at h;omega
 have D:=run_make (P:=P) w t e y z M I N .i64 .i64 0 (c:Int) (kH _) (by omega) (by rw[p];have:((a*c:Nat):Int)<=281474976710656:=(by omega);rwa [m5]at this) l;simp only[Int.toNat_zero,kx,x]at D;have E:Bw w (w.alloc (.cells (madeCells z.cells (c*j)) e)):=(Below.refl _ _).alloc (A' _) _;have H:OwN w.heap.size (w.alloc (.cells (madeCells z.cells (c*j)) e)) e j ⟨some ⟨w.heap.size,0,none⟩,0,c⟩ []:=⟨by simp,.inr ⟨w.heap.size,_,A' _,rfl,heap_alloc_new _ _,j' _,B,size_madeCells _ _,by simp⟩⟩;obtain⟨g',k,G,m,_⟩:=H.take E A.new r;refine⟨_,_,g',.inl ?_,A.ch (k w.heap.size) G (by simp),(J ⟨some ⟨w.heap.size,0,none⟩,0,c⟩ g' _ rfl).ex ⟨m,F.nW (k w0.heap.size)⟩ (C.trans ((k _).nil TQ))⟩;rw[CY b u,Sem.run_bind,D,Result.andThen_ok];rfl
theorem qE6{B:Nat}{T:List Tg}{s:Xs}(u p m:Tmp)(c:TypeId)(i b:Nat)(a:Array Value)(v q:Value)(h:Kn B g w s.L->R (.returned (.tuple #[v,.agg a,q])) w)(H:(s.L[i]?).map (λx=>(x.g,Cu x.o,Dx x.o))=some (b,a,true):=by kernel_rfl)(A:fn.results=#[.tmp u,.cell p c,.tmp m]:=by kernel_rfl)(D:s.f.act.tmps.getD p undef=pt b 0:=by kernel_rfl)(G:s.f.act.tmps.getD u undef=v:=by kernel_rfl)(k:s.f.act.tmps.getD m undef=q:=by kernel_rfl)(F:Fz P c=true:=by kernel_rfl)(C:(P.info? c).map (·.size)=some a.size:=by kernel_rfl)(E:KO s.K=true:=by kernel_rfl):GG P fn R B T s g w :=
 Rr _ E (λK=>by
  obtain⟨e,y⟩:=K.ph H;obtain⟨d,r,t⟩:=FS F;have j:s.f.act.tmps[p]?.getD undef=.pointer (some ⟨b,0,none⟩):=by simpa using D
  rw[<- G,<- k];simp[results,A,j,asAddr,run_loadVar_row w b e c a (0,0) d y r (by cases d<;>first|rfl|cases t) C]) h
end
section
variable{A C:Int}{P:Program}{W w:World}{a0:Option Addr}{c0:Nat}{l:List Cmd}{m:Cmd}{s:Sto}{sum:List Int}{x:S3}{y:Operand}
theorem go(f:NTab w)(i:Gw s)(h:m.e=0){S:Sto}{C A:Int}(g:dnS s m=S)(d:dnC s m=C)(b:dnA s m=A) :
  Calls prog 18 #[.agg (stA s),.agg #[iv m.k,iv m.c,iv m.s,iv m.n,iv m.v]] w λe w'=>e=.returned (.tuple #[.agg (stA S),.agg #[iv C,iv A],iv 0])/\Bw w w':=by
 subst g d b;have a:doE s m=0:=(ZR i).trans h;have:=dM s m w f
 rwa [a,Wy a,Wu a,Ws a]at this
theorem df(l:Sl w (.slice a0 32 c0) sum)(r:sum.length=32)(q:m.e=0)(i:(C=0\/C=7\/C=11)/\VaB A)(o:Ax w)(j:NTab w) :
  Calls prog 19 #[.slice a0 32 c0,.agg #[iv m.k,iv m.c,iv m.s,iv m.n,iv m.v],.agg #[iv C,iv A]] w λe w'=>∃ za zc,e=.returned (.tuple #[.slice za 32 zc,iv 0])/\Sl w' (.slice za 32 zc) (lnk sum m C A)/\(∀ a,za=some a->w.heap.size<=a.block)/\Bw w w':=by
 unfold VaB at i;refine(Zc a0 c0 sum m.k m.c m.s m.n m.v C A w l r q (by omega) (by omega) (by omega) (by omega) o j).mono ?_;rintro e w' ⟨g,b,rfl,d,f,h⟩;exact⟨_,_,rfl,f.sl,λa p=>by cases p;exact d,h⟩
theorem Y7{b:Nat}(h:w.heap[b]?=some (.cells (List.replicate 32 (Value.int .u8 0)).toArray 5)):Sl w (.slice (some ⟨b,0,none⟩) 32 32) (List.replicate 32 0):=by
 refine⟨⟨_,_,rfl,A' _,λe=>(by cases e),.inr ⟨b,0,rfl,rl h,λi a=>?_⟩⟩,by simp,λx c=>?_⟩
 .rw[cell_of_row _ _ _ _ _ _ h];have a:i<32:=by simpa using a
  simp only[ky,kl,mA,if_pos a,kb,mV]
 .obtain rfl:=List.eq_of_mem_replicate c;omega
theorem VS(w:World) :
  Calls prog 10 #[] w λe w'=>∃ za zc,e=.returned (.agg (tlA AD za 32 zc))/\Sl w' (.slice za 32 zc) (List.replicate 32 0)/\(∀ a,za=some a->w.heap.size<=a.block)/\Bw w w':=by
 refine tIn [] func10 trivial (tR 10 [1,0,1,0,0,0] λb _ _=>tX λF C=>Ae λK=>?_);obtain⟨c,_,d,_⟩:=K.row _ (jJ (show _[1]?=some ⟨(b 1),.cells (List.replicate 32 (Value.int .u8 0)).toArray 5,.l,true⟩from by kernel_rfl));exact qE1 0 60 0 (b 0) (tlA AD (some ⟨(b 1),0,none⟩) 32 32) λ_=>⟨_,_,rfl,Y7 c,λa f=>by cases f;exact d rfl,CgQ.ab C⟩
theorem UD(x:Sl w (.slice a0 32 c0) sum)(z:sum.length=32)(r:Gw s)(f:AnB s)(i:m.e=0)(y:Ax w)(q:NTab w){S:Sto}{K A:Int}(d:dnS s m=S)(p:dnC s m=K)(l:dnA s m=A) :
  Calls prog 11 #[.agg (tlA s a0 32 c0),.agg #[iv m.k,iv m.c,iv m.s,iv m.n,iv m.v]] w λe w'=>∃ za zc,e=.returned (.tuple #[.agg #[iv m.k,iv m.c,iv m.s,iv m.n,iv m.v,iv K,iv A,.slice za 32 zc],.agg (tlA S za 32 zc),iv 0])/\Sl w' (.slice za 32 zc) (lnk sum m K A)/\(∀ a,za=some a->w.heap.size<=a.block)/\Bw w w':=by
 have o:=gX r f i;rw[p,l]at o
 refine tIn [] func11 trivial (tR 13 [0,0,0,0,1,0,1,0,0,1] λb _ _=>tC1 3 (λF C=>go (q.ab (CgQ.ab C)) r i d p l) λ_=>tR 24 [1,0,1,0,4,0,5,0,0,1,5] λD _ _=>tF λ_ j=>tC 4 (λF C=>df (x.ab (CgQ.ab C)) z i o (y.ab (CgQ.ab C)) (q.ab (CgQ.ab C))) λt=>?_);rintro _ _ ⟨za,zc,rfl,B,g,u⟩;refine⟨_,Fa.sl ⟨za,32,zc⟩ (lnk sum m K A)::_,rfl,u,λF=>⟨⟨B,λ_ a f=>t _ (g a f)⟩,F⟩,?_⟩;refine tR 21 [7,0,1,2,5,4,6,10] λE _ _=>Hh 4 7 ?_ ?_
 .refine tR 6 [4,12,15,2,0,17,3,0,18] λG _ _=>tX λF C=>qE5 4 5 6 50 60 2 (b 2) 3 (b 3) #[iv m.k,iv m.c,iv m.s,iv m.n,iv m.v,iv K,iv A,.slice za 32 zc] (tlA S za 32 zc) (iv 0) λ_=>⟨za,zc,rfl,F.1.s,λa h=>jG j.size (g a h),CgQ.ab C⟩
 .refine tR 6 [2,0,9,4,12,17,3,0,18] λH _ _=>tX λF C=>qE5 4 5 6 50 60 2 (b 2) 3 (b 3) #[iv m.k,iv m.c,iv m.s,iv m.n,iv m.v,iv K,iv A,.slice za 32 zc] (tlA S za 32 zc) (iv 0) λ_=>⟨za,zc,rfl,F.1.s,λa h=>jG j.size (g a h),CgQ.ab C⟩
theorem OZ(h:RdV w x 5 (cmL l))(hl:l.length<=200)(he:∀ c∈l,c.e=0)(hT:Ax w)(hN:NTab w){f:Nat->Cmd}(hf:∀ i c,l[i]?=some c->f i=c) :
  Calls prog 7 #[x.v] w λe w'=>∃ z E,e=.returned (.tuple #[S3.v z,.agg (stA (sAt f l.length)),iv 0])/\chQ f l.length E/\EnN w.heap.size w' z E/\Bw w w':=by
 have hx:=gV h;have W:∀ j,j<l.length->(f j).e=0:=λj X=>by rw[hf j _ (E' X)];exact he _ (km X)
 refine tIn [Fa.zv x 5 (cmL l)] func7 ⟨h.fz,trivial⟩ (tR 13 [1,0] λb _ _=>tI ((decide (200<(x.n:Int)))) false (D' (by omega)) (tR 3 [] λa7 _ _=>tF λ_ N=>?_));have Y:=N.size;refine tC 0 (λF C=>VS _) λO=>?_;rintro _ _ ⟨r,zc,rfl,hz,hb,b3⟩;refine⟨_,Fa.sl ⟨r,32,zc⟩ (gAt f 0)::_,rfl,b3,λF=>⟨⟨hz,λ_ a q=>O _ (hb a q)⟩,F⟩,?_⟩;refine tR 7 [1,0,1,0] λm _ _=>tMk 2 0 x.n 35 50 8 80 zEn (by omega) (by unfold maxLen;omega) rfl (λy5 _ _ n5=>?_);refine tR 10 [] λa8 _ _=>Eh 46 [(20,S3.v x),(21,iv (x.n:Int)),(22,iv 0),(3,pt (b 0) 0),(5,pt (m 0) 0),(6,S3.v y5)] [true,true] [⟨(b 0),.cells #[iv 0,iv 0,iv 0,iv 0,iv 0,iv 0,iv 0,iv 0,iv 0,iv 0,iv 0,iv 0,iv 0,iv 0,iv 0,iv 0,iv 0,iv 0,iv 0,iv 0,iv 0,iv 0,iv 0,iv 0,iv 0,iv 0,iv 0,iv 0,iv 0,iv 0,iv 0,iv 0,.bool false,.bool false,.bool false,.bool false,.bool false,.bool false,.bool false,.bool false] 43,.l,false⟩,⟨(m 0),.cells #[iv (AD.V 0),iv (AD.V 1),iv (AD.V 2),iv (AD.V 3),iv (AD.V 4),iv (AD.V 5),iv (AD.V 6),iv (AD.V 7),iv (AD.L 0),iv (AD.L 1),iv (AD.L 2),iv (AD.L 3),iv (AD.L 4),iv (AD.L 5),iv (AD.L 6),iv (AD.L 7),iv (AD.C 0),iv (AD.A 0),iv (AD.C 1),iv (AD.A 1),iv (AD.C 2),iv (AD.A 2),iv (AD.C 3),iv (AD.A 3),iv (AD.C 4),iv (AD.A 4),iv (AD.C 5),iv (AD.A 5),iv (AD.C 6),iv (AD.A 6),iv (AD.C 7),iv (AD.A 7),.bool (AD.R 0),.bool (AD.R 1),.bool (AD.R 2),.bool (AD.R 3),.bool (AD.R 4),.bool (AD.R 5),.bool (AD.R 6),.bool (AD.R 7),.slice r 32 zc] 60,.l,false⟩] [Fa.oe 0 y5 [],Fa.sl ⟨r,32,zc⟩ (gAt f 0),Fa.zv x 5 (cmL l)] (λkk ee LL M=>∃ (i:Nat) (y:S3) (E:List En) (r:Option Addr) (zc:Nat),kk=x.n-i/\ee=[(20,S3.v x),(21,iv (x.n:Int)),(22,iv (i:Int)),(3,pt (b 0) 0),(5,pt (m 0) 0),(6,S3.v y)]/\LL=[⟨(b 0),.cells (stA AD) 43,.l,false⟩,⟨(m 0),.cells (tlA (sAt f i) r 32 zc) 60,.l,false⟩]/\M=[Fa.oe 0 y E,Fa.sl ⟨r,32,zc⟩ (gAt f i),Fa.zv x 5 (cmL l)]/\i<=l.length/\y.n=i/\chQ f i E/\(∀ e∈E,Nb w.heap.size e.y e.g)/\∀ a,r=some a->w.heap.size<=a.block) (x.n) ⟨0,y5,[],r,zc,rfl,rfl,rfl,rfl,by omega,n5,rfl,λ_ h=>(by cases h),λa q=>jG Y (hb a q)⟩ (λF=>⟨⟨F.1,λ_ h=>(by cases h)⟩,F.2⟩) ?_;rintro k _ _ _ ⟨i,y,E,r,zc,rfl,rfl,rfl,rfl,hi,hy,Q,D,a5⟩ _ _ _ J hJ;refine tR 5 [] λa9 _ _=>?_;by_cases h1:i<l.length
 .refine tI ((decide ((i:Int)<(x.n:Int)))) true (I' (by omega)) ?_;obtain⟨c,T⟩:∃ c,l[i]?=some c:=⟨_,E' (by omega)⟩;have d:=hf i c T;have U:=he c (jJ T);have a4:=Q.len;obtain⟨sB,sA⟩:=co (f:=f) (i:=i) λj X=>W j (by omega);refine tF λF _=>?_;obtain⟨bx,ox,H⟩:=F.2.2.1.rd.rc.addr (k:=i) (by omega);refine tR 5 [] λb0 _ _=>tV 0 (pt bx (ox+5*i)) (λF C=>(Np H i (by omega))) (tV 1 (.agg #[iv c.k,iv c.c,iv c.s,iv c.n,iv c.v]) (λF C=>(Vc c λq_ u Z=>F.2.2.1.rd.rc.cellAt H T Z)) (tR 7 [0,0,2,0,1,2] λa0 _ _=>tF λF N=>?_));have G:=N.size;refine tC 2 (λF C=>UD F.2.1.s (Rp f i) sB sA U (hT.ab (CgQ.ab C)) (hN.ab (CgQ.ab C)) (S:=sAt f (i+1)) (K:=cAt f i) (A:=aAt f i) (by rw[<- d];rfl) (by rw[<- d];rfl) (by rw[<- d];rfl)) λO=>?_;rintro _ _ ⟨o,p,rfl,Z,B,P⟩;refine⟨_,Fa.sl ⟨o,32,p⟩ (gAt f (i+1))::_,rfl,P,λF=>⟨⟨by rw[show gAt f (i+1)=lnk (gAt f i) c (cAt f i) (aAt f i)from by rw[<- d];rfl];exact Z,λ_ a q=>O _ (B a q)⟩,F⟩,?_⟩;refine tR 23 [0,0,0,0,3,0,4,0,6,0,2,3,8,4,5,0,0] λt _ _=>tCv [Fa.ow 0 50 8 y (enL E),Fa.sm E,Fa.sl ⟨o,32,p⟩ (gAt f (i+1)),Fa.zv x 5 (cmL l)] (λF=>⟨F.2.1.1,F.2.1.2,F.1,F.2.2.2.1,trivial⟩) (OA 3 0 (x:=y) 35 35 50 8 80 (zEn) ⟨(t 2),0,none⟩ 1 1 [iv c.k,iv c.c,iv c.s,iv c.n,iv c.v,iv (cAt f i),iv (aAt f i),.slice o 32 p] (λF=>F.1) [Fa.sm E,Fa.sl ⟨o,32,p⟩ (gAt f (i+1)),Fa.zv x 5 (cmL l)] (λF=>⟨F.2.1,F.2.2.1,F.2.2.2.1,trivial⟩) rfl (by simp[TQ]) rfl (by simp[Value.oneCell']) (λF K=>Cw K 5 (t 2) [iv c.k,iv c.c,iv c.s,iv c.n,iv c.v,iv (cAt f i),iv (aAt f i),.slice o 32 p] 50 .z true (by kernel_rfl)) (by unfold maxLen;omega) (by omega) λI _ _ a6=>tCv [Fa.oe 0 I (E++[⟨c,cAt f i,aAt f i,⟨o,32,p⟩,gAt f (i+1)⟩]),Fa.sl ⟨o,32,p⟩ (gAt f (i+1)),Fa.zv x 5 (cmL l)] (λF=>⟨⟨WF E _▸F.1,F.2.1.snoc (e:=⟨c,cAt f i,aAt f i,⟨o,32,p⟩,gAt f (i+1)⟩) F.2.2.1⟩,F.2.2⟩) (tR 5 [10,13,1,0] λa1 _ _=>tV 0 (iv ((i:Int)+1)) (λF C=>(AR 22 (i:Int) underlying3 (by omega))) (tR 2 [] λa2 _ _=>tB hJ (x.n-(i+1)) (by omega) [true,true,false,false,false,false] (L':=[⟨(b 0),.cells (stA AD) 43,.l,false⟩,⟨(m 0),.cells #[iv ((sAt f (i+1)).V 0),iv ((sAt f (i+1)).V 1),iv ((sAt f (i+1)).V 2),iv ((sAt f (i+1)).V 3),iv ((sAt f (i+1)).V 4),iv ((sAt f (i+1)).V 5),iv ((sAt f (i+1)).V 6),iv ((sAt f (i+1)).V 7),iv ((sAt f (i+1)).L 0),iv ((sAt f (i+1)).L 1),iv ((sAt f (i+1)).L 2),iv ((sAt f (i+1)).L 3),iv ((sAt f (i+1)).L 4),iv ((sAt f (i+1)).L 5),iv ((sAt f (i+1)).L 6),iv ((sAt f (i+1)).L 7),iv ((sAt f (i+1)).C 0),iv ((sAt f (i+1)).A 0),iv ((sAt f (i+1)).C 1),iv ((sAt f (i+1)).A 1),iv ((sAt f (i+1)).C 2),iv ((sAt f (i+1)).A 2),iv ((sAt f (i+1)).C 3),iv ((sAt f (i+1)).A 3),iv ((sAt f (i+1)).C 4),iv ((sAt f (i+1)).A 4),iv ((sAt f (i+1)).C 5),iv ((sAt f (i+1)).A 5),iv ((sAt f (i+1)).C 6),iv ((sAt f (i+1)).A 6),iv ((sAt f (i+1)).C 7),iv ((sAt f (i+1)).A 7),.bool ((sAt f (i+1)).R 0),.bool ((sAt f (i+1)).R 1),.bool ((sAt f (i+1)).R 2),.bool ((sAt f (i+1)).R 3),.bool ((sAt f (i+1)).R 4),.bool ((sAt f (i+1)).R 5),.bool ((sAt f (i+1)).R 6),.bool ((sAt f (i+1)).R 7),.slice o 32 p] 60,.l,false⟩]) ⟨i+1,I,_,o,p,rfl,rfl,rfl,rfl,by omega,by omega,d▸Q.snoc _,λe h=>(Q'.1 h).elim (D e) λg=>by rw[G'.1 g];exact λ_ a q=>jG G (B a q),λa q=>jG G (B a q)⟩ (λF=>F))))
 .refine tI ((decide ((i:Int)<(x.n:Int)))) false (D' (by omega)) ?_;obtain rfl:i=l.length:=by omega
  refine tR 10 [4,0,2,4,1,6,9,0,0,10] λa3 _ _=>tX λF C=>qE6 2 3 4 43 0 (b 0) (stA (sAt f l.length)) (S3.v y) (iv 0) λ_=>⟨y,E,rfl,Q,⟨F.1.1.own C,λe h=>⟨(F.1.2 e h).s,D e h⟩⟩,CgQ.ab C⟩
theorem EW{d c:Nat}{e:TypeId}{a:Array Value}:∀ l:List Nat,(∀ i∈l,∃ v,(part e a (i*c)).run P w=.ok v w/\(Op.equalIn d e v v).run P w=.ok true w)->(Op.eqItems d e c a a l).run P w=.ok true w
 | [],_=>by simp[Op.eqItems]
 | i::l,h=>by
  obtain⟨v,h1,h2⟩:=h i (P' ..);have f:=EW l (λj b=>h j (O' _ b));simp[Op.eqItems,Sem.run_bind,h1,h2,f,Result.andThen_ok]
theorem cY(f:Nat->Int)(i:Nat)(a:i<8)(w:World):(part 3 (vaA f) (i*1)).run prog w=.ok (.int .i64 (f i)) w:=by
 rcases(by omega:i=0\/i=1\/i=2\/i=3\/i=4\/i=5\/i=6\/i=7)with rfl|rfl|rfl|rfl|rfl|rfl|rfl|rfl
 all_goals kernel_rfl
theorem TD(f:Nat->Int)(d:Nat)(w:World):(Op.equalIn (d+2) 36 (.agg (vaA f)) (.agg (vaA f))).run prog w=.ok true w:=by
 rw[run_equalIn_array (P:=prog) w (d+1) (t:=36) (e:=3) (n:=8) (vaA f) (vaA f) underlying36 (show prog.info? 3=some _ from rfl)];rw[show prog.cellsOf 3=1 by kernel_rfl];refine EW _ (λi a=>⟨.int .i64 (f i),?_,?_⟩)
 .exact cY f i (by simpa using a) w
 .rw[run_equalIn_int w d 3 .i64 .i64 _ _ underlying3];simp
def boA(f:Nat->Bool):Array Value:=#[.bool (f 0),.bool (f 1),.bool (f 2),.bool (f 3),.bool (f 4),.bool (f 5),.bool (f 6),.bool (f 7)]
theorem ZB(f:Nat->Bool)(i:Nat)(a:i<8)(w:World):(part 4 (boA f) (i*1)).run prog w=.ok (.bool (f i)) w:=by
 rcases(by omega:i=0\/i=1\/i=2\/i=3\/i=4\/i=5\/i=6\/i=7)with rfl|rfl|rfl|rfl|rfl|rfl|rfl|rfl
 all_goals kernel_rfl
theorem ZC(f:Nat->Bool)(d:Nat)(w:World):(Op.equalIn (d+2) 41 (.agg (boA f)) (.agg (boA f))).run prog w=.ok true w:=by
 rw[run_equalIn_array (P:=prog) w (d+1) (t:=41) (e:=4) (n:=8) (boA f) (boA f) underlying41 (show prog.info? 4=some _ from rfl)];rw[show prog.cellsOf 4=1 by kernel_rfl];refine EW _ (λi a=>⟨.bool (f i),?_,?_⟩)
 .exact ZB f i (by simpa using a) w
 .rw[run_equalIn_bool w d 4 _ _ underlying4];simp
def anA(c a:Nat->Int):Array Value:=#[.int .i64 (c 0),.int .i64 (a 0),.int .i64 (c 1),.int .i64 (a 1),.int .i64 (c 2),.int .i64 (a 2),.int .i64 (c 3),.int .i64 (a 3),.int .i64 (c 4),.int .i64 (a 4),.int .i64 (c 5),.int .i64 (a 5),.int .i64 (c 6),.int .i64 (a 6),.int .i64 (c 7),.int .i64 (a 7)]
theorem eh(c a:Int)(d:Nat)(w:World):(Op.equalIn (d+2) 39 (.agg #[.int .i64 c,.int .i64 a]) (.agg #[.int .i64 c,.int .i64 a])).run prog w=.ok true w:=by
 rw[run_equalIn_agg w (d+1) _ _ _ (by kernel_rfl) (by kernel_rfl)];unfold Program.fieldsOf;rw[underlying39];have b:=underlying3;have e:=underlying37;simp[Op.eqFields,go_sem,b,e]
theorem Zu(c a:Nat->Int)(i:Nat)(b:i<8)(w:World):(part 39 (anA c a) (i*2)).run prog w=.ok (.agg #[.int .i64 (c i),.int .i64 (a i)]) w:=by
 rcases(by omega:i=0\/i=1\/i=2\/i=3\/i=4\/i=5\/i=6\/i=7)with rfl|rfl|rfl|rfl|rfl|rfl|rfl|rfl
 all_goals kernel_rfl
theorem Zv(c a:Nat->Int)(d:Nat)(w:World):(Op.equalIn (d+3) 40 (.agg (anA c a)) (.agg (anA c a))).run prog w=.ok true w:=by
 rw[run_equalIn_array (P:=prog) w (d+2) (t:=40) (e:=39) (n:=8) (anA c a) (anA c a) underlying40 (show prog.info? 39=some _ from rfl)];rw[show prog.cellsOf 39=2 by kernel_rfl];refine EW _ (λi b=>⟨.agg #[.int .i64 (c i),.int .i64 (a i)],?_,eh _ _ _ _⟩);exact Zu c a i (by simpa using b) w
theorem cG(s:Sto)(d:Nat)(w:World):(Op.equalIn (d+4) 43 (.agg (stA s)) (.agg (stA s))).run prog w=.ok true w:=by
 rw[run_equalIn_agg w (d+3) _ _ _ (by kernel_rfl) (by kernel_rfl)];unfold Program.fieldsOf;rw[underlying43];have f:(part 36 (stA s) 0).run prog w=.ok (.agg (vaA s.V)) w:=by kernel_rfl
 have g:(part 36 (stA s) 8).run prog w=.ok (.agg (vaA s.L)) w:=by kernel_rfl
 have h:(part 40 (stA s) 16).run prog w=.ok (.agg (anA s.C s.A)) w:=by kernel_rfl
 have i:(part 41 (stA s) 32).run prog w=.ok (.agg (boA s.R)) w:=by kernel_rfl
 have a:=TD s.V (d+1) w;have b:=TD s.L (d+1) w;have c:=Zv s.C s.A d w;have e:=ZC s.R (d+1) w;simp[Op.eqFields,Sem.run_bind,f,g,h,i,a,b,c,e,Result.andThen_ok]
theorem fu(s:Sto):∀ w,(binOp .neq 43 (.agg (stA s)) (.agg (stA s))).run prog w=.ok (.bool false) w:=by
 intro w;rw[run_neq_struct,cG s 9996 w];rfl
theorem dJ(c:Array TypeId)(t:TypeId)(a b m:Nat)(h:m=min a b):(Builtin.min_ c t #[iv (a:Int),iv (b:Int)]).run P W=.ok (iv (m:Int)) W:=by
 rw[bP,show min (a:Int) (b:Int)=(m:Int)by omega]
theorem iN(x:S3)(k:Nat)(b:k<=x.c):(Instr.sliceAt 34 x.v none (some (iv (k:Int))) (some (iv (k:Int)))).run prog W=.ok (S3.v ⟨x.a,k,k⟩) W:=by
 rw[run_sliceAt_slice _ _ _ _ _ _ unC,run_slice_hm (P:=prog) (w:=W) _ _ _ _ unC .i64 .i64 k k (by omega) (by omega) (by omega),sz5];simp only[Result.andThen,sliced,kx,ng,Nat.sub_zero];split
 .rfl
 .cases x.a<;>rfl
theorem dL(h:RdC w x l){k:Nat}(e:k<=l.length):RdC w ⟨x.a,k,k⟩ (l.take k):=by
 refine⟨by simp;omega,A' _,λc=>?_,?_⟩
 .rcases h.ex with rfl|⟨b,off,h1,_⟩
  .simpa using e
  .have c:x.a=none:=c;rw[c]at h1;cases h1
 .rcases h.ex with rfl|⟨b,off,h1,h2,h3⟩
  .exact .inl (by simp)
  .exact .inr ⟨b,off,h1,h2,λj u d=>h3 j u (Pc l k d)⟩
theorem iG{x:Operand}(s:Sto):(do Go.eqGuard .neq 43 x y (.agg (stA s)) (.agg (stA s));Go.binOp .neq 43 (.agg (stA s)) (.agg (stA s)):Sem Value).run prog W=.ok (.bool false) W:=by
 have a:(Go.eqGuard .neq 43 x y (.agg (stA s)) (.agg (stA s))).run prog W=.ok () W:=by kernel_rfl
 rw[Sem.run_bind,a,Result.andThen_ok];exact fu s W
theorem Nq{x:Operand}(s:ByteArray):(do Go.eqGuard .neq 9 x y (.string s) (.string s);Go.binOp .neq 9 (.string s) (.string s):Sem Value).run prog W=.ok (.bool false) W:=by
 have b:(Go.eqGuard .neq 9 x y (.string s) (.string s)).run prog W=.ok () W:=by kernel_rfl
 rw[Sem.run_bind,b,Result.andThen_ok];simp[go_sem]
theorem VJ{m:List Cmd}(h:alk l m=true){k:Nat}(h1:k<=l.length)(h2:k<=m.length):l.take k=m.take k:=by
 induction l generalizing m k with
 | nil=>have h3:k=0:=(by simpa using h1);subst h3;rfl
 | cons c l ih =>
  cases k with
  | zero=>rfl
  | succ k =>
   cases m with
   | nil=>simp at h2
   | cons d m =>
    rw[alk]at h
    simp at h h1 h2;rw[kL,kL,h.1,ih h.2 (by omega) (by omega)]
theorem LV{l:S3}{G:List Gr}(h:RdV w l 5 (grL G))(hG:∀ g∈G,GrOk g)(X:Q9 w) :
  Calls prog 3 #[l.v] w λe w'=>e=.returned (.bool true)/\Bw w w':=by
 obtain⟨L,hL⟩:∃ L,scr G 100 true=L:=⟨_,rfl⟩;have W:=fX G 100 true;have b7:=cA G 100 true;rw[hL]at W b7
 have f9:(G0 60).length=365:=Yn 60;have D:∀ x∈L++G0 60,LacOk x:=λx hx=>(Q'.1 hx).elim (W x) (bY 60 x);have f8:(L++G0 60).length<=465:=by rw[M'];omega
 have a2:=fS L W 60 (by omega) (j:=0) (by decide);have hS:=dZ (S:=λc=>c.e=0) (L++G0 60) D (by omega) λx _ _ g2 e=>by rw[XM e];exact iS (iz e)
 have V:=OM _ D (by omega);have a1:=λ{i j:Nat} hi N=>Zr D (by omega) (i:=i) (j:=j) hi N;obtain⟨M,hM⟩:∃ M,AQ.nn (L++G0 60)=M:=⟨_,rfl⟩;rw[hM]at a2 hS V
 simp only[hM]at a1;have a8:∀ j,j<5->∀ c∈M.log j,c.e=0:=λj N c hc=>(hS.nd j N).ag c (jU hc);have a9:∀ j,j<5->(M.log j).length<=40:=λj N=>by unfold Meet.log;rw[X'];have:=(V.af j N).ag;omega
 clear hS V;refine tIn [] func3 trivial (tR 7 [] λg3 _ _=>tC 1 (λF C=>Vl (most:=100) (cr:=true) (h.ab (CgQ.ab C)) hG (by decide) (tbA X.1 C)) λO=>?_);rintro _ _ ⟨s,P,rfl,hP,hN,b2⟩;refine⟨_,Fa.ac s P::_,rfl,b2,λF=>⟨hN.ac O,F⟩,?_⟩;rw[hL]at hP
 have f3:P.length=L.length:=by rw[<- hP,ka]
 refine tC 2 (λF C=>Vh (many:=60) (AcR.of F.1 rfl).r (AcR.of F.1 rfl).d (by omega)) λO=>?_;rintro _ _ ⟨z,rfl,hz,b4⟩;refine⟨_,Fa.ac z (P++rnP (G0 60))::_,rfl,b4,λF=>⟨⟨hz.fz O,Dat.app F.1.2 (bV _ _ (fR _))⟩,F⟩,?_⟩;have b3:(P++rnP (G0 60)).map (·.1)=L++G0 60:=by rw[jW,hP,bW]
 refine tC 3 (λF C=>fP (AcR.of F.1 b3) D (by omega) (tb5 X C) hM a2) λO=>?_;rintro _ _ ⟨H,tv,b,rfl,hW,hO,b6⟩;refine⟨_,[Fa.ot H tv b M],rfl,b6,λF=>⟨Tr hW hO O,trivial⟩,?_⟩;refine tF λF _=>?_;have f6:=(Ts F.1).n5;obtain⟨bl,fl,K,_⟩:=F.1.oC.rd.spot (i:=0) (by omega);have a4:∀ j,j<5->(b j).n=(M.log j).length:=λj N=>gV (F.1.log j N).rd;have a3:∀ j,j<5->(b j).n<=(b j).c:=λj N=>(F.1.log j N).rd.cap;refine tR 13 [1,0,0,0] λo _ _=>Eh 120 [(3,pt (o 0) 0),(4,.bool true),(5,iv 0)] [true] [⟨(o 0),.cells #[iv (M.bt.length:Int),.bool true,.bool (M.af 1).up,.bool (M.af 2).up,.bool (M.af 3).up,.bool (M.af 4).up,S3.v H,iv ((M.af 0).bad:Int),iv ((M.af 1).bad:Int),iv ((M.af 2).bad:Int),iv ((M.af 3).bad:Int),iv ((M.af 4).bad:Int),S3.v tv] 28,.l,false⟩] [Fa.ot H tv b M] (λkk U T p=>∃ (i:Nat),kk=5-i/\U=[(3,pt (o 0) 0),(4,.bool true),(5,iv (i:Int))]/\T=[⟨(o 0),.cells (PR M H tv) 28,.l,false⟩]/\p=[Fa.ot H tv b M]/\i<=5) (5) ⟨0,rfl,rfl,rfl,rfl,by omega⟩ (λF=>⟨F.1,trivial⟩) ?_;rintro k _ _ _ ⟨i,rfl,rfl,rfl,rfl,hi⟩ _ _ _ J I;refine tR 4 [] λg4 _ _=>?_;by_cases h1:i<5
 .refine tV 1 (.bool true) (λF C=>(rLt (t:=3) (m:=(i:Int)) (n:=5) (x:=(.tmp 21)) (y:=(.const (iv 5))) (I' (by omega)))) (tR 13 [] λg5 _ _=>Eh 120 [(3,pt (o 0) 0),(4,.bool true),(5,iv (i:Int)),(6,iv 0)] [true] [⟨(o 0),.cells (PR M H tv) 28,.l,false⟩] [Fa.ot H tv b M] (λkk U T p=>∃ (j:Nat),kk=i-j/\U=[(3,pt (o 0) 0),(4,.bool true),(5,iv (i:Int)),(6,iv (j:Int))]/\T=[⟨(o 0),.cells (PR M H tv) 28,.l,false⟩]/\p=[Fa.ot H tv b M]/\j<=i) (i) ⟨0,rfl,rfl,rfl,rfl,by omega⟩ (λF=>⟨F.1,trivial⟩) ?_);rintro k _ _ _ ⟨j,rfl,rfl,rfl,rfl,N⟩ _ _ _ JK b1;refine tR 7 [] λb9 _ _=>?_;by_cases h5:j<i
  .refine tI ((decide ((j:Int)<(i:Int)))) true (I' (by omega)) ?_;obtain⟨k,hk⟩:∃ k:Nat,k=min (b i).n (b j).n:=⟨_,rfl⟩;have g0:=a4 i (by omega);have g1:=a4 j (by omega);have f7:=a9 i (by omega);have f4:=a3 i (by omega);have f5:=a3 j (by omega);obtain⟨A,hA⟩:∃ A,(M.log i).take k=A:=⟨_,rfl⟩;have hB:=VJ (a1 (i:=i) (j:=j) (by omega) (by omega)) (k:=k) (by omega) (by omega);rw[hA]at hB
   have a0:A.length=k:=by rw[<- hA,X'];omega
   have Z:∀ c∈A,c.e=0:=λc hc=>a8 i (by omega) c (jU (hA▸hc));obtain⟨f,hf⟩:∃ f:Nat->Cmd,∀ i c,A[i]?=some c->f i=c:=⟨λi=>A.getD i QS,λi c e=>by simp[List.getD_eq_getElem?_getD,e]⟩;refine tR 4 [] λc0 _ _=>JY 120 (λU T p=>∃ (_:Unit),U=[(3,pt (o 0) 0),(4,.bool true),(5,iv (i:Int)),(6,iv (j:Int)),(7,iv (k:Int))]/\T=[⟨(o 0),.cells (PR M H tv) 28,.l,false⟩]/\p=[Fa.ot H tv b M]) (λJ I=>?_) ?_
   .refine tR 4 [14,0,2,0,4] λc1 _ _=>tT 3 (pt bl (fl+i)) (λ_=>(Tv K i (by omega))) (tR 3 [12,14,0,16] λc2 _ _=>tT 9 (pt bl (fl+j)) (λ_=>(Tv K j (by omega))) (Hh 4 10 ?_ ?_))
    .refine tF λF _=>tV 4 (S3.v (b i)) (λF C=>(BX underlying34 rfl (Gp F.1.oC.rd K (by omega)))) (tR 1 [10] λc3 _ _=>tF λF _=>tV 10 (S3.v (b j)) (λF C=>(BX underlying34 rfl (Gp F.1.oC.rd K (by omega)))) (tR 1 [22] λc4 _ _=>tT 12 (iv (k:Int)) (λ_=>(dJ #[3,3] 3 (b i).n (b j).n k hk)) (tR 2 [26] λc5 _ _=>tD I [true] ⟨(),rfl,rfl,rfl⟩ (λF=>⟨F.1,trivial⟩))))
    .refine tF λF _=>tV 10 (S3.v (b j)) (λF C=>(BX underlying34 rfl (Gp F.1.oC.rd K (by omega)))) (tR 1 [22] λc6 _ _=>tF λF _=>tV 4 (S3.v (b i)) (λF C=>(BX underlying34 rfl (Gp F.1.oC.rd K (by omega)))) (tR 1 [10] λc7 _ _=>tT 12 (iv (k:Int)) (λ_=>(dJ #[3,3] 3 (b i).n (b j).n k hk)) (tR 2 [26] λc8 _ _=>tD I [true] ⟨(),rfl,rfl,rfl⟩ (λF=>⟨F.1,trivial⟩))))
   rintro _ _ _ ⟨_,rfl,rfl,rfl⟩ _ _ _;refine tR 5 [0] λc9 _ _=>tV 3 (pt bl (fl+i)) (λF C=>(Tv K i (by omega))) (tF λF _=>tV 4 (S3.v (b i)) (λF C=>(BX underlying34 rfl (Gp F.1.oC.rd K (by omega)))) (tR 2 [] λd0 _ _=>tV 7 (.slice (b i).a k k) (λF C=>(iN (b i) k (by omega))) (tC 8 (λF C=>OZ (x:=⟨(b i).a,k,k⟩) ((hA▸(dL (F.1.log i (by omega)).rd.rc (by omega)).rv)) (by omega) Z (X.1.t.ab (CgQ.ab C)) (X.1.n.ab (CgQ.ab C)) hf) λO=>?_)));rintro _ _ ⟨z,E,rfl,hE,b0,a6⟩;refine⟨_,Fa.en z E::_,rfl,a6,λF=>⟨b0.en O,F⟩,?_⟩;refine tR 14 [1,0,1,0,0] λd1 _ _=>tV 3 (pt bl (fl+j)) (λF C=>(Tv K j (by omega))) (tF λF _=>tV 4 (S3.v (b j)) (λF C=>(BX underlying34 rfl (Gp F.2.1.oC.rd K (by omega)))) (tR 2 [] λd2 _ _=>tV 7 (.slice (b j).a k k) (λF C=>(iN (b j) k (by omega))) (tC 8 (λF C=>OZ (x:=⟨(b j).a,k,k⟩) ((hB.symm▸(dL (F.2.1.log j (by omega)).rd.rc (by omega)).rv)) (by omega) Z (X.1.t.ab (CgQ.ab C)) (X.1.n.ab (CgQ.ab C)) hf) λO=>?_)));rintro _ _ ⟨y,Y,rfl,hY,b5,a7⟩;refine⟨_,Fa.en y Y::_,rfl,a7,λF=>⟨b5.en O,F⟩,?_⟩;refine tF λF _=>?_;have b8:z.n=k:=(eM F.2.1).trans (hE.len.trans a0);have a5:y.n=k:=(eM F.1).trans (hY.len.trans a0);refine tR 21 [1,0,2,0,1,2] λd3 _ _=>tV 9 (.bool false) (λF C=>(iG (x:=(.tmp 79)) (y:=(.tmp 80)) (sAt f A.length))) (tR 5 [] λd4 _ _=>tV 15 (.bool false) (λF C=>(FO (t:=3) (m:=(z.n:Int)) (n:=(k:Int)) (x:=(.tmp 85)) (y:=(.tmp 86)) (by rw[b8];simp))) (tR 5 [] λd5 _ _=>tV 21 (.bool false) (λF C=>(FO (t:=3) (m:=(y.n:Int)) (n:=(k:Int)) (x:=(.tmp 91)) (y:=(.tmp 92)) (by rw[a5];simp))) (tR 5 [] λd6 _ _=>JY 120 (λU T p=>∃ (_:Unit),U=[(3,pt (o 0) 0),(4,.bool true),(5,iv (i:Int)),(6,iv (j:Int)),(113,.bool false)]/\T=[⟨(o 0),.cells (PR M H tv) 28,.l,false⟩]/\p=[Fa.ot H tv b M]) (λJ I=>?_) ?_)))
   .refine tR 2 [19,0] λd7 _ _=>?_;by_cases h7:0<k
    .refine tT 1 (.bool true) (λ_=>(rGt (t:=3) (m:=(k:Int)) (n:=0) (x:=(.tmp 95)) (y:=(.const (iv 0))) (I' (by omega)))) (tF λF _=>?_);obtain⟨u1,q⟩:=hE.at (i:=k-1) (by omega);obtain⟨u2,u⟩:=hY.at (i:=k-1) (by omega);obtain⟨zb,zo,R,_⟩:=F.2.1.1.rd.spot (i:=k-1) (by omega);obtain⟨yb,yo,Q,_⟩:=F.1.1.rd.spot (i:=k-1) (by omega);refine tR 3 [4,6,8] λd8 _ _=>tT 5 (iv ((k-1:Nat):Int)) (λ_=>(Yi (x:=(.tmp 99)) (y:=(.const (iv 1))) k 1 underlying3 (by omega) (by omega))) (tT 6 (pt zb (zo+8*(k-1))) (λ_=>(dE R (k-1) (by omega))) (tR 3 [14,20,22] λd9 _ _=>tT 12 (iv ((k-1:Nat):Int)) (λ_=>(Yi (x:=(.tmp 106)) (y:=(.const (iv 1))) k 1 underlying3 (by omega) (by omega))) (tT 13 (pt yb (yo+8*(k-1))) (λ_=>(dE Q (k-1) (by omega))) (tR 1 [28] λe0 _ _=>Hh 8 15 ?_ ?_))))
     .refine tF λF _=>tV 8 (S3.v u1) (λF C=>(BX underlying48 rfl (MT F.2.1 R q (j:=7) rfl))) (Hh 9 15 ?_ ?_)
      .refine tF λF _=>tV 9 (.string (strOfNums (gAt f (k-1+1)))) (λF C=>(As _ 48 9 5 underlying48 underlying5 underlying9 _ _ (F.2.1.2 _ (jJ q)).s)) (tF λF _=>tV 15 (S3.v u2) (λF C=>(BX underlying48 rfl (MT F.1 Q u (j:=7) rfl))) (tF λF _=>tV 16 (.string (strOfNums (gAt f (k-1+1)))) (λF C=>(As _ 48 9 5 underlying48 underlying5 underlying9 _ _ (F.1.2 _ (jJ u)).s)) (tT 17 (.bool false) (λ_=>(Nq (x:=(.tmp 104)) (y:=(.tmp 111)) (strOfNums (gAt f (k-1+1))))) (tR 2 [36] λe1 _ _=>tD I [true,false,false] ⟨(),rfl,rfl,rfl⟩ (λF=>⟨F.2.2.1,trivial⟩)))))
      .refine tF λF _=>tV 15 (S3.v u2) (λF C=>(BX underlying48 rfl (MT F.1 Q u (j:=7) rfl))) (Hh 9 16 ?_ ?_)
       .refine tF λF _=>tV 9 (.string (strOfNums (gAt f (k-1+1)))) (λF C=>(As _ 48 9 5 underlying48 underlying5 underlying9 _ _ (F.2.1.2 _ (jJ q)).s)) (tF λF _=>tV 16 (.string (strOfNums (gAt f (k-1+1)))) (λF C=>(As _ 48 9 5 underlying48 underlying5 underlying9 _ _ (F.1.2 _ (jJ u)).s)) (tT 17 (.bool false) (λ_=>(Nq (x:=(.tmp 104)) (y:=(.tmp 111)) (strOfNums (gAt f (k-1+1))))) (tR 2 [36] λe2 _ _=>tD I [true,false,false] ⟨(),rfl,rfl,rfl⟩ (λF=>⟨F.2.2.1,trivial⟩))))
       .refine tF λF _=>tV 16 (.string (strOfNums (gAt f (k-1+1)))) (λF C=>(As _ 48 9 5 underlying48 underlying5 underlying9 _ _ (F.1.2 _ (jJ u)).s)) (tF λF _=>tV 9 (.string (strOfNums (gAt f (k-1+1)))) (λF C=>(As _ 48 9 5 underlying48 underlying5 underlying9 _ _ (F.2.1.2 _ (jJ q)).s)) (tT 17 (.bool false) (λ_=>(Nq (x:=(.tmp 104)) (y:=(.tmp 111)) (strOfNums (gAt f (k-1+1))))) (tR 2 [36] λe3 _ _=>tD I [true,false,false] ⟨(),rfl,rfl,rfl⟩ (λF=>⟨F.2.2.1,trivial⟩))))
     .refine tF λF _=>tV 15 (S3.v u2) (λF C=>(BX underlying48 rfl (MT F.1 Q u (j:=7) rfl))) (Hh 8 16 ?_ ?_)
      .refine tF λF _=>tV 8 (S3.v u1) (λF C=>(BX underlying48 rfl (MT F.2.1 R q (j:=7) rfl))) (Hh 9 16 ?_ ?_)
       .refine tF λF _=>tV 9 (.string (strOfNums (gAt f (k-1+1)))) (λF C=>(As _ 48 9 5 underlying48 underlying5 underlying9 _ _ (F.2.1.2 _ (jJ q)).s)) (tF λF _=>tV 16 (.string (strOfNums (gAt f (k-1+1)))) (λF C=>(As _ 48 9 5 underlying48 underlying5 underlying9 _ _ (F.1.2 _ (jJ u)).s)) (tT 17 (.bool false) (λ_=>(Nq (x:=(.tmp 104)) (y:=(.tmp 111)) (strOfNums (gAt f (k-1+1))))) (tR 2 [36] λe4 _ _=>tD I [true,false,false] ⟨(),rfl,rfl,rfl⟩ (λF=>⟨F.2.2.1,trivial⟩))))
       .refine tF λF _=>tV 16 (.string (strOfNums (gAt f (k-1+1)))) (λF C=>(As _ 48 9 5 underlying48 underlying5 underlying9 _ _ (F.1.2 _ (jJ u)).s)) (tF λF _=>tV 9 (.string (strOfNums (gAt f (k-1+1)))) (λF C=>(As _ 48 9 5 underlying48 underlying5 underlying9 _ _ (F.2.1.2 _ (jJ q)).s)) (tT 17 (.bool false) (λ_=>(Nq (x:=(.tmp 104)) (y:=(.tmp 111)) (strOfNums (gAt f (k-1+1))))) (tR 2 [36] λe5 _ _=>tD I [true,false,false] ⟨(),rfl,rfl,rfl⟩ (λF=>⟨F.2.2.1,trivial⟩))))
      .refine tF λF _=>tV 16 (.string (strOfNums (gAt f (k-1+1)))) (λF C=>(As _ 48 9 5 underlying48 underlying5 underlying9 _ _ (F.1.2 _ (jJ u)).s)) (tF λF _=>tV 8 (S3.v u1) (λF C=>(BX underlying48 rfl (MT F.2.1 R q (j:=7) rfl))) (tF λF _=>tV 9 (.string (strOfNums (gAt f (k-1+1)))) (λF C=>(As _ 48 9 5 underlying48 underlying5 underlying9 _ _ (F.2.1.2 _ (jJ q)).s)) (tT 17 (.bool false) (λ_=>(Nq (x:=(.tmp 104)) (y:=(.tmp 111)) (strOfNums (gAt f (k-1+1))))) (tR 2 [36] λe6 _ _=>tD I [true,false,false] ⟨(),rfl,rfl,rfl⟩ (λF=>⟨F.2.2.1,trivial⟩)))))
    .refine tT 1 (.bool false) (λ_=>(rGt (t:=3) (m:=(k:Int)) (n:=0) (x:=(.tmp 95)) (y:=(.const (iv 0))) (D' (by omega)))) (tR 18 [4,6,8,10,12,14,16,18,20,22,24,26,28,30,32,34,36] λe7 _ _=>tD I [true,false,false] ⟨(),rfl,rfl,rfl⟩ (λF=>⟨F.2.2.1,trivial⟩))
   rintro _ _ _ ⟨_,rfl,rfl,rfl⟩ _ _ _;refine tR 5 [] λe8 _ _=>tV 1 (iv ((j:Int)+1)) (λF C=>(AR 31 (j:Int) underlying3 (by omega))) (tR 2 [] λe9 _ _=>tB b1 (i-(j+1)) (by omega) [true] ⟨j+1,rfl,rfl,rfl,rfl,by omega⟩ (λF=>⟨F.1,trivial⟩))
  .refine tI ((decide ((j:Int)<(i:Int)))) false (D' (by omega)) (tR 4 [] λf0 _ _=>tV 1 (iv ((i:Int)+1)) (λF C=>(AR 26 (i:Int) underlying3 (by omega))) (tR 2 [] λf1 _ _=>tB I (5-(i+1)) (by omega) [true] ⟨i+1,rfl,rfl,rfl,rfl,by omega⟩ (λF=>⟨F.1,trivial⟩)))
 .refine tV 1 (.bool false) (λF C=>(rLt (t:=3) (m:=(i:Int)) (n:=5) (x:=(.tmp 21)) (y:=(.const (iv 5))) (D' (by omega)))) (tR 16 [0] λf2 _ _=>tE (.bool true) λ_ B=>⟨rfl,B⟩)
end
end
end Go.Proofs.YthohlalejhgbmaaGreatDoor
