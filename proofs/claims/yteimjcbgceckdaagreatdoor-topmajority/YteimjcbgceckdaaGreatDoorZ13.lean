/- Part 13 of the walk. -/
import Derived.Test.YteimjcbgceckdaaGreatDoorZ12
set_option maxRecDepth 100000
set_option maxHeartbeats 4000000
set_option linter.unusedVariables false
namespace Go.Proofs.YteimjcbgceckdaaGreatDoor
section
theorem Wn(p:Nod)(i:Nat)(q:Pend)(x:List Pend):({ p with bu:=x }:Nod).nf i q={ p.nf i q with bu:=x }:=by
 cases q with
 | began b vs=>unfold Nod.nf;simp only;split<;>rfl
 | prop v =>
  unfold Nod.nf Nod.count;simp only;split
  .rfl
  .split<;>rfl
 | _=>rfl
theorem EV(p:Nod)(i:Nat)(q:Pend):(p.nf i q).bu=p.bu/\(p.nf i q).up=p.up/\(p.nf i q).d=p.d/\(p.nf i q).sy=p.sy:=by
 cases q with
 | began b vs=>unfold Nod.nf;simp only;split<;>exact⟨rfl,rfl,rfl,rfl⟩
 | prop v =>
  unfold Nod.nf Nod.count;simp only;split
  .exact⟨rfl,rfl,rfl,rfl⟩
  .split<;>exact⟨rfl,rfl,rfl,rfl⟩
 | _=>exact⟨rfl,rfl,rfl,rfl⟩
theorem Tf(p:Nod)(i:Nat)(q:Pend)(x:List Pend):({ p with bu:=x }:Nod).qq i q=p.qq i q:=by cases q<;>rfl
theorem Gv(p:Nod)(c:Cmd):(p.gC c).up=p.up/\(p.gC c).ae=p.ae/\(p.gC c).done=p.done/\(p.gC c).ov=p.ov:=by unfold Nod.gC;split<;>exact⟨rfl,rfl,rfl,rfl⟩
theorem RM(p:Nod)(l:List Cmd):(p.eb l).up=p.up:=by unfold Nod.eb;split<;>rfl
theorem K9(p:Nod)(i:Nat):(p.lp i).1.up=p.up:=by
 unfold Nod.lp;split
 .rfl
 .split
  .exact RM _ _
  .rfl
theorem eI(p:Nod)(v:Vt):(p.cl v).1.up=p.up:=by
 unfold Nod.cl;split
 .rfl
 .split
  .rfl
  .split<;>rfl
theorem F5(p:Nod):p.cF.up=p.up:=by
 unfold Nod.cF;split
 .rfl
 .split
  .rfl
  .split
   .rfl
   .exact eI p _
structure Wh where
 d:Nat->List Int->Prop
 ld:Prop
 cr:Prop
 dr:Prop
 tk:Prop
 st:Prop
def Wh.may(D:Wh)(x:Lac):Prop:=(x.k=1->D.d x.n.toNat x.d)/\(x.k=2->D.ld)/\(x.k=8->D.cr)/\(x.k=4\/x.k=5\/x.k=6\/x.k=7->D.dr/\D.tk)/\(x.k=9->D.st)
inductive Stp (D:Wh):Nat->Meet->Meet->Prop
 | take (M:Meet) (l:Let) (hl:l∈M.br) (hd:l.src<5/\l.dst<5) (hu:(M.ab l.dst).up=true) (ht:D.tk):Stp D 0 M (M.set l.dst ((M.ab l.dst).take l) M.br M.ed)
 | br (M:Meet) (ls:List Let) (h:∀ l∈ls,l∈M.br) (hd:D.dr):Stp D 0 M { M with br:=ls }
 | one (M:Meet) (i:Nat) (c:Cmd) (hi:i<5) (hu:(M.ab i).up=true) (hc:(M.ab i).ae[(M.ab i).done]?=some c) (he:doE (M.ab i).ov c=0) :
   Stp D 0 M (M.set i (Nod.gC { M.ab i with ov:=doS (M.ab i).ov c,done:=(M.ab i).done+1 } c) M.br (if((M.ab i).bN c).isSome=true then M.ed++[⟨i,c.c,c.s,doC (M.ab i).ov c,doA (M.ab i).ov c⟩]else M.ed))
 | ask (M:Meet) (i:Nat) (hi:i<5) (hu:(M.ab i).up=true):Stp D 0 M (M.set i ((M.ab i).lp i).1 (M.br++((M.ab i).lp i).2) M.ed)
 | prop (M:Meet) (i:Nat) (hi:i<5) (hu:(M.ab i).up=true):Stp D 1 M (M.set i (M.ab i).cF M.br M.ed)
 | qD (M:Meet) (i:Nat) (hi:i<5) (hu:(M.ab i).up=true) (h:(M.ab i).sy<((M.ab i).d.length:Int)) (hT:Be (M.ab i).d (M.ab i).sy):Stp D 0 M (M.set i { M.ab i with sy:=((M.ab i).d.length:Int) } M.br M.ed)
 | run (M:Meet) (i:Nat) (hi:i<5) (hu:(M.ab i).up=true) (q:Pend) (l:List Pend) (hp:(M.ab i).bu=q::l) (hs:¬ (M.ab i).sy<((M.ab i).d.length:Int)):Stp D 0 M (M.set i { (M.ab i).nf i q with bu:=l } (M.br++(M.ab i).qq i q) M.ed)
 | teach (M:Meet) (i:Nat) (hi:i<5) (hu:(M.ab i).up=true) (hL:(M.ab i).leads=true):Stp D 0 M (M.set i (Ew (M.ab i) i 5) (M.br++CS (M.ab i) i 5) M.ed)
 | lead (M:Meet) (i:Nat) (hi:i<5) (hu:(M.ab i).up=true) (hL:D.ld):Stp D 0 M (M.set i ((M.ab i).lead i) M.br M.ed)
 | sub (M:Meet) (i:Nat) (d:List Int) (hi:i<5) (hu:(M.ab i).up=true) (hD:D.d i d):Stp D 0 M (M.set i ((M.ab i).qx i d M.ed).1 M.br ((M.ab i).qx i d M.ed).2)
 | lr (M:Meet) (i:Nat) (k:Int) (hi:i<5) (hu:(M.ab i).up=true) (hk:0<=k) (hC:D.cr):Stp D 0 M (M.set i ((M.ab i).lr k) M.br M.ed)
 | start (M:Meet) (i:Nat) (hi:i<5) (hu:(M.ab i).up=false) (hs:D.st):Stp D 0 M (M.set i (M.ab i).start M.br M.ed)
inductive Sts (D:Wh):Nat->Meet->Meet->Prop
 | nil (n:Nat) (M:Meet):Sts D n M M
 | snoc {n c m:Nat} {M N K:Meet} (h:Sts D n M N) (s:Stp D c N K) (hm:n+c<=m):Sts D m M K
section
variable{D:Wh}
section
variable{K M N:Meet}{i m n:Nat}{α:Type}
theorem Sts.mono(h:Sts D n M N)(a:n<=m):Sts D m M N:=by
 cases h with
 | nil=>exact .nil m M
 | snoc h s hm=>exact .snoc h s (by omega)
theorem Sts.trans(h:Sts D n M N)(k:Sts D m N K):Sts D (n+m) M K:=by
 induction k with
 | nil=>exact h.mono (by omega)
 | snoc _ s hm ih=>exact(ih h).snoc s (by omega)
theorem Sts.s0(h:Sts D n M N)(s:Stp D 0 N K):Sts D n M K:=h.snoc s (A' _)
theorem Stp.s(h:Stp D 0 M N):Sts D n M N:=(Sts.nil n M).s0 h
theorem Sts.inv{I:Meet->Prop}(b:∀ c M N,Stp D c M N->I M->I N){n:Nat}{M N:Meet}(h:Sts D n M N)(a:I M):I N:=by
 induction h with
 | nil=>exact a
 | snoc _ s _ ih=>exact b _ _ _ s (ih a)
theorem Mp(f:Nat->α)(i:Nat):upN f i (f i)=f:=by funext j;unfold upN;split<;>simp_all
theorem UD(f:Nat->α)(i:Nat)(x y:α):upN (upN f i x) i y=upN f i y:=by funext j;unfold upN;split<;>rfl
theorem Ca(M:Meet)(i:Nat)(p q:Nod)(c a:List Let)(d b:List Tol):(M.set i p c d).set i q a b=M.set i q a b:=by unfold Meet.set;simp only[UD]
theorem Bn(M:Meet)(i:Nat)(p:Nod)(a:List Let)(b:List Tol):(M.set i p a b).ab i=p:=CT M.ab i p
theorem Ea(M:Meet)(l:Let):(M.qh l).br=M.br:=by unfold Meet.qh;split<;>rfl
theorem Nk(M:Meet)(l:Let)(a:List Let):({ M with br:=a }:Meet).qh l={ M.qh l with br:=a }:=by
 unfold Meet.qh;show(if(M.ab l.dst).up=true then _ else _)=_;split<;>rfl
theorem Hh(l:List Let)(M:Meet)(a:List Let):l.foldl (λM l=>M.qh l) ({ M with br:=a }:Meet)={ l.foldl (λM l=>M.qh l) M with br:=a }:=by
 induction l generalizing M with
 | nil=>rfl
 | cons x l ih=>rw[qe,Nk,ih];rfl
theorem Sts.qh(c:D.tk){n:Nat}{M N:Meet}(h:Sts D n M N){l:Let}(b:l∈N.br)(a:l.src<5/\l.dst<5):Sts D n M (N.qh l):=by
 unfold Meet.qh;split
 .rename_i hu;exact h.s0 (.take N l b a hu c)
 .exact h
theorem Sts.comes(c:D.tk)(l:List Let){n:Nat}{M N:Meet}(h:Sts D n M N)(a:∀ m∈l,m∈N.br/\m.src<5/\m.dst<5):Sts D n M (l.foldl (λM l=>M.qh l) N):=by
 induction l generalizing N with
 | nil=>exact h
 | cons x l ih=>exact ih (h.qh c (a x M').1 (a x M').2) λm b=>by rw[Ea];exact a m (I' _ b)
theorem Sts.qJ(k:i<5)(l:List Cmd)(p:Nod){M:Meet}{d:List Let}{a:List Tol}(h:Sts D n M (M.set i p d a))(b:p.up=true)(g:p.ae.drop p.done=l) :
  Sts D n M (M.set i (qJ i l p a).1 d (Go.Proofs.YteimjcbgceckdaaGreatDoor.qJ i l p a).2)/\(Go.Proofs.YteimjcbgceckdaaGreatDoor.qJ i l p a).1.up=true:=by
 induction l generalizing p a with
 | nil=>exact⟨h,b⟩
 | cons c l ih =>
  rw[Go.Proofs.YteimjcbgceckdaaGreatDoor.qJ];split
  .exact⟨h,b⟩
  .rename_i he
   have j:p.ae[p.done]?=some c:=by have:=congrArg (·[0]?) g;simpa using this
   have f:=Gv { p with ov:=doS p.ov c,done:=p.done+1 } c;have e:=Bn M i p d a;have s:=Stp.one (D:=D) (M.set i p d a) i c k (by rw[e];exact b) (by rw[e];exact j) (by rw[e];exact lX.1 he);rw[e,Ca]at s
   refine ih _ (h.s0 s) (f.1.trans b) ?_;rw[f.2.1,f.2.2.1];show p.ae.drop (p.done+1)=l;rw[<- pc,g];rfl
theorem Sts.qk(g:i<5)(l:List Pend)(p:Nod){M:Meet}{ls:List Let}{ts:List Tol}(h:Sts D n M (M.set i { p with bu:=l } ls ts))(b:p.up=true)(f:p.bu=[])(c:¬ p.sy<(p.d.length:Int)) :
  Sts D n M (M.set i (qk i l p ls).1 (Go.Proofs.YteimjcbgceckdaaGreatDoor.qk i l p ls).2 ts)/\(Go.Proofs.YteimjcbgceckdaaGreatDoor.qk i l p ls).1.up=true:=by
 induction l generalizing p ls with
 | nil =>
  have:({ p with bu:=[] }:Nod)=p:=by cases p;simp_all
  rw[this]at h;exact⟨h,b⟩
 | cons q l ih =>
  have a:=EV p i q;have e:=Bn M i { p with bu:=q::l } ls ts;have s:=Stp.run (D:=D) (M.set i { p with bu:=q::l } ls ts) i g (by rw[e];exact b) q l (by rw[e]) (by rw[e];exact c);rw[e,Ca,Wn,Tf]at s
  exact ih (p.nf i q) (h.s0 s) (a.2.1.trans b) (a.1.trans f) (by rw[a.2.2.1,a.2.2.2];exact c)
theorem Sts.piece(c:i<5)(M:Meet)(x:(M.ab i).up=true):Sts D 1 M (M.set i ((M.ab i).piece i M.br M.ed).1 ((M.ab i).piece i M.br M.ed).2.1 ((M.ab i).piece i M.br M.ed).2.2):=by
 have w:Sts D 0 M (M.set i (M.ab i) M.br M.ed):=by rw[show M.set i (M.ab i) M.br M.ed=M by unfold Meet.set;rw[Mp]];exact .nil 0 M
 obtain⟨q,l⟩:=Sts.qJ c _ (M.ab i) w x rfl;unfold Nod.piece;simp only;generalize Go.Proofs.YteimjcbgceckdaaGreatDoor.qJ i ((M.ab i).ae.drop (M.ab i).done) (M.ab i) M.ed=a at q l ⊢;have e:=Bn M i a.1 M.br a.2;have s:=Stp.ask (D:=D) (M.set i a.1 M.br a.2) i c (by rw[e];exact l);rw[e,Ca]at s
 have t:=q.s0 s;have n:=(K9 a.1 i).trans l;clear e s q;generalize (a.1.lp i)=b at t n ⊢;have e:=Bn M i b.1 (M.br++b.2) a.2;have s:=Stp.prop (D:=D) (M.set i b.1 (M.br++b.2) a.2) i c (by rw[e];exact n);rw[e,Ca]at s
 have g:=t.snoc s (m:=1) (by omega);have h:=(F5 b.1).trans n;clear e s t;change Sts D 1 M (M.set i b.1.cF (M.br++b.2) a.2)at g;generalize b.1.cF=r at g h ⊢;generalize M.br++b.2=k at g ⊢;have j:Sts D 1 M (M.set i (r.qj i k).1 (r.qj i k).2 a.2)/\(r.qj i k).1.up=true:=by
  unfold Nod.qj;split
  .exact⟨g,h⟩
  .rename_i hn
   have e:=Bn M i r k a.2;unfold Nod.qD;split
   .rename_i h1
    have o:Dl r.d r.sy=0:=lX.1 λe=>hn ⟨h1,e⟩;have p:Be r.d r.sy:=by
     unfold Dl at o;split at o
     .assumption
     .cases o
    have s:=Stp.qD (D:=D) (M.set i r k a.2) i c (by rw[e];exact h) (by rw[e];exact h1) (by rw[e];exact p);rw[e,Ca]at s
    have u:K3 r.d r.sy=r.d:=if_pos p;have v:Mf r.d r.sy=(r.d.length:Int):=if_pos p;rw[u,v];exact Sts.qk c r.bu { r with sy:=(r.d.length:Int),bu:=[] } (g.s0 s) h rfl (Int.lt_irrefl _)
   .rename_i h1
    exact Sts.qk c r.bu { r with bu:=[] } g h rfl h1
 generalize r.qj i k=f at j ⊢;unfold Nod.bw;split
 .rename_i hL
  have e:=Bn M i f.1 f.2 a.2;have s:=Stp.teach (D:=D) (M.set i f.1 f.2 a.2) i c (by rw[e];exact j.2) (by rw[e];exact hL);rw[e,Ca]at s
  exact j.1.s0 s
 .exact j.1
theorem E7(M:Meet)(i:Nat):M.set i (M.ab i) M.br M.ed=M:=by unfold Meet.set;rw[Mp]
theorem Ot(g:MOk n M){x:Lac}(v:LacOk x)(j:D.may x):Sts D 1 M (M.act x):=by
 obtain⟨j,y,z,i,A⟩:=j;have b:∀ {k:Int},x.k=k->FM k=true->x.n.toNat<5:=λ{k} e w=>by have:=v.n (by rw[e];exact w);omega
 unfold Meet.act;simp only;split
 .rename_i h1
  by_cases c:(M.ab x.n.toNat).up=true
  .exact(Stp.sub M _ x.d (b h1 rfl) c (j h1)).s
  .unfold Nod.qx Nod.qH;rw[if_pos (by simpa using c)];rw[E7];exact .nil 1 M
 .split
  .rename_i hk
   split
   .rename_i c;exact(Stp.lead M _ (b hk rfl) c (y hk)).s
   .rw[E7];exact .nil 1 M
  .split
   .rename_i h3
    by_cases c:(M.ab x.n.toNat).up=true
    .rw[if_pos c,if_pos c,if_pos c];exact Sts.piece (b h3 rfl) M c
    .rw[if_neg c,if_neg c,if_neg c,E7];exact .nil 1 M
   .split
    .rename_i hk4
     obtain⟨o,r⟩:=i (by omega);unfold Meet.move;split
     .exact .nil 1 M
     .rename_i l q
      have f:=ml q;have B:=And.intro (g.br l f).src (g.br l f).dst;have u:∀ N:Meet,Sts D 1 M N->N.br=M.br->Sts D 1 M (if x.k≠6 then{ N with br:=M.br.eraseIdx (x.a.toNat%M.br.length) }else N):=λN h e=>by
       split
       .exact h.s0 (.br N _ (λm f=>by rw[e];exact List.mem_of_mem_eraseIdx f) o)
       .exact h
      simp only;split
      .have:=u (M.qh l) ((Sts.nil 1 M).qh r f B) (Ea M l);by_cases t:x.k≠6
       .rw[if_pos t]at this ⊢;rw[Nk];exact this
       .rw[if_neg t]at this ⊢;exact this
      .exact u M (.nil 1 M) rfl
    .split
     .rename_i hk7
      unfold Meet.qv;rw[Hh];exact(Sts.comes (i (by omega)).2 M.br (.nil 1 M) λm f=>⟨f,(g.br m f).src,(g.br m f).dst⟩).s0 (.br _ [] (λl q=>by cases q) (i (by omega)).1)
     .split
      .rename_i hk
       split
       .rename_i c;exact(Stp.lr M _ x.p (b hk rfl) c (v.p (by rw[hk];rfl)).1 (z hk)).s
       .rw[E7];exact .nil 1 M
      .split
       .rename_i h9
        split
        .rw[E7];exact .nil 1 M
        .rename_i c;exact(Stp.start M _ (b h9 rfl) (by simpa using c) (A h9)).s
       .exact .nil 1 M
theorem FO(L:List Lac){n:Nat}{M:Meet}(b:MOk n M)(d:n+L.length<=1000000)(c:∀ x∈L,LacOk x/\D.may x):Sts D L.length M (M.ew L):=by
 induction L generalizing n M with
 | nil=>exact .nil _ M
 | cons x L ih =>
  have a:=c x M';rw[mH]at d
  rw[mH,Nat.add_comm];exact(Ot b a.1 a.2).trans (ih (b.act (by omega) a.1) (by omega) λy e=>c y (I' _ e))
end
end
section
def whT:Wh:=⟨λ_ _=>True,True,True,True,True,True⟩
theorem UO(x:Lac):whT.may x:=⟨λ_=>trivial,λ_=>trivial,λ_=>trivial,λ_=>⟨trivial,trivial⟩,λ_=>trivial⟩
inductive Rk where
 | pr (b:Bal)
 | vt (v:Vt)
def Rk.body:Rk->List Int
 | .pr b=>Bm b
 | .vt v=>Bf v
def Rk.ap(a:Acc):Rk->Acc
 | .pr b=>⟨b,a.vs⟩
 | .vt v=>⟨v.b,Bi a.vs v⟩
def Rk.err(a:Acc):Rk->Int
 | .pr b=>Ck a b
 | .vt v=>AT a v
def Rk.ok(a:Acc):Rk->Prop
 | .pr b=>Ck a b=0/\a.p≠b
 | .vt v=>AT a v=0/\v∉a.vs
variable{a:Acc}{b:Bal}{dr qs rs:List Rk}{i j n:Nat}{l:List Cmd}{p:Nod}{r:Rk}{v:Vt}{vs:List Vt}
theorem Rk.ok.err(h:Rk.ok a r):Rk.err a r=0:=by cases r<;>exact h.1
def Bq(rs:List Rk):Acc:=rs.foldl Rk.ap a0
theorem BN(a:List Rk)(r:Rk):Bq (a++[r])=Rk.ap (Bq a) r:=by unfold Bq;rw[oD];rfl
def AM(rs:List Rk):Prop:=∀ i r,rs[i]?=some r->Rk.ok (Bq (rs.take i)) r
theorem AM.nil:AM []:=λi r h=>by simp at h
theorem AM.left(h:AM (rs++qs)):AM rs:=λi r e=>by
 have a:=(V'.1 e).1;have:=h i r (by rw[mg a];exact e)
 rwa [mn (by omega)]at this
theorem AM.pre(h:AM qs)(a:rs <+: qs):AM rs:=by obtain⟨x,rfl⟩:=a;exact h.left
theorem AM.snoc(h:AM rs)(a:Rk.ok (Bq rs) r):AM (rs++[r]):=λi q e=>by
 rcases mN i rs.length with hi|hi
 .rw[mg hi]at e
  rw[mn (by omega)];exact h i q e
 .have:=(V'.1 e).1;rw[H',mB]at this
  obtain rfl:i=rs.length:=by omega
  rw[mi (A' _)]at e
  simp at e;subst e;rw[mn (A' _),ng];exact a
theorem AM.last(h:AM (rs++[r])):Rk.ok (Bq rs) r:=by
 have:=h rs.length r (by simp)
 rwa [mn (A' _),ng]at this
theorem AM.ind{P:List Rk->Prop}(b:P [])(c:∀ a r,AM a->Rk.ok (Bq a) r->P a->P (a++[r])){a:List Rk}(h:AM a):P a:=by
 have:∀ k,k<=a.length->P (a.take k):=by
  intro k;induction k with
  | zero=>intro _;exact b
  | succ k ih =>
   intro d;have e:a.take (k+1)=a.take k++[a[k]]:=by rw[mj (by omega)]
   rw[e];exact c _ _ (h.pre (om _ _)) (h k _ (G' (by omega))) (ih (by omega))
 have:=this a.length (A' _)
 rwa [ng]at this
theorem Ag.ti(h:Ag a)(c:Ab b)(i:¬ b.lt a.p):Ag ⟨b,a.vs⟩:=by
 refine⟨.inl c,λv d=>⟨(h.2.1 v d).1,λg=>?_⟩,h.2.2⟩;have e:=(h.2.1 v d).1.2.1;have f:=(h.2.1 v d).2;rw[Fr c.pr e.pr]at g
 rw[Fr h.1 e.pr]at f
 rw[Fr c.pr h.1]at i
 omega
theorem Ag.sA(h:Ag a)(d:Ah v)(e:¬ v.b.lt a.p):Ag ⟨v.b,Bi a.vs v⟩:=by
 refine⟨.inl d.2.1,λu c=>?_,Jh v h.2.2⟩;rcases(Bx h.2.2).1 c with rfl|⟨c,_⟩
 .refine⟨d,λg=>?_⟩;change u.b.lt u.b at g;unfold Bal.lt at g;omega
 .exact(h.ti d.2.1 e).2.1 u c
theorem K8:Ag a0:=⟨.inr ⟨rfl,rfl⟩,λv a=>(P' a).elim,trivial⟩
theorem Rk.may(h:Ag a){r:Rk}(c:Rk.err a r=0):Ag (Rk.ap a r):=by
 cases r with
 | pr b=>have:=Cd c;exact h.ti this.2.1 this.2.2
 | vt v=>have:=An c;exact h.sA this.2.1 this.2.2
theorem AM.acc(h:AM rs):Ag (Bq rs):=h.ind (P:=λrs=>Ag (Bq rs)) K8 λrs r _ a b=>by rw[BN];exact Rk.may b a.err
theorem Bj{a:Bal}(c:Ao a)(d:Ao b)(h:¬ a.lt b):b.key<=a.key:=by rw[Fr c d]at h;omega
theorem Rk.rI(h:Ag a){r:Rk}(c:Rk.err a r=0):a.p.key<=(Rk.ap a r).p.key:=by
 cases r with
 | pr b=>have:=Cd c;exact Bj this.2.1.pr h.1 this.2.2
 | vt v=>have:=An c;exact Bj this.2.1.2.1.pr h.1 this.2.2
theorem I6(h:AM rs):∀ v∈(Bq rs).vs,Rk.vt v∈rs:=h.ind (P:=λrs=>∀ v∈(Bq rs).vs,Rk.vt v∈rs) (λv a=>by cases a) λrs r d e c v a=>by
 rw[BN]at a
 cases r with
 | pr b=>exact lT _ (c v a)
 | vt u =>
  rcases(Bx d.acc.2.2).1 a with rfl|⟨a,_⟩
  .exact lV _ M'
  .exact lT _ (c v a)
theorem Ag.le(h:Ag a){v:Vt}(c:v∈a.vs):v.b.key<=a.p.key:=Bj h.1 (h.2.1 v c).1.2.1.pr (h.2.1 v c).2
theorem L2(h:Ag a){v:Vt}(f:AT a v=0){u:Vt}(c:u∈a.vs):∃ x∈Bi a.vs v,x.bt=u.bt/\u.b.key<=x.b.key:=by
 have d:=An f;by_cases e:u.bt=v.bt
 .exact⟨v,(Bx h.2.2).2 (.inl rfl),e.symm,mp (h.le c) (Bj d.2.1.2.1.pr h.1 d.2.2)⟩
 .exact⟨u,(Bx h.2.2).2 (.inr ⟨c,e⟩),rfl,lU _⟩
theorem QD(h:AM rs):∀ v,Rk.vt v∈rs->v.b.key<=(Bq rs).p.key/\∃ u∈(Bq rs).vs,u.bt=v.bt/\v.b.key<=u.b.key:=h.ind (P:=λrs=>∀ v,Rk.vt v∈rs->v.b.key<=(Bq rs).p.key/\∃ u∈(Bq rs).vs,u.bt=v.bt/\v.b.key<=u.b.key) (λv hv=>by cases hv) λrs r c a e v hv=>by
 have d:=Rk.rI c.acc a.err;rw[BN];rcases U'.1 hv with hv|hv
 .obtain⟨h1,u,h2,h3,h4⟩:=e v hv;refine⟨mp h1 d,?_⟩;cases r with
  | pr b=>exact⟨u,h2,h3,h4⟩
  | vt w =>
   obtain⟨x,f,g,i⟩:=L2 c.acc a.err h2;exact⟨x,f,g.trans h3,mp h4 i⟩
 .rw[<- D'.1 hv]at a ⊢
  exact⟨lU _,v,(Bx c.acc.2.2).2 (.inl rfl),rfl,lU _⟩
theorem D1(h:AM (rs++qs)):(Bq rs).p.key<=(Bq (rs++qs)).p.key/\∀ v,Rk.vt v∈qs->(Bq rs).p.key<=v.b.key:=by
 have:∀ k,k<=qs.length->(Bq rs).p.key<=(Bq (rs++qs.take k)).p.key/\∀ v,Rk.vt v∈qs.take k->(Bq rs).p.key<=v.b.key:=by
  intro k;induction k with
  | zero=>intro _;rw[nc,mx];exact⟨lU _,λv hv=>by cases hv⟩
  | succ k ih =>
   intro i;obtain⟨c,g⟩:=ih (by omega);have e:qs.take (k+1)=qs.take k++[qs[k]]:=by rw[mj (by omega)]
   have a:AM (rs++qs.take k++[qs[k]]):=h.pre (by rw[lY,<- e];exact List.prefix_append_right_inj rs |>.2 (om _ _));have d:=Rk.rI a.left.acc a.last.err;rw[<- BN]at d
   rw[e,<- lY];refine⟨mp c d,λv hv=>?_⟩;rcases U'.1 hv with hv|hv
   .exact g v hv
   .have hl:=a.last;rw[<- D'.1 hv]at hl
    have f:=An hl.err;exact mp c (Bj f.2.1.2.1.pr a.left.acc.1 f.2.2)
 have:=this qs.length (A' _)
 rwa [ng]at this
def fl(rs:List Rk):List Int:=AB (rs.map Rk.body)
theorem bR(a:List Rk)(r:Rk):fl (a++[r])=fl a++AJ r.body:=by unfold fl;rw[mz,Ct];simp[AB]
theorem RR(b a:List Rk):fl (b++a)=fl b++fl a:=by unfold fl;rw[mz,Ct]
theorem XW(h:rs <+: qs):(fl rs).length<=(fl qs).length:=by obtain⟨x,rfl⟩:=h;rw[RR,H'];omega
theorem jp(h:rs <+: qs)(a:(fl qs).length<=(fl rs).length):rs=qs:=by
 obtain⟨x,rfl⟩:=h;rw[RR,H']at a
 have:=PO (x.map Rk.body);rw[mm]at this
 unfold fl at a;obtain rfl:x=[]:=Y' (by omega);rw[mx]
theorem AM.tm(h:AM rs):Chn ((List.range (rs.length+1)).map λj=>Bq (rs.take j)) (rs.map Rk.body):=by
 refine⟨by simp,by simp[Bq],λi b a c g f l=>?_⟩;simp only[mD,nv]at g f l;obtain⟨r,e,rfl⟩:=g;obtain⟨j,n,rfl⟩:=f;obtain⟨k,o,rfl⟩:=l;have m:=(V'.1 e).1;rw[nJ (by omega)]at n o
 cases n;cases o;have d:=(h i r e).err;have p:rs[i]=r:=by rw[G' m]at e;exact mI e
 rw[mj m,BN,p];generalize Bq (rs.take i)=a at d ⊢;cases r with
 | pr b=>show DE a (Bm b)=_;rw[XJ a (Cd d).2.1];exact if_pos d
 | vt v=>show DE a (Bf v)=_;rw[XK a (An d).2.1];exact if_pos d
structure TpU(p:Nod)(dr rs:List Rk):Prop where
 ok:AM rs
 pre:dr <+: rs
 d:p.d=fl rs
 sy:p.sy=((fl dr).length:Int)
 vo:p.vo=Bq rs
 len:p.d.length<=100000
structure TpD(p:Nod)(dr:List Rk):Prop where
 ok:AM dr
 sc:DZ p.d=((fl dr).length,Bq dr)
 tk:p.d.take (fl dr).length=fl dr
 sy:p.sy=(p.d.length:Int)
 len:p.d.length<=100000
theorem TpU.rC(h:TpU p dr rs):Be p.d p.sy:=by
 have:=XW h.pre;have:=h.d;refine⟨h.len,by rw[h.sy];omega,?_⟩;rw[h.sy,h.d];omega
theorem TpU.zero:TpU Cc [] []:=⟨AM.nil,lR _,rfl,rfl,rfl,by decide⟩
theorem TpU.all(h:TpU p dr rs)(a:¬ p.sy<(p.d.length:Int)):dr=rs:=jp h.pre (by rw[h.sy,h.d]at a;omega)
theorem TpU.lr(h:TpU p dr rs){k:Int}(u:0<=k):∃ dr',dr <+: dr'/\dr' <+: rs/\TpD (p.lr k) dr':=by
 have o:=h.rC;have b:FU p.d p.sy k=0:=by unfold FU;rw[if_neg (λe=>e o),if_neg (by omega)]
 have f:=o;unfold Be at f;have t:p.sy<=FV p.d p.sy k/\FV p.d p.sy k<=(p.d.length:Int):=by unfold FV;split<;>omega
 obtain⟨j,a,r,l,m,n,h5⟩:=h.ok.tm.sY (FV p.d p.sy k).toNat;rw[mm]at r h5
 rw[mD,nJ (by omega)]at l
 obtain rfl:Bq (rs.take j)=a:=by simpa using l
 have i:AB ((rs.map Rk.body).take j)=fl (rs.take j):=by unfold fl;rw[py]
 rw[i]at m n
 have c:(p.lr k).d=(fl rs).take (FV p.d p.sy k).toNat:=by
  unfold Nod.lr;rw[if_neg (λe=>e b)];show Kj p.d p.sy k=_;unfold Kj;rw[if_pos b,h.d]
 have s:(p.lr k).sy=FV p.d p.sy k:=by
  unfold Nod.lr;rw[if_neg (λe=>e b)];show Kk p.d p.sy k=_;unfold Kk;rw[if_pos b]
 have q:((fl rs).take (FV p.d p.sy k).toNat).length=(FV p.d p.sy k).toNat:=by rw[Z',<- h.d];omega
 refine⟨rs.take j,?_,om _ _,h.ok.pre (om _ _),by rw[c];exact m,?_,?_,?_⟩
 .obtain⟨x,hx⟩:=h.pre;rcases mN j dr.length with g|g
  .exfalso;rcases h5 with h5|h5
   .rw[<- hx,H']at h5;omega
   .have hp:rs.take (j+1) <+: dr:=by rw[<- hx,mn (by omega)];exact om _ _
    have:=XW hp;rw[show AB ((rs.map Rk.body).take (j+1))=fl (rs.take (j+1))by unfold fl;rw[py]]at h5
    have:=h.sy;omega
  .rw[<- hx,List.take_append];rw[mc g];exact mZ _ _
 .rw[c,oq,m8 n];have e:fl rs=fl (rs.take j)++fl (rs.drop j):=by rw[<- RR,m9]
  rw[show(fl rs).take (fl (rs.take j)).length=(fl (rs.take j)++fl (rs.drop j)).take (fl (rs.take j)).length by rw[<- e],mn (A' _),ng]
 .rw[s,c,q];omega
 .rw[c,q];have:=h.len;omega
theorem TpD.start(h:TpD p dr):TpU p.start dr dr:=by
 have c:Be p.d p.sy:=⟨h.len,by rw[h.sy];omega,by rw[h.sy];omega⟩;have g:Dl p.d p.sy=0:=if_pos c;have i:MT p.d p.sy=((fl dr).length:Int):=by unfold MT;rw[if_pos c,h.sc]
 have j:Gj p.d p.sy=Bq dr:=by unfold Gj;rw[if_pos c,h.sc]
 have a:=Ut p.d;rw[h.sc]at a
 have a:(fl dr).length<=p.d.length:=a;have f:=h.len;unfold Nod.start;rw[if_neg (λe=>e g),i,j];split
 .rename_i hlt
  have b:Js p.d p.sy=fl dr:=by unfold Js;rw[if_pos c,h.sc];exact h.tk
  have k:LU p.d p.sy=((fl dr).length:Int):=by unfold LU;rw[if_pos c,h.sc];exact if_pos (by rw[h.sy];exact hlt)
  exact⟨h.ok,lR _,b,k,rfl,by show(Js p.d p.sy).length<=_;rw[b];omega⟩
 .rename_i hge
  have b:p.d=fl dr:=by have:=h.tk;rwa [mc (by omega)]at this
  exact⟨h.ok,lR _,b,by show p.sy=_;rw[h.sy,<- b],rfl,f⟩
theorem TpU.qD(h:TpU p dr rs):TpU { p with sy:=(p.d.length:Int) } rs rs:=⟨h.ok,lR _,h.d,by show(p.d.length:Int)=_;rw[h.d],h.vo,h.len⟩
def Nod.tv(p:Nod)(d:List Int)(s:Int)(a:Acc):Nod:={ p with d:=d,sy:=s,vo:=a }
theorem TpU.write(h:TpU p dr rs){r:Rk}(a:Rk.ok p.vo r)(b:p.d.length+(r.body.length+5)<=100000):TpU (p.tv (p.d++AJ r.body) p.sy (Rk.ap p.vo r)) dr (rs++[r]):=by
 rw[h.vo]at a
 refine⟨h.ok.snoc a,h.pre.trans (mZ _ _),?_,h.sy,?_,?_⟩
 .show p.d++_=_;rw[h.d,bR]
 .show Rk.ap p.vo r=_;rw[h.vo,BN]
 .show(p.d++AJ r.body).length<=_;rw[H',Ba];omega
theorem TpU.av(h:TpU p dr rs)(b:Bal):((p.av b).2.2≠0/\(p.av b).1=p) \/
  ((p.av b).2.2=0/\Ck p.vo b=0/\(p.av b).2.1=p.vo.vs/\∃ rs',rs <+: rs'/\TpU (p.av b).1 dr rs'/\(∀ v,Rk.vt v∈rs'↔Rk.vt v∈rs)/\(Bq rs').p=b/\(Bq rs').vs=p.vo.vs/\∃ d a,(p.av b).1=p.tv d p.sy a):=by
 unfold Nod.av;split
 .rename_i c;exact .inl ⟨c,rfl⟩
 .rename_i c
  have c:=lX.1 c;split
  .rename_i h2
   refine .inr ⟨rfl,c,rfl,rs,lR _,?_,λ_=>Iff.rfl,?_,?_,p.d,p.vo,?_⟩
   .rw[h2];exact h
   .rw[<- h.vo];exact h2.symm
   .rw[<- h.vo]
   .rw[h2];rfl
  .rename_i h2
   split
   .rename_i f;exact .inl ⟨f,rfl⟩
   .rename_i f
    have f:=lX.1 f;have j:=JD f;have g:FE p.d p.sy (Ab b) (Bm b)=p.d++AJ (Bm b):=if_pos f;have i:G3 p.d p.sy (Ab b) (Bm b)=p.sy:=if_pos f;rw[g,i];refine .inr ⟨rfl,c,rfl,rs++[Rk.pr b],mZ _ _,(h.write (r:=.pr b) ⟨c,λe=>h2 e.symm⟩ j.2.1),λv=>by simp,?_,?_,_,_,rfl⟩
    .rw[BN];rfl
    .rw[BN,h.vo];rfl
theorem V6{l:List Vt}(h:BG l){v:Vt}(hv:v∈l):Bi l v=l:=by
 induction l with
 | nil=>cases hv
 | cons u us ih =>
  rw[Bi];rcases ma.1 hv with rfl|hv
  .rw[if_neg (Int.lt_irrefl _),if_pos rfl]
  .rw[if_pos (h.1 v hv),ih h.2 hv]
theorem TpU.cl(h:TpU p dr rs)(v:Vt):((p.cl v).2≠0/\(p.cl v).1=p) \/
  ((p.cl v).2=0/\AT p.vo v=0/\∃ rs',rs <+: rs'/\TpU (p.cl v).1 dr rs'/\(∀ u,Rk.vt u∈rs'↔u=v\/Rk.vt u∈rs)/\(Bq rs').p=v.b/\∃ d a,(p.cl v).1=p.tv d p.sy a):=by
 unfold Nod.cl;split
 .rename_i c;exact .inl ⟨c,rfl⟩
 .rename_i c
  have c:=lX.1 c;have i:=An c;split
  .rename_i h2
   have m:=i.1.le h2;have l:=Bj i.2.1.2.1.pr i.1.1 i.2.2;have e:v.b=p.vo.p:=DU i.2.1.2.1.pr i.1.1 (by omega);have j:(⟨v.b,Bi p.vo.vs v⟩:Acc)=p.vo:=by rw[V6 i.1.2.2 h2,e]
   rw[j];refine .inr ⟨rfl,c,rs,lR _,h,λu=>⟨.inr,λhu=>?_⟩,by rw[<- h.vo];exact e.symm,p.d,p.vo,rfl⟩;rcases hu with rfl|hu
   .exact I6 h.ok u (by rw[<- h.vo];exact h2)
   .exact hu
  .rename_i h2
   split
   .rename_i f;exact .inl ⟨f,rfl⟩
   .rename_i f
    have f:=lX.1 f;have n:=JD f;have k:FE p.d p.sy (Ah v) (Bf v)=p.d++AJ (Bf v):=if_pos f;have j:G3 p.d p.sy (Ah v) (Bf v)=p.sy:=if_pos f;rw[k,j];refine .inr ⟨rfl,c,rs++[Rk.vt v],mZ _ _,h.write (r:=.vt v) ⟨c,h2⟩ n.2.1,λu=>?_,by rw[BN];rfl,_,_,rfl⟩;rw[U',D'];exact⟨λg=>g.elim .inr λe=>.inl (Rk.vt.inj e),λg=>g.elim (λe=>.inr (by rw[e])) .inl⟩
structure Gs where
 dr:Nat->List Rk
 W:Bal->Nat->Cmd->Prop
def Gs.held(σ:Gs)(n:Nat)(v:Vt):Prop:=Rk.vt v∈σ.dr n
def Gs.H(σ:Gs)(n s:Nat)(b:Int)(c:Cmd):Prop:=∃ v,σ.held n v/\v.bt=(s:Int)/\v.b.key=b/\v.w=c
def Gs.P(σ:Gs)(n:Nat):Int:=(Bq (σ.dr n)).p.key
def Gs.qP(σ:Gs)(v:Vt):Prop:=Ah v/\σ.W v.b v.bt.toNat v.w
def Gs.rZ(σ:Gs)(s:Nat)(c:Cmd):Prop:=∃ b,Ch σ.H s b c
structure GsI(σ:Gs):Prop where
 ok:∀ n,AM (σ.dr n)
 rW:PInv σ.H σ.P
 w1:∀ b s c c',σ.W b s c->σ.W b s c'->c=c'
 w2:∀ b s c,σ.W b s c->Ab b/\Ef σ.H σ.P s b.key c
 w3:∀ b s c,σ.W b s c->b.key<=σ.P b.n.toNat
 hv:∀ n v,σ.held n v->σ.qP v
structure Gs.le(σ τ:Gs):Prop where
 pre:∀ n,σ.dr n <+: τ.dr n
 W:∀ b s c,σ.W b s c->τ.W b s c
theorem Gs.le.refl(σ:Gs):σ.le σ:=⟨λ_=>lR _,λ_ _ _ h=>h⟩
variable{σ τ:Gs}
theorem Gs.le.trans{υ:Gs}(h:σ.le τ)(k:τ.le υ):σ.le υ:=⟨λn=>(h.pre n).trans (k.pre n),λb s c g=>k.W b s c (h.W b s c g)⟩
theorem Gs.le.held(h:σ.le τ){n:Nat}{v:Vt}(g:σ.held n v):τ.held n v:=(h.pre n).subset g
theorem Gs.le.H(h:σ.le τ){n s:Nat}{b:Int}{c:Cmd}(g:σ.H n s b c):τ.H n s b c:=by obtain⟨v,a,d⟩:=g;exact⟨v,h.held a,d⟩
theorem Gs.le.qP(h:σ.le τ){v:Vt}(g:σ.qP v):τ.qP v:=⟨g.1,h.W _ _ _ g.2⟩
theorem Gs.le.rZ(h:σ.le τ){s:Nat}{c:Cmd}(g:σ.rZ s c):τ.rZ s c:=by obtain⟨b,Q,a,d⟩:=g;exact⟨b,Q,a,λq f e=>h.H (d q f e)⟩
theorem Gs.le.P(h:σ.le τ)(a:GsI τ)(n:Nat):σ.P n<=τ.P n:=by
 obtain⟨x,b⟩:=h.pre n;have:=a.ok n;unfold Gs.P;rw[<- b]at this ⊢
 exact(D1 this).1
structure Gs.se(i:Nat)(σ τ:Gs):Prop where
 le:σ.le τ
 new:∀ b s c,τ.W b s c->σ.W b s c\/b.n=(i:Int)
 tA:∀ n,n≠i->τ.dr n=σ.dr n
theorem Gs.se.refl(i:Nat)(σ:Gs):Gs.se i σ σ:=⟨.refl σ,λ_ _ _ h=>.inl h,λ_ _=>rfl⟩
def Gs.ext(σ:Gs)(i:Nat)(qs:List Rk):Gs:=⟨upN σ.dr i (σ.dr i++qs),σ.W⟩
theorem Hk(σ:Gs)(i:Nat)(a:List Rk):(σ.ext i a).dr i=σ.dr i++a:=CT _ _ _
theorem Lm(σ:Gs){i n:Nat}(a:List Rk)(h:n≠i):(σ.ext i a).dr n=σ.dr n:=Dm _ _ h
theorem O6(σ:Gs)(i:Nat)(a:List Rk):Gs.se i σ (σ.ext i a):=⟨⟨λn=>by
 by_cases e:n=i
 .subst e;rw[Hk];exact mZ _ _
 .rw[Lm σ a e];exact lR _,λ_ _ _ h=>h⟩,λ_ _ _ h=>.inl h,λn h=>Lm σ a h⟩
theorem PL(σ:Gs)(i:Nat)(r:Rk):(σ.ext i [r]).P=upP σ.P i (Rk.ap (Bq (σ.dr i)) r).p.key:=by
 funext n
 unfold Gs.P upP;split
 .rename_i e;subst e;rw[Hk,BN]
 .rename_i e;rw[Lm σ _ e]
theorem In:(σ.ext i qs).held n v↔σ.held n v\/(n=i/\Rk.vt v∈qs):=by
 unfold Gs.held;by_cases e:n=i
 .subst e;rw[Hk,U'];simp
 .rw[Lm σ qs e];simp[e]
theorem GsI.sX(h:GsI σ){i:Nat}{r:Rk}(D:Rk.ok (Bq (σ.dr i)) r)(F:∀ v,r=.vt v->σ.qP v):GsI (σ.ext i [r]):=by
 have l:=(h.ok i).acc;have t:=Rk.rI l D.err;have f:=(O6 σ i [r]).le;have q:∀ n,AM ((σ.ext i [r]).dr n):=λn=>by
  by_cases e:n=i
  .subst e;rw[Hk];exact(h.ok n).snoc D
  .rw[Lm σ _ e];exact h.ok n
 have d:σ.P i<=(Rk.ap (Bq (σ.dr i)) r).p.key:=t;have B:∀ n,σ.P n<=(σ.ext i [r]).P n:=λn=>by rw[PL];exact Mq d n
 have o:∀ n v,(σ.ext i [r]).held n v->(σ.ext i [r]).qP v:=λn v g=>by
  rcases In.1 g with g|⟨_,g⟩
  .exact f.qP (h.hv n v g)
  .exact f.qP (F v (D'.1 g).symm)
 cases r with
 | pr b =>
  have j:(σ.ext i [.pr b]).H=σ.H:=by
   funext n s a c
   exact propext ⟨λ⟨v,g,k⟩=>⟨v,(In.1 g).resolve_right λe=>by simp at e,k⟩,λ⟨v,g,k⟩=>⟨v,f.held g,k⟩⟩
  refine⟨q,?_,h.w1,λa s c g=>⟨(h.w2 a s c g).1,?_⟩,λa s c g=>mp (h.w3 a s c g) (B _),o⟩
  .rw[j,PL];exact h.rW.av d
  .rw[j,PL];exact(h.w2 a s c g).2.up d
 | vt v =>
  obtain⟨z,C⟩:=F v rfl;have I:v.bt=(v.bt.toNat:Int):=by have:=z.1;omega
  have j:(σ.ext i [.vt v]).H=fO σ.H i v.bt.toNat v.b.key v.w:=by
   funext n s a c
   refine propext ⟨λ⟨u,g,G,x,y⟩=>?_,λg=>?_⟩
   .rcases In.1 g with g|⟨g1,g2⟩
    .exact .inl ⟨u,g,G,x,y⟩
    .have e:u=v:=Rk.vt.inj (D'.1 g2);subst e;exact .inr ⟨g1,by omega,x.symm,y.symm⟩
   .rcases g with⟨u,g,k⟩|⟨rfl,rfl,rfl,rfl⟩
    .exact⟨u,f.held g,k⟩
    .exact⟨v,In.2 (.inr ⟨rfl,D'.2 rfl⟩),I,rfl,rfl⟩
  refine⟨q,?_,h.w1,λa s c g=>⟨(h.w2 a s c g).1,?_⟩,λa s c g=>mp (h.w3 a s c g) (B _),o⟩
  .rw[j,PL];refine h.rW.cl d (by have:=z.2.1.pos;show 0<v.b.key;omega) (h.w2 _ _ _ C).2 λm J ⟨u,g,G,x,y⟩=>?_;have E:=h.hv m u g;have e:u.b=v.b:=DU E.1.2.1.pr z.2.1.pr x;have A:=E.2;rw[e,show u.bt.toNat=v.bt.toNat by omega,y]at A
   exact h.w1 _ _ _ _ A C
  .rw[j,PL];exact(h.w2 a s c g).2.cl d
theorem bM(σ:Gs)(i:Nat)(r:Rk)(a:List Rk):(σ.ext i [r]).ext i a=σ.ext i (r::a):=by unfold Gs.ext;simp only[CT,UD,lY,List.singleton_append]
theorem GsI.ext(h:GsI σ){i:Nat}(a:List Rk)(b:AM (σ.dr i++a))(c:∀ v,Rk.vt v∈a->σ.qP v):GsI (σ.ext i a):=by
 induction a generalizing σ with
 | nil =>
  have:σ.ext i []=σ:=by unfold Gs.ext;rw[mx,Mp]
  rw[this];exact h
 | cons r a ih =>
  rw[<- bM];have d:AM (σ.dr i++[r]):=b.pre ⟨a,by simp⟩;refine ih (h.sX d.last λv e=>c v (by rw[e];exact M')) ?_ λv g=>(O6 σ i [r]).le.qP (c v (I' _ g));rw[Hk,lY];exact b
structure PrmOk(dr:List Rk)(b:Bal)(vs:List Vt):Prop where
 le:b.key<=(Bq dr).p.key
 sub:∀ v∈vs,Rk.vt v∈dr/\v.b.key<=b.key
 tg:∀ v,Rk.vt v∈dr->v.b.key<b.key->∃ u∈vs,u.bt=v.bt/\v.b.key<=u.b.key
 acc:Ag ⟨b,vs⟩
theorem PrmOk.mono(h:PrmOk dr b vs)(e:dr <+: rs)(d:AM rs):PrmOk rs b vs:=by
 obtain⟨x,rfl⟩:=e;have c:=D1 d;refine⟨mp h.le c.1,λv hv=>⟨lT _ (h.sub v hv).1,(h.sub v hv).2⟩,λv hv a=>?_,h.acc⟩;rcases U'.1 hv with hv|hv
 .exact h.tg v hv a
 .have:=c.2 v hv;have:=h.le;omega
theorem PrmOk.of(c:AM rs){b:Bal}{d:List Vt}(e:(Bq rs).p=b)(a:(Bq rs).vs=d):PrmOk rs b d:=by
 subst e a;exact⟨lU _,λv a=>⟨I6 c v a,c.acc.le a⟩,λv a _=>(QD c v a).2,c.acc⟩
structure RdI(σ:Gs)(i:Nat)(r:Rnd):Prop where
 jv:r.jv=AY\/(Ab r.jv/\r.jv.n=(i:Int))
 next:∀ s c,σ.W r.jv s c->s<r.next
 own:∀ j,j<5->r.ql j=true->r.jv.key<=σ.P i
 an:∀ j,j<5->∀ v∈(r.an j).vs,σ.held j v/\v.b.key<=r.jv.key/\(r.ql j=false->v.b=r.jv)
 prom:∀ j,j<5->r.ql j=true->r.jv.key<=σ.P j/\∀ v,σ.held j v->v.b.key<r.jv.key->∃ u∈(r.an j).vs,u.bt=v.bt/\v.b.key<=u.b.key
 acc:∀ j,j<5->Ag (r.an j)/\(r.ql j=true->(r.an j).p=r.jv)
def PnI(σ:Gs)(rs:List Rk)(r:Rnd):Pend->Prop
 | .began b vs=>PrmOk rs b vs/\b.key<=r.jv.key
 | .prom _ b vs=>PrmOk rs b vs/\b.key<=σ.P b.n.toNat
 | .voted _ v=>Rk.vt v∈rs
 | .prop v=>Rk.vt v∈rs
 | .fa _ b=>Ao b/\b.key<=(Bq rs).p.key
 | _=>True
structure UpI(σ:Gs)(i:Nat)(p:Nod)(rs:List Rk):Prop where
 tp:TpU p (σ.dr i) rs
 qP:∀ v,Rk.vt v∈rs->σ.qP v
 rd:RdI σ i p.bn
 bp:p.bn.jv.key<=p.vo.p.key
 pe:∀ q∈p.bu,PnI σ rs p.bn q
def AgL(σ:Gs)(l:List Cmd)(k:Nat):Prop:=∀ s c,l[s]?=some c->σ.rZ (k+s) c
structure NdI(σ:Gs)(i:Nat)(p:Nod):Prop where
 up:p.up=true->∃ rs,UpI σ i p rs
 dn:p.up=false->TpD p (σ.dr i)
 ag:AgL σ p.ae 0
structure LtI(σ:Gs)(l:Let):Prop where
 k0:l.kind=0->l.jv.key<=σ.P l.jv.n.toNat
 k1:l.kind=1->PrmOk (σ.dr l.src) l.jv l.ni/\l.jv.key<=σ.P l.jv.n.toNat/\AgL σ l.hZ 0
 k2:l.kind=2->Ao l.jv/\l.jv.key<=σ.P l.src
 k3:l.kind=3->σ.qP l.cl
 k4:l.kind=4->σ.held l.src l.cl
 k5:l.kind=5->AgL σ l.hZ l.bt
structure AgI(σ:Gs)(M:Meet):Prop where
 gs:GsI σ
 nd:∀ i,i<5->NdI σ i (M.ab i)
 lt:∀ l∈M.br,LtI σ l
theorem AgL.mono(h:σ.le τ){l:List Cmd}{k:Nat}(g:AgL σ l k):AgL τ l k:=λs c e=>h.rZ (g s c e)
theorem RdI.mono(h:σ.le τ)(f:GsI τ){i:Nat}{r:Rnd}(g:RdI σ i r)(m:∀ s c,τ.W r.jv s c->s<r.next):RdI τ i r:=by
 refine⟨g.jv,m,λj a d=>mp (g.own j a d) (h.P f i),λj a v e=>⟨h.held (g.an j a v e).1,(g.an j a v e).2⟩,λj a d=>⟨mp (g.prom j a d).1 (h.P f j),λv e k=>?_⟩,g.acc⟩;obtain⟨x,n⟩:=h.pre j;have l:=f.ok j;have hv':Rk.vt v∈τ.dr j:=e;rw[<- n]at l hv'
 rcases U'.1 hv' with hv'|hv'
 .exact(g.prom j a d).2 v hv' k
 .have h1:=(D1 l).2 v hv';have o:=(g.prom j a d).1;have p:σ.P j<=v.b.key:=h1;omega
theorem PnI.mono(h:σ.le τ)(f:GsI τ){e a:List Rk}(c:e <+: a)(d:AM a){r r':Rnd}(i:r.jv.key<=r'.jv.key){q:Pend}(g:PnI σ e r q):PnI τ a r' q:=by
 cases q with
 | began b vs=>exact⟨g.1.mono c d,mp g.2 i⟩
 | prom to b vs=>exact⟨g.1.mono c d,mp g.2 (h.P f _)⟩
 | voted to v=>exact c.subset g
 | prop v=>exact c.subset g
 | fa to b=>obtain⟨x,rfl⟩:=c;exact⟨g.1,mp g.2 (D1 d).1⟩
 | _=>trivial
theorem NdI.mono(h:Gs.se i σ τ)(a:GsI τ)(n:GsI σ)(d:j≠i){p:Nod}(g:NdI σ j p):NdI τ j p:=by
 have e:=h.tA j d;refine⟨λl=>?_,λb=>by rw[e];exact g.dn b,g.ag.mono h.le⟩;obtain⟨o,k⟩:=g.up l;refine⟨o,by rw[e];exact k.tp,λv m=>h.le.qP (k.qP v m),k.rd.mono h.le a λs c hW=>?_,k.bp,λq f=>(k.pe q f).mono h.le a (lR _) k.tp.ok (lU _)⟩;rcases h.new _ _ _ hW with hW|hW
 .exact k.rd.next s c hW
 .rcases k.rd.jv with hb|⟨_,hb⟩
  .have:=(a.w2 _ _ _ ‹_›).1;rw[hb]at this
   exact absurd this (by decide)
  .rw[hb]at hW;omega
theorem LtI.mono(h:σ.le τ)(a:GsI τ){l:Let}(g:LtI σ l):LtI τ l :=
 ⟨λe=>mp (g.k0 e) (h.P a _),λe=>⟨(g.k1 e).1.mono (h.pre _) (a.ok _),mp (g.k1 e).2.1 (h.P a _),(g.k1 e).2.2.mono h⟩,λe=>⟨(g.k2 e).1,mp (g.k2 e).2 (h.P a _)⟩,λe=>h.qP (g.k3 e),λe=>h.held (g.k4 e),λe=>(g.k5 e).mono h⟩
theorem AgI.set{M:Meet}(h:AgI σ M){i:Nat}(b:Gs.se i σ τ)(a:GsI τ){p:Nod}(m:NdI τ i p){c:List Let}(f:∀ l∈c,l∈M.br\/LtI τ l)(n:List Tol):AgI τ (M.set i p c n) :=
 ⟨a,λj d=>by
  show NdI τ j (upN M.ab i p j);unfold upN;split
  .rename_i e;rw[e];exact m
  .rename_i e;exact(h.nd j d).mono b a h.gs e,λl g=>(f l g).elim (λk=>(h.lt l k).mono b.le a) id⟩
theorem T5{r:Rnd}(h:∀ j,j<5->∀ v∈(r.an j).vs,σ.held j v){s:Nat}(a:CN r.ln (s:Int)=0):σ.rZ s (CE r.ln (s:Int)):=by
 have k:CE r.ln (s:Int)=((GQ (Dq r.ln (s:Int)) r.ln.length).map (·.w)).getD ⟨0,0,0,0,0⟩:=if_pos a;unfold CN at a;split at a
 .cases a
 .split at a
  .cases a
  .rename_i d
   have d:=lX.1 d;split at a
   .rename_i hO
    obtain⟨v,g⟩:=m5.1 hO;rw[k,g];have m:=qb g;have i:5<2*BE (Dq r.ln (s:Int)) v:=my m;have e:Dq r.ln (s:Int)=Ae (r.an 0).vs (s:Int)++(Ae (r.an 1).vs (s:Int)++(Ae (r.an 2).vs (s:Int)++(Ae (r.an 3).vs (s:Int)++Ae (r.an 4).vs (s:Int)))):=by
     unfold Dq Rnd.ln Ae;simp[List.filter_append]
    rw[e,Co,Co,Co,Co]at i
    have c:∀ j,j<5->BG (r.an j).vs:=λj l=>(d (r.an j) (by unfold Rnd.ln;rcases qm l with rfl|rfl|rfl|rfl|rfl<;>simp)).2.2;have o:=Iy (c 0 (by omega)) (s:Int) v;have p:=Iy (c 1 (by omega)) (s:Int) v;have t:=Iy (c 2 (by omega)) (s:Int) v;have u:=Iy (c 3 (by omega)) (s:Int) v;have x:=Iy (c 4 (by omega)) (s:Int) v;refine⟨v.b.key,λq=>decide (v∈(r.an q).vs/\v.bt=(s:Int)),?_,λq n f=>?_⟩
    .show 3<=(decide (v∈(r.an 0).vs/\v.bt=(s:Int))).toNat+(decide (v∈(r.an 1).vs/\v.bt=(s:Int))).toNat+(decide (v∈(r.an 2).vs/\v.bt=(s:Int))).toNat+(decide (v∈(r.an 3).vs/\v.bt=(s:Int))).toNat+(decide (v∈(r.an 4).vs/\v.bt=(s:Int))).toNat;omega
    .obtain⟨h1,h2⟩:=my f;exact⟨v,h q n v h1,h2,rfl,rfl⟩
   .cases a
theorem AgL.snoc(h:AgL σ l 0){c:Cmd}(a:σ.rZ l.length c):AgL σ (l++[c]) 0:=λs d e=>by
 rcases mN s l.length with g|g
 .rw[mg g]at e;exact h s d e
 .have:=(V'.1 e).1;rw[H',mB]at this
  obtain rfl:s=l.length:=by omega
  rw[mi (A' _)]at e
  simp at e;subst e;rw[mJ];exact a
theorem Ud{r:Rnd}(h:∀ j,j<5->∀ v∈(r.an j).vs,σ.held j v)(k:Nat){l:List Cmd}(a:AgL σ l 0):AgL σ (Fq k r l) 0:=by
 induction k generalizing l with
 | zero=>exact a
 | succ k ih =>
  rw[Fq];split
  .rename_i he;exact ih (a.snoc (T5 h he))
  .exact a
theorem Qd{b:List Cmd}{a:Nat}(d:AgL σ l 0)(f:AgL σ b a)(h:a<=l.length):AgL σ (l++b.drop (l.length-a)) 0:=λs c e=>by
 rcases mN s l.length with g|g
 .rw[mg g]at e;exact d s c e
 .rw[mi g,mX]at e
  have:=f _ c e
  rwa [show a+(l.length-a+(s-l.length))=0+s by omega]at this
theorem V4(a:Acc)(l:List Vt):∀ v∈(CX a l).vs,v∈a.vs\/v∈l:=by
 induction l generalizing a with
 | nil=>exact λv b=>.inl b
 | cons u l ih =>
  intro v b;rw[CX]at b
  rcases ih _ v b with h|h
  .by_cases he:AT a u=0
   .rw[if_pos he]at h
    have h:v∈Bl a u:=h;rw[(D6 he).2]at h
    rcases(Bx (An he).1.2.2).1 h with rfl|⟨h,_⟩
    .exact .inr M'
    .exact .inl h
   .rw[if_neg he]at h;exact .inl h
  .exact .inr (I' _ h)
theorem V3(a:Acc)(l:List Vt):∀ u∈a.vs,∃ x∈(CX a l).vs,x.bt=u.bt/\u.b.key<=x.b.key:=by
 induction l generalizing a with
 | nil=>exact λu d=>⟨u,d,rfl,lU _⟩
 | cons w l ih =>
  intro u d;rw[CX];by_cases c:AT a w=0
  .rw[if_pos c];obtain⟨x,e,f,g⟩:=L2 (An c).1 c d;obtain⟨y,h,i,j⟩:=ih ⟨BC a w,Bl a w⟩ x (by show x∈Bl a w;rw[(D6 c).2];exact e);exact⟨y,h,i.trans f,mp g j⟩
  .rw[if_neg c];exact ih a u d
theorem V2(a:Acc)(l:List Vt)(c:Ag a)(g:a.p=b)(h:∀ v∈l,v.b.key<=b.key):Ag (CX a l)/\(CX a l).p=b:=by
 induction l generalizing a with
 | nil=>exact⟨c,g⟩
 | cons u l ih =>
  rw[CX];by_cases d:AT a u=0
  .rw[if_pos d];have f:=An d;have e:u.b=b:=by
    have k:=Bj f.2.1.2.1.pr c.1 f.2.2;have m:=h u M';rw[g]at k
    exact DU f.2.1.2.1.pr (g▸c.1) (by omega)
   have j:(⟨BC a u,Bl a u⟩:Acc)=⟨u.b,Bi a.vs u⟩:=by rw[(D6 d).1,(D6 d).2]
   rw[j];exact ih _ (c.sA f.2.1 f.2.2) e λv i=>h v (I' _ i)
  .rw[if_neg d];exact ih a c g λv i=>h v (I' _ i)
theorem RdI.qz{r:Rnd}(h:RdI σ i r){j:Nat}{vs:List Vt}(f:PrmOk (σ.dr j) r.jv vs)(s:r.jv.key<=σ.P i):RdI σ i (r.qz j vs):=by
 refine⟨h.jv,h.next,λ_ _ _=>s,λk c v a=>?_,λk c n=>?_,λk c=>?_⟩
 rotate_right
 .show Ag (upN r.an j (CX ⟨r.jv,vs⟩ (r.an j).vs) k)/\(upN r.ql j true k=true->(upN r.an j (CX ⟨r.jv,vs⟩ (r.an j).vs) k).p=r.jv);unfold upN;split
  .rename_i e;subst e
   have:=V2 (b:=r.jv) ⟨r.jv,vs⟩ (r.an k).vs f.acc rfl λv a=>(h.an k c v a).2.1;exact⟨this.1,λ_=>this.2⟩
  .exact h.acc k c
 .have a:v∈(upN r.an j (CX ⟨r.jv,vs⟩ (r.an j).vs) k).vs:=a;by_cases e:k=j
  .subst e;rw[CT]at a
   rcases V4 _ _ v a with g|g
   .exact⟨(f.sub v g).1,(f.sub v g).2,λe=>by rw[show(r.qz k vs).ql k=true from CT _ _ _]at e;cases e⟩
   .have:=h.an k c v g;exact⟨this.1,this.2.1,λe=>by rw[show(r.qz k vs).ql k=true from CT _ _ _]at e;cases e⟩
  .rw[Dm _ _ e]at a
   have:=h.an k c v a;exact⟨this.1,this.2.1,λo=>this.2.2 (by rwa [show(r.qz j vs).ql k=r.ql k from Dm _ _ e]at o)⟩
 .by_cases e:k=j
  .subst e;refine⟨f.le,λv a d=>?_⟩;obtain⟨u,l,m,q⟩:=f.tg v a d;obtain⟨x,t,w,y⟩:=V3 ⟨r.jv,vs⟩ (r.an k).vs u l;exact⟨x,by show x∈(upN r.an k _ k).vs;rw[CT];exact t,w.trans m,mp q y⟩
  .rw[show(r.qz j vs).ql k=r.ql k from Dm _ _ e]at n
   have:=h.prom k c n;exact⟨this.1,λv a d=>by
    obtain⟨u,l,m⟩:=this.2 v a d;exact⟨u,by show u∈(upN r.an j _ k).vs;rw[Dm _ _ e];exact l,m⟩⟩
theorem RdI.count{r:Rnd}(h:RdI σ i r){j:Nat}{v:Vt}(l:v.b=r.jv)(f:AT (r.an j) v=0)(o:σ.held j v):RdI σ i { r with an:=upN r.an j ⟨BC (r.an j) v,Bl (r.an j) v⟩ }:=by
 have d:=An f;have g:Bl (r.an j) v=Bi (r.an j).vs v:=(D6 f).2;refine⟨h.jv,h.next,h.own,λk c u a=>?_,λk c n=>⟨(h.prom k c n).1,λu a m=>?_⟩,λk c=>?_⟩
 rotate_right
 .show Ag (upN r.an j ⟨BC (r.an j) v,Bl (r.an j) v⟩ k)/\(r.ql k=true->(upN r.an j ⟨BC (r.an j) v,Bl (r.an j) v⟩ k).p=r.jv);unfold upN;split
  .rw[(D6 f).1,g];exact⟨d.1.sA d.2.1 d.2.2,λ_=>l⟩
  .exact h.acc k c
 .have a:u∈(upN r.an j ⟨BC (r.an j) v,Bl (r.an j) v⟩ k).vs:=a;by_cases e:k=j
  .subst e;rw[CT]at a
   have a:u∈Bl (r.an k) v:=a;rw[g]at a
   rcases(Bx d.1.2.2).1 a with rfl|⟨a,_⟩
   .exact⟨o,by rw[l];exact lU _,λ_=>l⟩
   .exact h.an k c u a
  .rw[Dm _ _ e]at a;exact h.an k c u a
 .obtain⟨x,h1,h2,h3⟩:=(h.prom k c n).2 u a m;by_cases e:k=j
  .subst e;obtain⟨y,q,s,t⟩:=L2 d.1 f h1;exact⟨y,by show y∈(upN r.an k _ k).vs;rw[CT];show y∈Bl (r.an k) v;rw[g];exact q,s.trans h2,mp h3 t⟩
  .exact⟨x,by show x∈(upN r.an j _ k).vs;rw[Dm _ _ e];exact h1,h2,h3⟩
theorem UpI.nn{q:Nod}(h:UpI σ i p rs)(b:q.d=p.d)(j:q.sy=p.sy)(c:q.vo=p.vo)(f:RdI σ i q.bn)(a:q.bn.jv=p.bn.jv)(e:∀ x∈q.bu,x∈p.bu\/PnI σ rs q.bn x):UpI σ i q rs :=
 ⟨⟨h.tp.ok,h.tp.pre,b.trans h.tp.d,j.trans h.tp.sy,c.trans h.tp.vo,by rw[b];exact h.tp.len⟩,h.qP,f,by rw[a,c];exact h.bp,λx k=>(e x k).elim (λg=>by
  have:=h.pe x g;cases x<;>first|exact this|exact trivial|(refine⟨this.1,?_⟩;first|exact this.2|(rw[a];exact this.2))) id⟩
theorem UpI.count(h:UpI σ i p rs)(a:AgL σ p.ae 0){j:Nat}{v:Vt}(d:σ.held j v):UpI σ i (p.count j v) rs/\AgL σ (p.count j v).ae 0:=by
 unfold Nod.count;split
 .exact⟨h,a⟩
 .rename_i b
  have b:=lX.1 b;split
  .exact⟨h,a⟩
  .rename_i he
   have c:=h.rd.count b (lX.1 he) d;exact⟨h.nn rfl rfl rfl c rfl λx g=>.inl g,Ud (λj e v f=>(c.an j e v f).1) 41 a⟩
end
end
section
open Go.RowKit
section
variable{K key p:List Int}{c n s t:Int}{l:List Bool}
theorem az{r u:Int}(i:key.length=32)(h:Dg c r u):DX key (Es key c r u)=0/\LO key (Es key c r u)=tkA c r u:=by
 have f:(Es key c r u).take 6=Hz c r u:=by unfold Es;rw[mn (by rw[BT];omega),mc (by rw[BT];omega)]
 have g:(Es key c r u).drop 6=(El key (Hz c r u)).take 16:=by unfold Es;rw[nF (by rw[BT];omega),nw (by rw[BT];omega),m7]
 have a:(Es key c r u).getD 0 0=c:=rfl;have b:(Es key c r u).getD 1 0=r:=rfl;have d:Ac (Es key c r u) 2=u:=NN c r u _ h.2.2.1 (by have:=h.2.2.2;omega);have e:DX key (Es key c r u)=0:=by
  rw[Q3 i (BB key c r u) (by rw[f,g]),a,b,d,IK h]
 exact⟨e,by rw[OS e,a,b,d]⟩
theorem Xz{k v:Int}(h:Bb k c s n v=0):Cb (Dr k c s n v)=0/\Ig (Dr k c s n v)=cmA k c s n v:=by
 obtain⟨b,a⟩:=CW h;unfold InC at a;have e:Cb (Dr k c s n v)=0:=by
  unfold Cb;rw[if_neg (λg=>g (DC k c s n v)),GI k c s n v (by omega) (by omega),GJ k c s n v (by omega) (by omega),GL k c s n v (by omega) (by omega),Fw k c s n v (by omega) (by omega),Fx k c s n v (by omega) (by omega)];exact h
 refine⟨e,?_⟩;unfold Ig;rw[if_pos e,GI k c s n v (by omega) (by omega),GJ k c s n v (by omega) (by omega),GL k c s n v (by omega) (by omega),Fw k c s n v (by omega) (by omega),Fx k c s n v (by omega) (by omega)]
theorem ZW{r:List Int}(a:OkC key s t l)(c:r.length<=2020)(d:20<=r.length)(e:Ix (r.take 4)<1073741824)(b:YR t l (Ix (r.take 4))=false):Gq key s t l r=DO key (BX (r.take 4)) (r.take 4) (r.drop 4):=by
 unfold Gq;rw[if_neg (λh=>h a),if_neg (by omega),if_neg (by omega),if_neg (by omega),b,if_neg (by simp)]
theorem Nx{h:List Int}(a:K.length=32)(b:h.length=4):Fo K (BX h) h=true:=TS a (ED b) (by omega)
theorem Uh(K:List Int)(n:Int)(p:List Int)(a:0<=n)(b:n<1073741824):Ix ((FK K n p).take 4)=n:=by rw[Jr,VN n a (by omega)]
theorem ah(a:OkC K s t l)(d:0<=n)(c:n<1073741824)(e:p.length<=2000)(f:∀ x∈p,0<=x/\x<256)(b:YR t l n=false):Gq K s t l (FK K n p)=0:=by
 rw[ZW a (by rw[Dd];omega) (by rw[Dd];omega) (by rw[Uh K n p d c];exact c) (by rw[Uh K n p d c];exact b),Jr,NU];exact JQ (Nx a.key rfl) e
theorem Tt(a:K.length=32)(c:p.length<=2000)(b:∀ x∈p,0<=x/\x<256):IG K (FK K n p)=p:=by
 unfold IG;rw[Jr,NU];exact S9 (Nx a rfl) c b
end
section
variable{n tc tr tu k c s m v:Int}(h:paE n tc tr tu k c s m v=0)
include h
theorem YZ:Kv (paL n tc tr tu k c s m v)=0/\OL (paL n tc tr tu k c s m v)=paP tc tr tu k c s m v:=by
 obtain⟨a,b,d⟩:=I0 h;have f:=(CW d).2;have e:Kv (c::FK (Ip c) n (paP tc tr tu k c s m v))=0:=by
  unfold Kv;rw[if_neg (by simp),mq,if_neg (by have:=f.2.1;omega),List.drop_one,List.tail_cons];exact ah (OkC.new (Cn c) 0 (by omega) (by omega)) a.1 a.2 (by rw[D0];omega) (Qv b) (Ui a.1)
 rw[ON h];refine⟨e,?_⟩;unfold OL;rw[if_pos e,mq,List.drop_one,List.tail_cons];exact Tt (Cn c) (by rw[D0];omega) (Qv b)
theorem fp:unT (paL n tc tr tu k c s m v)=Es EP tc tr tu/\unQ (paL n tc tr tu k c s m v)=Dr k c s m v:=by
 unfold unT unQ;rw[(YZ h).2];unfold paP;exact⟨by rw[mn (by rw[BB];omega),mc (by rw[BB];omega)],by rw[nF (by rw[BB];omega),nw (by rw[BB];omega),m7]⟩
theorem ig:unE (paL n tc tr tu k c s m v)=0:=by
 obtain⟨j,f,i⟩:=I0 h;obtain⟨a,b⟩:=YZ h;obtain⟨d,e⟩:=fp h;unfold unE;rw[if_neg (λg=>g a),if_neg (by rw[b,D0];simp),d,if_neg (λg=>g (az Gb f).1),e];exact(Xz i).1
theorem SL:(unT (paL n tc tr tu k c s m v)).getD 0 0=tc/\(unT (paL n tc tr tu k c s m v)).getD 1 0=tr/\Ac (unT (paL n tc tr tu k c s m v)) 2=tu/\Ac (unQ (paL n tc tr tu k c s m v)) 0=k/\Ac (unQ (paL n tc tr tu k c s m v)) 4=c/\Ac (unQ (paL n tc tr tu k c s m v)) 8=s/\Ac (unQ (paL n tc tr tu k c s m v)) 12=m/\Ac (unQ (paL n tc tr tu k c s m v)) 16=v:=by
 obtain⟨i,a,e⟩:=I0 h;obtain⟨b,d⟩:=fp h;rw[b,d];obtain⟨g,f⟩:=CW e;unfold InC at f;exact⟨rfl,rfl,NN tc tr tu _ a.2.2.1 (by have:=a.2.2.2;omega),GI k c s m v (by omega) (by omega),GJ k c s m v (by omega) (by omega),GL k c s m v (by omega) (by omega),Fw k c s m v (by omega) (by omega),Fx k c s m v (by omega) (by omega)⟩
theorem dp(a:Int):opE (paL n tc tr tu k c s m v) a=Et tc tr tu k c s m v a/\opA (paL n tc tr tu k c s m v) a=if Et tc tr tu k c s m v a=0 then cmA k c s m v else cmA 0 0 0 0 0:=by
 obtain⟨o,p,q,b,d,e,f,i⟩:=SL h;have l:opE (paL n tc tr tu k c s m v) a=Et tc tr tu k c s m v a:=by
  unfold opE;rw[if_neg (λg=>g (ig h)),o,p,q,b,d,e,f,i,if_neg];rintro⟨_,j⟩;rw[ON h,mq]at j
  exact j rfl
 refine⟨l,?_⟩;unfold opA;rw[l,b,d,e,f,i]
end
theorem SK{n a b d k c s m v:Int}(h:paE n a b d k c s m v=0):(paL n a b d k c s m v).length=63:=by
 rw[ON h,mH,Dd,D0]
end
section
section
def Nod.ub(p:Nod):Bool × Nat:=(p.up,p.bad)
theorem LM(p:Nod)(b:Bal):(p.av b).1.ub=p.ub:=by
 unfold Nod.av;split
 .rfl
 .split
  .rfl
  .split<;>rfl
theorem UJ(p:Nod)(v:Vt):(p.cl v).1.ub=p.ub:=by
 unfold Nod.cl;split
 .rfl
 .split
  .rfl
  .split<;>rfl
theorem Lg(p:Nod)(j:Nat)(v:Vt):(p.count j v).ub=p.ub:=by
 unfold Nod.count;split
 .rfl
 .split<;>rfl
theorem NW(p:Nod)(to:Nat)(e:Int):(p.fa to e).ub=p.ub:=by unfold Nod.fa;split<;>rfl
theorem Ll(p:Nod)(l:List Cmd):(p.eb l).ub=p.ub:=by unfold Nod.eb;split<;>rfl
theorem Ph(p:Nod)(l:Let):(p.take l).ub=p.ub:=by
 unfold Nod.take;split
 .split
  .exact NW _ _ _
  .exact LM p l.jv
 .simp only;split<;>rfl
 .rfl
 .split
  .exact NW _ _ _
  .exact UJ p l.cl
 .exact Lg p _ _
 .split<;>rfl
 .simp only;split<;>exact Ll p l.hZ
 .rfl
theorem dK(p:Nod)(i:Nat)(q:Pend):(p.nf i q).ub=p.ub:=by
 cases q with
 | began b vs=>unfold Nod.nf;simp only;split<;>rfl
 | prop v=>exact Lg p i v
 | _=>rfl
theorem XH(i:Nat)(l:List Pend)(p:Nod)(a:List Let):(qk i l p a).1.ub=p.ub:=by
 induction l generalizing p a with
 | nil=>rfl
 | cons q l ih=>exact(ih _ _).trans (dK p i q)
theorem Oh(p:Nod)(c:Cmd):(p.gC c).ub=p.ub:=by unfold Nod.gC;split<;>rfl
theorem gi(i:Nat)(l:List Cmd)(p:Nod)(a:List Tol):(qJ i l p a).1.ub=p.ub:=by
 induction l generalizing p a with
 | nil=>rfl
 | cons c l ih =>
  rw[qJ];split
  .rfl
  .exact(ih _ _).trans (Oh _ _)
theorem aY(p:Nod)(i:Nat):(p.lp i).1.ub=p.ub:=by
 unfold Nod.lp;split
 .rfl
 .split
  .exact Ll _ _
  .rfl
theorem SZ(p:Nod):p.cF.ub=p.ub:=by
 unfold Nod.cF;split
 .rfl
 .split
  .rfl
  .split
   .rfl
   .exact UJ p _
theorem ZQ(p:Nod)(i:Nat)(a:List Let):(p.qj i a).1.ub=p.ub:=by
 unfold Nod.qj;split
 .rfl
 .rw[XH];unfold Nod.qD;split<;>rfl
theorem WF(p:Nod)(i:Nat)(a:List Let):(p.bw i a).1.ub=p.ub:=by unfold Nod.bw;split<;>rfl
theorem Ze(p:Nod)(i:Nat)(a:List Let)(b:List Tol):(p.piece i a b).1.ub=p.ub:=by
 unfold Nod.piece;simp only;rw[WF,ZQ,SZ,aY,gi]
theorem OC(p:Nod)(i:Nat):(p.lead i).ub=p.ub:=by
 unfold Nod.lead;simp only;split
 .rfl
 .exact LM p _
theorem TF(M:Meet)(l:Let)(j:Nat):((M.qh l).ab j).ub=(M.ab j).ub:=by
 unfold Meet.qh;split
 .show(upN M.ab l.dst _ j).ub=_;unfold upN;split
  .rename_i h;rw[h];exact Ph _ _
  .rfl
 .rfl
theorem X1(l:List Let)(M:Meet)(j:Nat):((l.foldl (λM l=>M.qh l) M).ab j).ub=(M.ab j).ub:=by
 induction l generalizing M with
 | nil=>rfl
 | cons x l ih=>exact(ih _).trans (TF M x j)
theorem cX(M:Meet)(k:Int)(a:Nat)(j:Nat):((M.move k a).ab j).ub=(M.ab j).ub:=by
 unfold Meet.move;split
 .rfl
 .simp only;split
  .rw[TF];split<;>rfl
  .split<;>rfl
theorem I8(M:Meet)(i:Nat)(p:Nod)(a:List Let)(b:List Tol)(j:Nat):(M.set i p a b).ab j=if j=i then p else M.ab j:=rfl
variable{D:Wh}{L:List Lac}{M N:Meet}{i n:Nat}{k:Int}{l:Let}{p:Nod}{rs:List Rk}{x:Lac}{σ:Gs}
theorem fL(M:Meet){x:Lac}(f:x.k≠1)(g:x.k≠8)(h:x.k≠9)(j:Nat):((M.act x).ab j).ub=(M.ab j).ub:=by
 unfold Meet.act;simp only;rw[if_neg f];by_cases a:x.k=2
 .rw[if_pos a,I8];split
  .rename_i e
   rw[e];split
   .exact OC _ _
   .rfl
  .rfl
 .rw[if_neg a];by_cases b:x.k=3
  .rw[if_pos b,I8];split
   .rename_i e
    rw[e];split
    .exact Ze _ _ _ _
    .rfl
   .rfl
  .rw[if_neg b];by_cases c:x.k=4\/x.k=5\/x.k=6
   .rw[if_pos c];exact cX _ _ _ _
   .rw[if_neg c];by_cases d:x.k=7
    .rw[if_pos d];exact X1 _ _ _
    .rw[if_neg d,if_neg g,if_neg h]
theorem iF(M:Meet){x:Lac}(h:x.k=1)(j:Nat):((M.act x).ab j).ub=if j=x.n.toNat/\(M.ab j).up=true/\opE x.d ((M.ab j).done:Int)≠0 then((M.ab j).up,(M.ab j).bad+1)else(M.ab j).ub:=by
 unfold Meet.act;simp only;rw[if_pos h,I8];by_cases f:j=x.n.toNat
 .subst f;rw[if_pos rfl];unfold Nod.qx Nod.qH;by_cases b:(M.ab x.n.toNat).up=false
  .rw[if_pos b,if_neg (by rw[b];simp)]
  .rw[if_neg b];have g:(M.ab x.n.toNat).up=true:=by simpa using b
   by_cases a:opE x.d ((M.ab x.n.toNat).done:Int)≠0
   .rw[if_pos a,if_pos ⟨rfl,g,a⟩];rfl
   .rw[if_neg a,if_neg (c:=_/\_) (λe=>a e.2.2)];split
    .rfl
    .show(Nod.want _ _).ub=_;unfold Nod.want;split<;>rfl
 .rw[if_neg f,if_neg (λe=>f e.1)]
theorem B2(M:Meet)(L:List Lac)(x:Lac):M.ew (L++[x])=(M.ew L).act x:=by unfold Meet.ew;rw[oD];rfl
theorem UV(h:L[i]?=some x):M.ew (L.take (i+1))=(M.ew (L.take i)).act x:=by rw[nA,h];exact B2 M (L.take i) x
theorem FN(L:List Lac)(h:∀ x∈L,LacOk x)(d:L.length<=100000):MOk L.length (At.ew L):=by
 suffices ∀ i,i<=L.length->MOk i (At.ew (L.take i))by have a:=this L.length (A' _);rwa [ng]at a
 intro i;induction i with
 | zero=>intro _;exact MOk.zero
 | succ i ih =>
  intro c;have b:L[i]?=some L[i]:=G' (by omega);rw[UV b];exact(ih (by omega)).act (by omega) (h _ (mE _))
def Nod.tp(p:Nod):Prop:=Be p.d p.sy
theorem eT{d:List Int}{s:Int}{may:Prop}[Decidable may]{b:List Int}(h:Cx d s may b=0):Be (FE d s may b) (G3 d s may b):=by
 obtain⟨a,c,_⟩:=JD h;unfold FE G3;rw[if_pos h,if_pos h];unfold Be at *;rw[H',Ba];omega
theorem eG(h:p.tp)(v:Vt):(p.cl v).1.tp:=by
 unfold Nod.cl;split
 .exact h
 .split
  .exact h
  .split
   .exact h
   .rename_i hw;exact eT (lX.1 hw)
theorem Li(h:p.tp){k:Int}(c:0<=k):(p.lr k).tp/\(p.lr k).up=false/\(p.lr k).done=0/\(p.lr k).ae=[]:=by
 have a:FU p.d p.sy k=0:=by unfold FU;rw[if_neg (λe=>e h),if_neg (by omega)]
 unfold Nod.lr;rw[if_neg (λe=>e a)];refine⟨?_,rfl,rfl,rfl⟩;show Be (Kj p.d p.sy k) (Kk p.d p.sy k);unfold Kj Kk;rw[if_pos a,if_pos a];unfold Nod.tp Be at h;have b:0<=FV p.d p.sy k/\FV p.d p.sy k<=(p.d.length:Int):=by unfold FV;split<;>omega
 unfold Be;rw[Z'];omega
theorem Mb(h:p.tp):p.start.tp/\p.start.up=true/\p.start.done=0/\p.start.ae=[]:=by
 have b:Dl p.d p.sy=0:=if_pos h;have c:=Yq p.d p.d.length;unfold Nod.start;rw[if_neg (λe=>e b)];split
 .refine⟨?_,rfl,rfl,rfl⟩;show Be (Js p.d p.sy) (LU p.d p.sy);unfold Js LU;have a:Be p.d p.sy:=h;rw[if_pos a,if_pos a];unfold Nod.tp Be at h;unfold Be;rw[Z'];unfold DZ;split<;>omega
 .exact⟨h,rfl,rfl,rfl⟩
theorem fM(M:Meet){x:Lac}(c:x.k≠8){j:Nat}(a:(M.ab j).up=true):((M.act x).ab j).up=true:=by
 by_cases b:x.k=1
 .have:=congrArg Prod.fst (iF M b j);split at this
  .exact this.trans a
  .exact this.trans a
 .by_cases h9:x.k=9
  .unfold Meet.act;simp only;rw[if_neg b,if_neg (by omega),if_neg (by omega),if_neg (by omega),if_neg (by omega),if_neg (by omega),if_pos h9,I8];split
   .rename_i e;rw[<- e,if_pos a];exact a
   .exact a
  .exact(congrArg Prod.fst (fL M b c h9 j)).trans a
theorem AU(M:Meet)(L K:List Lac):M.ew (L++K)=(M.ew L).ew K:=oD
theorem KN{n:Int}(h:(k=2\/k=3\/k=9)/\0<=n/\n<=4):LacOk (acN k n):=by
 rw[<- Ez];rcases h with⟨rfl|rfl|rfl,h1,h2⟩<;>simp[Yv,acN,FM,GU,GV]<;>omega
theorem NdI.mk'(b:p.up=true)(h:UpI σ i p rs)(a:AgL σ p.ae 0):NdI σ i p:=⟨λ_=>⟨rs,h⟩,λe=>(by rw[b]at e;cases e),a⟩
theorem AgL.nil(σ:Gs)(k:Nat):AgL σ [] k:=λs c e=>by simp at e
theorem AgL.drop{l:List Cmd}(h:AgL σ l 0)(k:Nat):AgL σ (l.drop k) k:=λs c e=>by
 rw[mX]at e
 have:=h _ c e
 rwa [mJ]at this
theorem UpI.wait(h:UpI σ i p rs){x:Pend}(a:PnI σ rs p.bn x):UpI σ i (p.wait x) rs :=
 h.nn rfl rfl rfl h.rd rfl λy b=>(U'.1 b).imp id λe=>by rw[D'.1 e];exact a
theorem UpI.fa(h:UpI σ i p rs)(to:Nat)(e:Int):UpI σ i (p.fa to e) rs:=by
 unfold Nod.fa;split
 .exact h.wait (by show Ao p.vo.p/\p.vo.p.key<=_;rw[h.tp.vo];exact⟨h.tp.ok.acc.1,lU _⟩)
 .exact h
theorem NV(p:Nod)(to:Nat)(e:Int):(p.fa to e).ae=p.ae:=by unfold Nod.fa;split<;>rfl
theorem UpI.wrote{τ:Gs}{q:Nod}{a:List Rk}(h:UpI σ i p rs)(j:σ.le τ)(l:GsI τ)(f:τ.dr i=σ.dr i)(b:TpU q (σ.dr i) a)(m:rs <+: a)(o:∀ v,Rk.vt v∈a->τ.qP v){r:Rnd}(n:RdI τ i r)(c:p.bn.jv.key<=r.jv.key)(e:r.jv.key<=q.vo.p.key){x:Pend}(s:PnI τ a r x)(k:q.bu=p.bu):UpI τ i (Nod.wait { q with bn:=r } x) a :=
 ⟨by rw[f];exact⟨b.ok,b.pre,b.d,b.sy,b.vo,b.len⟩,o,n,e,λy t=>by
  rcases U'.1 t with g|g
  .have g:y∈q.bu:=g;rw[k]at g
   exact(h.pe y g).mono j l m b.ok c
  .rw[D'.1 g];exact s⟩
theorem Fk(h:UpI σ i p rs)(l:List Cmd):UpI σ i (p.eb l) rs/\(p.eb l).ae=p.ae:=by
 unfold Nod.eb;split
 .exact⟨h.nn rfl rfl rfl ⟨h.rd.jv,h.rd.next,h.rd.own,h.rd.an,h.rd.prom,h.rd.acc⟩ rfl λx a=>.inl a,rfl⟩
 .exact⟨h,rfl⟩
theorem Qc(h:UpI σ i p rs)(a:AgL σ p.ae 0):UpI σ i p.qp rs/\AgL σ p.qp.ae 0:=⟨h.nn rfl rfl rfl h.rd rfl λx d=>.inl d,Ud (λj b v c=>(h.rd.an j b v c).1) 41 a⟩
theorem NdI.take(C:GsI σ){i:Nat}{p:Nod}(h:NdI σ i p)(D:p.up=true){l:Let}(u:LtI σ l)(G:l.src<5):NdI σ i (p.take l):=by
 obtain⟨f,k⟩:=h.up D;have c:=h.ag
 suffices g:∃ b,UpI σ i (p.take l) b/\AgL σ (p.take l).ae 0 by
  obtain⟨b,w,o⟩:=g;exact NdI.mk' ((congrArg Prod.fst (Ph p l)).trans D) w o
 unfold Nod.take;split
 .rename_i hk
  rcases k.tp.av l.jv with⟨e,he⟩|⟨e,he,hvs,b,hp,ht,hm,hpb,hpv,d,a,hq⟩
  .rw[if_pos e];exact⟨f,k.fa _ _,by rw[NV];exact c⟩
  .rw[if_neg (λg=>g e)];have m:=Cd he;refine⟨b,?_,?_⟩
   .refine k.wrote (q:=(p.av l.jv).1) (r:=(p.av l.jv).1.bn) (.refl σ) C rfl ht hp (λv B=>k.qP v ((hm v).1 B)) ?_ ?_ ?_ ⟨PrmOk.of ht.ok hpb (hpv.trans hvs.symm),u.k0 hk⟩ (by rw[hq];rfl)
    .rw[hq];exact k.rd
    .rw[hq];exact lU _
    .rw[ht.vo,hpb,hq];exact mp k.bp (Bj m.2.1.pr m.1.1 m.2.2)
   .show AgL σ (p.av l.jv).1.ae 0;rw[hq];exact c
 .rename_i hk
  obtain⟨w,o,E⟩:=u.k1 hk;have y:AgL σ (p.mv 0 l.hZ).ae 0:=Qd c E (mA _);have s:UpI σ i (p.mv 0 l.hZ) f:=k.nn rfl rfl rfl k.rd rfl λx j=>.inl j;generalize p.mv 0 l.hZ=K at y s ⊢;simp only;split
  .exact⟨f,s,y⟩
  .rename_i hc
   have A:K.leads=true:=by cases hh:K.leads with|true=>rfl|false=>exact absurd (.inl hh) hc
   have t:l.jv=K.bn.jv:=lX.1 λe=>hc (.inr (.inl e));have z:K.bn.jv≠AY:=(my A).1;rw[t]at w o
   have F:=(s.rd.jv.resolve_left z).2;rw[F,mC]at o
   have n:=s.rd.qz w o;exact⟨f,Qc (p:={ K with bn:={ K.bn.qz l.src l.ni with bw:=upN K.bn.bw l.src l.hZ.length } }) (s.nn rfl rfl rfl ⟨n.jv,n.next,n.own,n.an,n.prom,n.acc⟩ rfl λx j=>.inl j) y⟩
 .exact⟨f,k.nn rfl rfl rfl k.rd rfl λx j=>.inl j,c⟩
 .rename_i hk
  rcases k.tp.cl l.cl with⟨e,he⟩|⟨e,he,b,hp,ht,hm,hpb,d,a,hq⟩
  .rw[if_pos e];exact⟨f,k.fa _ _,by rw[NV];exact c⟩
  .rw[if_neg (λg=>g e)];have m:=An he;refine⟨b,?_,?_⟩
   .refine k.wrote (q:=(p.cl l.cl).1) (r:=(p.cl l.cl).1.bn) (.refl σ) C rfl ht hp (λv B=>((hm v).1 B).elim (λe=>by rw[e];exact u.k3 hk) (k.qP v)) ?_ ?_ ?_ ((hm _).2 (.inl rfl)) (by rw[hq];rfl)
    .rw[hq];exact k.rd
    .rw[hq];exact lU _
    .rw[ht.vo,hpb,hq];exact mp k.bp (Bj m.2.1.2.1.pr m.1.1 m.2.2)
   .show AgL σ (p.cl l.cl).1.ae 0;rw[hq];exact c
 .rename_i hk
  exact⟨f,k.count c (u.k4 hk)⟩
 .rename_i hk
  split
  .exact⟨f,k.wait trivial,c⟩
  .rename_i hlt;exact⟨f,k.nn rfl rfl rfl k.rd rfl λx j=>.inl j,Qd c (u.k5 hk) (by omega)⟩
 .have:=Fk k l.hZ;simp only;split
  .exact⟨f,this.1.wait trivial,by show AgL σ (p.eb l.hZ).ae 0;rw[this.2];exact c⟩
  .exact⟨f,this.1,by rw[this.2];exact c⟩
 .exact⟨f,k,c⟩
theorem VZ(W:GsI σ){i:Nat}{p:Nod}(h:RdI σ i p.bn)(X:Ab p.bn.jv)(Y:p.bn.qt=true){s:Nat}(hs:p.bn.next<=s){c:Cmd}(t:p.pd s=some c):Ef σ.H σ.P s p.bn.jv.key c:=by
 have h5:5<2*FJ p.bn.ql:=my Y;have m:∀ j,j<5->∀ v∈(p.bn.an j).vs,v.bt=(s:Int)->v∈Ae (p.bn.ln.map (·.vs)).flatten (s:Int):=λj F v M e=>by
  refine AH.2 ⟨nH.2 ⟨(p.bn.an j).vs,mt.2 ⟨p.bn.an j,?_,rfl⟩,M⟩,e⟩;unfold Rnd.ln;rcases qm F with rfl|rfl|rfl|rfl|rfl<;>simp
 refine⟨p.bn.ql,by omega,λq n o=>(h.prom q n o).1,?_⟩;unfold Nod.pd at t;split at t
 .cases t
 .rename_i d
  have d:=lX.1 d;have D:DI (p.bn.ln.map (·.vs)) (s:Int)=(DP (p.bn.ln.map (·.vs)) (s:Int)).isSome:=if_pos d;have S:Gg (p.bn.ln.map (·.vs)) (s:Int)=((DP (p.bn.ln.map (·.vs)) (s:Int)).map (·.w)).getD ⟨0,0,0,0,0⟩:=if_pos d;have r:∀ l∈p.bn.ln.map (·.vs),∀ v∈l,Ah v:=by
   unfold BR at d;split at d
   .cases d
   .split at d
    .assumption
    .cases d
  have L:∀ v∈Ae (p.bn.ln.map (·.vs)).flatten (s:Int),Ao v.b:=λv M=>by
   obtain⟨l,k,f⟩:=nH.1 (AH.1 M).1;exact(r l k v f).2.1.pr
  rcases KT _ L with⟨h0,E⟩|⟨x,E,hx,hmax⟩
  .left;intro q n o U V ⟨v,g,R,Z,k3⟩;refine Int.not_lt.1 λz=>?_;obtain⟨u,k,f,_⟩:=(h.prom q n o).2 v g (by omega);have:=m q n u k (f.trans R);rw[h0]at this;cases this
  .right;have E:DP (p.bn.ln.map (·.vs)) (s:Int)=some x:=E;rw[E]at D S
   have D:DI (p.bn.ln.map (·.vs)) (s:Int)=true:=D;rw[if_pos D]at t
   have G:c=x.w:=(mI t).symm.trans S;obtain⟨O,Q⟩:=AH.1 hx;obtain⟨j,F,N⟩:∃ j,j<5/\x∈(p.bn.an j).vs:=by
    obtain⟨l,k,f⟩:=nH.1 O;obtain⟨a,C,rfl⟩:=mt.1 k;unfold Rnd.ln at C;simp only[ma,P',or_false]at C;rcases C with rfl|rfl|rfl|rfl|rfl
    .exact⟨0,by omega,f⟩
    .exact⟨1,by omega,f⟩
    .exact⟨2,by omega,f⟩
    .exact⟨3,by omega,f⟩
    .exact⟨4,by omega,f⟩
   obtain⟨y,I,J⟩:=h.an j F x N;have B:=W.hv j x y;have A:x.b≠p.bn.jv:=λe=>by
    have k:=B.2;rw[e]at k
    have:=h.next _ _ k;omega
   have z:x.b.key<p.bn.jv.key:=by
    rcases Int.lt_or_eq_of_le I with g|g
    .exact g
    .exact absurd (DU B.1.2.1.pr X.pr g) A
   have K:p.bn.ql j=true:=by
    cases hh:p.bn.ql j with
    | true=>rfl
    | false=>exact absurd (J hh) A
   refine⟨x.b.key,z,⟨j,F,K,x,y,Q,rfl,G.symm⟩,λq n o U V ⟨v,g,R,Z,k3⟩ T=>?_⟩;obtain⟨u,k,f,C⟩:=(h.prom q n o).2 v g (by omega);have:=hmax u (m q n u k (f.trans R));omega
def Gs.prop(σ:Gs)(b:Bal)(s:Nat)(c:Cmd):Gs:=⟨σ.dr,λb' s' c'=>σ.W b' s' c'\/(b'=b/\s'=s/\c'=c)⟩
theorem GsI.prop(h:GsI σ){b:Bal}{s:Nat}{c:Cmd}(e:Ab b)(d:Ef σ.H σ.P s b.key c)(f:b.key<=σ.P b.n.toNat)(a:∀ c',¬ σ.W b s c'):GsI (σ.prop b s c):=by
 refine⟨h.ok,h.rW,?_,?_,?_,λn v g=>⟨(h.hv n v g).1,.inl (h.hv n v g).2⟩⟩
 .rintro b' s' c1 c2 (g|⟨rfl,rfl,rfl⟩) (k|⟨e1,e2,e3⟩)
  .exact h.w1 _ _ _ _ g k
  .subst e1 e2;exact absurd g (a _)
  .exact absurd k (a _)
  .exact e3.symm
 .rintro b' s' c' (g|⟨rfl,rfl,rfl⟩)
  .exact h.w2 _ _ _ g
  .exact⟨e,d⟩
 .rintro b' s' c' (g|⟨rfl,rfl,rfl⟩)
  .exact h.w3 _ _ _ g
  .exact f
theorem NdI.cF(x:GsI σ){i:Nat}{p:Nod}(h:NdI σ i p)(E:p.up=true):∃ τ ex,Gs.se i σ τ/\GsI τ/\NdI τ i p.cF/\(∀ b s c,τ.W b s c->σ.W b s c\/ex=some (b,s))/\∀ b s,ex=some (b,s)->s<40/\b=p.bn.jv/\s=p.ae.length/\∀ c,τ.W b s c->p.pd s=some c:=by
 obtain⟨rs,k⟩:=h.up E;have f:∃ τ ex,Gs.se i σ τ/\GsI τ/\NdI τ i p/\(∀ b s c,τ.W b s c->σ.W b s c\/ex=some (b,s))/\∀ b s,ex=some (b,s)->s<40/\b=p.bn.jv/\s=p.ae.length/\∀ c,τ.W b s c->p.pd s=some c:=⟨σ,none,.refl i σ,x,h,λ_ _ _ h=>.inl h,λ_ _ e=>by cases e⟩;have o:=(F5 p).trans E
 revert o
 unfold Nod.cF;split
 .exact λ_=>f
 .rename_i hc
  have z:p.leads=true:=by cases hh:p.leads with|true=>rfl|false=>exact absurd (.inl hh) hc
  have n:p.bn.qt=true:=by cases hh:p.bn.qt with|true=>rfl|false=>exact absurd (.inr (.inl hh)) hc
  have A:p.bn.next<=p.ae.length:=Nat.not_lt.1 λe=>hc (.inr (.inr e));cases hn:p.pd p.ae.length with
  | none=>exact λ_=>f
  | some c =>
   simp only;rcases k.tp.cl ⟨(p.ae.length:Int),p.bn.jv,c⟩with⟨e,he⟩|⟨e,he,rs',hp,ht,hm,hpb,d,a,w⟩
   .rw[if_pos e];exact λ_=>f
   .rw[if_neg (λg=>g e)];intro o;have F:=An he;have y:p.bn.jv≠AY:=(my z).1;obtain⟨D,t⟩:=k.rd.jv.resolve_left y;have H:=VZ x k.rd D n A hn;have C:∀ l,¬ σ.W p.bn.jv p.ae.length l:=λl g=>by have:=k.rd.next _ _ g;omega
    have I:p.bn.jv.key<=σ.P i:=by
     obtain⟨q,w,G,_⟩:=Gd p.bn.ql p.bn.ql (by have:5<2*FJ p.bn.ql:=my n;omega) (by have:5<2*FJ p.bn.ql:=my n;omega);exact k.rd.own q w G
    have m:=x.prop D H (by rw[t,mC];exact I) C;have j:Gs.se i σ (σ.prop p.bn.jv p.ae.length c):=⟨⟨λ_=>lR _,λ_ _ _ g=>.inl g⟩,λb s l g=>g.imp id λe=>by rw[e.1];exact t,λ_ _=>rfl⟩;have B:(σ.prop p.bn.jv p.ae.length c).qP ⟨(p.ae.length:Int),p.bn.jv,c⟩:=⟨F.2.1,.inr ⟨rfl,mC _,rfl⟩⟩;have K:=k.rd.mono (τ:=σ.prop p.bn.jv p.ae.length c) (r:=p.bn) j.le m;refine⟨_,some (p.bn.jv,p.ae.length),j,m,NdI.mk' (rs:=rs') o ?_ ?_,λb s l g=>g.imp id λe=>by rw[e.1,e.2.1],λb s e=>?_⟩
    .refine k.wrote (q:=(p.cl ⟨(p.ae.length:Int),p.bn.jv,c⟩).1) (r:={ p.bn with next:=p.ae.length+1 }) j.le m rfl ht hp (λv J=>((hm v).1 J).elim (λe=>by rw[e];exact B) λg=>j.le.qP (k.qP v g)) ?_ (lU _) ?_ ((hm _).2 (.inl rfl)) (by rw[w];rfl)
     .have g:=k.rd;refine RdI.mono (σ:=σ) j.le m (r:={ p.bn with next:=p.ae.length+1 }) ⟨g.jv,λs l u=>j' (g.next s l u) (by show p.bn.next<=p.ae.length+1;omega),g.own,g.an,g.prom,g.acc⟩ λs l u=>?_;rcases u with u|⟨_,rfl,_⟩
      .exact j' (g.next s l u) (by show p.bn.next<=p.ae.length+1;omega)
      .exact Nat.lt_succ_self _
     .rw[ht.vo,hpb];exact lU _
    .show AgL _ (p.cl ⟨(p.ae.length:Int),p.bn.jv,c⟩).1.ae 0;rw[w];exact h.ag.mono j.le
    .cases e;have:=F.2.1.1.2;exact⟨by simp only at this;omega,rfl,rfl,λl g=>by
      rcases g with g|⟨_,_,g⟩
      .exact absurd g (C l)
      .rw[g];exact hn⟩
theorem LtI.none(h:l.kind=6):LtI σ l:=⟨λe=>by omega,λe=>by omega,λe=>by omega,λe=>by omega,λe=>by omega,λe=>by omega⟩
theorem LtI.news(h:l.kind=5)(a:AgL σ l.hZ l.bt):LtI σ l:=⟨λe=>by omega,λe=>by omega,λe=>by omega,λe=>by omega,λe=>by omega,λ_=>a⟩
theorem NdI.run(C:GsI σ){i:Nat}(H:i<5){p:Nod}(h:NdI σ i p)(j:p.up=true){q:Pend}{l:List Pend}(A:p.bu=q::l)(E:¬ p.sy<(p.d.length:Int)):NdI σ i { p.nf i q with bu:=l }/\∀ m∈p.qq i q,LtI σ m:=by
 obtain⟨B,k⟩:=h.up j;have f:=k.tp.all E;have c:=k.pe q (by rw[A];exact M');have t:∀ x∈l,x∈p.bu:=λx u=>by rw[A];exact I' _ u
 have o:∀ {p':Nod},UpI σ i p' B->p'.bu=p.bu->UpI σ i { p' with bu:=l } B:=λ{p'} g e=>g.nn rfl rfl rfl g.rd rfl λx u=>.inl (by rw[e];exact t x u);cases q with
 | began b vs =>
  unfold Nod.nf Nod.qq;simp only;split
  .exact⟨NdI.mk' j (o k rfl) h.ag,λm a=>by cases a⟩
  .rename_i e
   have e:=lX.1 e;obtain⟨w,G⟩:=c;have r:=k.tp.ok.acc;rw[<- k.tp.vo]at r
   have z:=k.bp;have y:p.bn.jv=b:=by
    rw[<- e];refine DU ?_ r.1 (by rw[e]at z ⊢;omega);rcases k.rd.jv with g|g
    .rw[g];exact .inr ⟨rfl,rfl⟩
    .exact g.1.pr
   have s:b.key<=σ.P i:=by have:=w.le;rw[<- f]at this;exact this
   rw[<- f,<- y]at w
   rw[<- y]at s
   refine⟨NdI.mk' j (o (p':={ p with bn:=p.bn.qz i vs }) (k.nn rfl rfl rfl (k.rd.qz w s) rfl λx u=>.inl u) rfl) h.ag,λm a=>?_⟩;obtain⟨to,_,rfl⟩:=Cv a;refine⟨λ_=>?_,λe=>(by cases e),λe=>(by cases e),λe=>(by cases e),λe=>(by cases e),λe=>(by cases e)⟩;show b.key<=σ.P b.n.toNat;rw[<- y];rcases k.rd.jv with g|g
   .rw[g];have F:=(C.ok (AY.n.toNat)).acc.1;have:0<=σ.P (AY.n.toNat):=by
     unfold Ao Ab at F;unfold Gs.P Bal.key;omega
    exact this
   .rw[g.2,mC];exact s
 | prom to b vs =>
  refine⟨NdI.mk' j (o k rfl) h.ag,λm a=>?_⟩;rw[D'.1 a];refine⟨λe=>(by cases e),λ_=>⟨?_,c.2,h.ag⟩,λe=>(by cases e),λe=>(by cases e),λe=>(by cases e),λe=>(by cases e)⟩;show PrmOk (σ.dr i) b vs;rw[f];exact c.1
 | voted to v =>
  refine⟨NdI.mk' j (o k rfl) h.ag,λm a=>?_⟩;rw[D'.1 a];refine⟨λe=>(by cases e),λe=>(by cases e),λe=>(by cases e),λe=>(by cases e),λ_=>?_,λe=>(by cases e)⟩;show Rk.vt v∈σ.dr i;rw[f];exact c
 | fa to b =>
  refine⟨NdI.mk' j (o k rfl) h.ag,λm a=>?_⟩;rw[D'.1 a];refine⟨λe=>(by cases e),λe=>(by cases e),λ_=>?_,λe=>(by cases e),λe=>(by cases e),λe=>(by cases e)⟩;show Ao b/\b.key<=(Bq (σ.dr i)).p.key;rw[f];exact c
 | prop v =>
  have D:σ.held i v:=by show Rk.vt v∈σ.dr i;rw[f];exact c
  have g:=k.count h.ag D;refine⟨NdI.mk' ((congrArg Prod.fst (Lg p i v)).trans j) (o g.1 (EV p i (.prop v)).1) g.2,λm a=>?_⟩;obtain⟨to,_,rfl⟩:=Cv a;exact⟨λe=>(by cases e),λe=>(by cases e),λe=>(by cases e),λ_=>k.qP v c,λe=>(by cases e),λe=>(by cases e)⟩
 | askNews to=>exact⟨NdI.mk' j (o k rfl) h.ag,λm a=>by rw[D'.1 a];exact LtI.none rfl⟩
 | start=>exact⟨NdI.mk' j (o k rfl) h.ag,λm a=>by obtain⟨to,_,rfl⟩:=Cv a;exact LtI.none rfl⟩
 | tell to bt=>exact⟨NdI.mk' j (o k rfl) h.ag,λm a=>by rw[D'.1 a];exact LtI.news rfl (h.ag.drop bt)⟩
theorem NdI.lead(w:GsI σ){i:Nat}(E:i<5){p:Nod}(h:NdI σ i p)(y:p.up=true):NdI σ i (p.lead i):=by
 obtain⟨rs,k⟩:=h.up y;have f:(p.lead i).up=true:=(congrArg Prod.fst (OC p i)).trans y
 revert f
 unfold Nod.lead;simp only;generalize m:(⟨max p.dc p.vo.p.r+1,(i:Int)⟩:Bal)=b;rcases k.tp.av b with⟨e,he⟩|⟨e,he,hvs,rs',hp,ht,hm,hpb,hpv,d,a,hq⟩
 .rw[if_pos e];exact λ_=>h
 .rw[if_neg (λg=>g e)];intro f;have A:=Cd he;have C:p.vo.p.key<b.key:=by
   have:=A.1.1;rw[<- m];unfold Ao Ab at this;show 5*p.vo.p.r+p.vo.p.n<5*(max p.dc p.vo.p.r+1)+(i:Int);omega
  refine NdI.mk' (rs:=rs') f ?_ ?_
  .refine k.wrote (q:=(p.av b).1) (r:=⟨b,λ_=>false,λ_=>DA,λ_=>p.ae.length,0,[]⟩) (.refl σ) w rfl ht hp (λv o=>k.qP v ((hm v).1 o)) ?_ ?_ ?_ ⟨PrmOk.of ht.ok hpb (hpv.trans hvs.symm),lU _⟩ (by rw[hq];rfl)
   .refine⟨.inr ⟨A.2.1,by rw[<- m]⟩,λs c B=>?_,λj _ e=>(by cases e),λj _ v o=>(by cases o),λj _ e=>(by cases e),λj _=>⟨K8,λe=>(by cases e)⟩⟩;have l:=w.w3 _ _ _ B;rw[show b.n.toNat=i by rw[<- m];exact mC i]at l
    obtain⟨x,z⟩:=k.tp.pre;have t:=k.tp.ok;rw[<- z]at t
    have u:=(D1 t).1;rw[z,<- k.tp.vo]at u
    have D:σ.P i<=p.vo.p.key:=u;have l:b.key<=σ.P i:=l;omega
   .have:=k.bp;show _<=b.key;omega
   .rw[ht.vo,hpb];exact lU _
  .show AgL σ (p.av b).1.ae 0;rw[hq];exact h.ag
theorem J5(k:Nat):∀ m∈CS p i k,m.kind=5/\m.hZ=p.ae.drop m.bt:=by
 induction k with
 | zero=>intro m hm;cases hm
 | succ k ih =>
  intro m hm;rw[CS]at hm
  rcases U'.1 hm with hm|hm
  .exact ih m hm
  .split at hm
   .rw[D'.1 hm];exact⟨rfl,rfl⟩
   .cases hm
theorem AgI.sh(h:AgI σ M)(s:Stp D n M N):∃ τ ex,σ.le τ/\AgI τ N/\(∀ b s c,τ.W b s c->σ.W b s c\/ex=some (b,s))/\∀ b s,ex=some (b,s)->n=1/\s<40/\∃ i,i<5/\b=(M.ab i).bn.jv/\(M.ab i).up=true/\s=(M.ab i).ae.length/\∀ c,τ.W b s c->(M.ab i).pd s=some c:=by
 have r:=h.gs;have done:∀ {i:Nat} {p:Nod} {G:List Let} {O:List Tol},NdI σ i p->(∀ l∈G,l∈M.br\/LtI σ l)->∃ τ ex,σ.le τ/\AgI τ (M.set i p G O)/\(∀ b s c,τ.W b s c->σ.W b s c\/ex=some (b,s))/\∀ b s,ex=some (b,s)->n=1/\s<40/\∃ i,i<5/\b=(M.ab i).bn.jv/\(M.ab i).up=true/\s=(M.ab i).ae.length/\∀ c,τ.W b s c->(M.ab i).pd s=some c:=λ{i p G O} E f=>⟨σ,none,.refl σ,h.set (.refl _ σ) r E f O,λ_ _ _ h=>.inl h,λ_ _ e=>by cases e⟩;have same:∀ l∈M.br,l∈M.br\/LtI σ l:=λl f=>.inl f;have app:∀ {ms:List Let},(∀ m∈ms,LtI σ m)->∀ l∈M.br++ms,l∈M.br\/LtI σ l:=λg l f=>(U'.1 f).imp id (g l);cases s with
 | take _ l f hd hu _=>exact done ((h.nd _ hd.2).take r hu (h.lt l f) hd.1) same
 | br _ G f _=>exact⟨σ,none,.refl σ,⟨r,h.nd,λl g=>h.lt l (f l g)⟩,λ_ _ _ h=>.inl h,λ_ _ e=>by cases e⟩
 | one _ i c hi hu hc he =>
  refine done ?_ same;obtain⟨rs,k⟩:=(h.nd i hi).up hu;have Q:=Gv { M.ab i with ov:=doS (M.ab i).ov c,done:=(M.ab i).done+1 } c;refine NdI.mk' (Q.1.trans hu) (rs:=rs) ?_ (by rw[Q.2.1];exact(h.nd i hi).ag);unfold Nod.gC;split<;>exact k.nn rfl rfl rfl k.rd rfl λx a=>.inl a
 | ask _ i hi hu =>
  obtain⟨rs,k⟩:=(h.nd i hi).up hu;have z:=(h.nd i hi).ag;have C:=(K9 (M.ab i) i).trans hu;generalize E:M.ab i=p at k z C ⊢;refine done (NdI.mk' (rs:=rs) C ?_ ?_) (app ?_)
  .unfold Nod.lp;split
   .exact k.nn rfl rfl rfl k.rd rfl λx a=>.inl a
   .split
    .exact(Fk (p:={ p with bN:=(AV p.vo.p p.bN (p.au.take 40)).2 }) (k.nn rfl rfl rfl k.rd rfl λx a=>.inl a) _).1
    .exact k.nn rfl rfl rfl k.rd rfl λx a=>.inl a
  .unfold Nod.lp;split
   .exact z
   .split
    .show AgL σ (Nod.eb _ _).ae 0;rw[(Fk (p:={ p with bN:=(AV p.vo.p p.bN (p.au.take 40)).2 }) (k.nn rfl rfl rfl k.rd rfl λx a=>.inl a) _).2];exact z
    .exact z
  .intro m u;unfold Nod.lp at u;split at u
   .cases u
   .split at u
    .cases u
    .rw[D'.1 u];exact LtI.none rfl
 | prop _ i hi hu =>
  obtain⟨τ,ex,o,w,V,X,H⟩:=(h.nd i hi).cF r hu;exact⟨τ,ex,o.le,h.set o w V (λl f=>.inl f) _,X,λb s e=>⟨rfl,(H b s e).1,i,hi,(H b s e).2.1,hu,(H b s e).2.2⟩⟩
 | qD _ i hi hu hlt I =>
  obtain⟨rs,k⟩:=(h.nd i hi).up hu;obtain⟨x,a⟩:=k.tp.pre;have w:=r.ext (i:=i) x (by rw[a];exact k.tp.ok) λv t=>k.qP v (by rw[<- a];exact lV _ t);have o:=O6 σ i x;refine⟨σ.ext i x,none,o.le,h.set o w (NdI.mk' (p:={ M.ab i with sy:=((M.ab i).d.length:Int) }) (rs:=rs) hu ⟨?_,λv t=>o.le.qP (k.qP v t),k.rd.mono o.le w λs c J=>k.rd.next s c J,k.bp,λq F=>(k.pe q F).mono o.le w (lR _) k.tp.ok (lU _)⟩ ((h.nd i hi).ag.mono o.le)) (λl f=>.inl f) _,λ_ _ _ h=>.inl h,λ_ _ e=>by cases e⟩;rw[Hk,a];exact k.tp.qD
 | run _ i hi hu q l E hs =>
  have g:=(h.nd i hi).run r hi hu E hs;exact done g.1 (app g.2)
 | teach _ i hi hu hL =>
  obtain⟨rs,k⟩:=(h.nd i hi).up hu;refine done (NdI.mk' (rs:=rs) hu (k.nn rfl rfl rfl ⟨k.rd.jv,k.rd.next,k.rd.own,k.rd.an,k.rd.prom,k.rd.acc⟩ rfl λx a=>.inl a) (h.nd i hi).ag) (app λm u=>?_);obtain⟨T,U⟩:=J5 5 m u;exact LtI.news T (by rw[U];exact(h.nd i hi).ag.drop _)
 | lead _ i hi hu _=>exact done ((h.nd i hi).lead r hi hu) same
 | sub _ i d hi hu P =>
  obtain⟨rs,k⟩:=(h.nd i hi).up hu;have z:=(h.nd i hi).ag;refine done ?_ same;unfold Nod.qx Nod.qH;split
  .exact h.nd i hi
  .split
   .exact NdI.mk' (rs:=rs) hu (k.nn rfl rfl rfl k.rd rfl λx a=>.inl a) z
   .split
    .exact h.nd i hi
    .show NdI σ i (Nod.want _ _);unfold Nod.want;split
     .exact h.nd i hi
     .exact NdI.mk' (rs:=rs) hu (k.nn rfl rfl rfl k.rd rfl λx a=>.inl a) z
 | lr _ i c hi hu hc _ =>
  obtain⟨rs,k⟩:=(h.nd i hi).up hu;obtain⟨S,⟨x,a⟩,⟨y,R⟩,P⟩:=k.tp.lr hc;have w:=r.ext (i:=i) x (k.tp.ok.pre ⟨y,by rw[a];exact R⟩) λv t=>k.qP v (by rw[<- R,<- a];exact lT _ (lV _ t));have o:=O6 σ i x;have A:=Li (p:=M.ab i) k.tp.rC hc;exact⟨σ.ext i x,none,o.le,h.set o w ⟨λe=>(by rw[A.2.1]at e;cases e),λ_=>(by rw[Hk,a];exact P),by rw[A.2.2.2];exact AgL.nil _ _⟩ (λl f=>.inl f) _,λ_ _ _ h=>.inl h,λ_ _ e=>by cases e⟩
 | start _ i hi hu _ =>
  have k:=(h.nd i hi).dn hu;have I:Be (M.ab i).d (M.ab i).sy:=⟨k.len,by rw[k.sy];omega,by rw[k.sy];omega⟩;have B:=Mb (p:=M.ab i) I;have L:=k.start;have K:(M.ab i).start.bn=dH/\(M.ab i).start.bu=[.start]:=by
   unfold Nod.start;rw[if_neg (λe=>e (if_pos I))];split<;>exact⟨rfl,rfl⟩
  refine done (NdI.mk' (rs:=σ.dr i) B.2.1 ⟨L,λv t=>r.hv i v t,?_,?_,λq F=>?_⟩ (by rw[B.2.2.2];exact AgL.nil _ _)) same
  .rw[K.1];exact⟨.inl rfl,λs c J=>absurd (r.w2 _ _ _ J).1 (by decide),λj _ e=>(by cases e),λj _ v t=>(by cases t),λj _ e=>(by cases e),λj _=>⟨K8,λe=>(by cases e)⟩⟩
  .rw[K.1,L.vo];have Y:=L.ok.acc.1;show(0:Int)<=_;unfold Ao Ab at Y;unfold Bal.key;omega
  .rw[K.2]at F
   rw[D'.1 F];trivial
theorem AgI.step(h:AgI σ M)(s:Stp D n M N):∃ τ ex,σ.le τ/\AgI τ N/\(∀ b s c,τ.W b s c->σ.W b s c\/ex=some (b,s))/\∀ b s,ex=some (b,s)->n=1/\s<40/\∃ i,i<5/\b=(M.ab i).bn.jv:=by
 obtain⟨τ,ex,a,d,f,g⟩:=h.sh s;exact⟨τ,ex,a,d,f,λb s e=>by
  obtain⟨j,k,i,l,m,_⟩:=g b s e;exact⟨j,k,i,l,m⟩⟩
theorem AgI.zero:AgI ⟨λ_=>[],λ_ _ _=>False⟩ At :=
 ⟨⟨λ_=>AM.nil,⟨λn s b c ⟨v,g,_⟩=>(by cases g),λn k s b c h ⟨v,g,_⟩=>(by cases g),λn s b c ⟨v,g,_⟩=>(by cases g)⟩,λ_ _ _ _ g=>g.elim,λ_ _ _ g=>g.elim,λ_ _ _ g=>g.elim,λn v g=>(by cases g)⟩,
  λi _=>NdI.mk' (rs:=[]) rfl ⟨TpU.zero,λv g=>(by cases g),⟨.inl rfl,λ_ _ g=>g.elim,λj _ e=>(by cases e),λj _ v f=>(by cases f),λj _ e=>(by cases e),λj _=>⟨K8,λe=>(by cases e)⟩⟩,lU _,λq d=>(by cases d)⟩ (AgL.nil _ _),λl a=>by cases a⟩
theorem VE(a:∀ x∈L,LacOk x)(e:L.length<=100000)(k:Nat){j:Nat}(b:j<5):((At.ew (L.take k)).log j).length<=40:=by
 have d:=((FN (L.take k) (λx c=>a x (mh c)) (by rw[Z'];omega)).ab j b).ag;unfold Meet.log;rw[Z'];omega
end
end
section
open Go.RowKit
section
variable{P:Program}{fn:Func}{R:Ending->World->Prop}{w0:World}{Φ:List Fa}{g:Gh}{w:World}
def ju(g:Gh)(r b k:Nat):Gh:=⟨λc=>if c=b then .n 60 r else g.t c,λc=>if c=b then k else g.k c⟩
theorem lJ{s:Xs}(i r b I n:Nat)(o:List Value)(e:TypeId){v:Bool}(Ψ:List Fa)(E:∀ g',(∀ c,g.t c=.z->g'.t c=.z)->AllF g w Φ->AllF g' w Ψ)
  (M:∀ g',GT P fn R w0 (Fa.ow r e I ⟨some ⟨b,0,none⟩,n,n⟩ o::Ψ) ⟨s.K,s.f,s.L.eraseIdx i⟩ g' w)
  (D:o.length=n*I)(N:n<=maxLen)(H:s.L[i]?=some ⟨b,.cells o.toArray e,.l,v⟩:=by kernel_rfl):GT P fn R w0 Φ s g w:=by
 refine⟨λF C=>⟨λm=>?_⟩⟩;obtain⟨G,J,B,S⟩:=m.row _ (ml H);have B:w0.heap.size<=b:=B rfl;have T:b<w.heap.size:=rl G;have Q:∀ c,g.t c=.z->(ju g r b o.length).t c=.z:=λc h=>by
  show(if c=b then _ else _)=_;rw[if_neg (λe=>by rw[e,J]at h;cases h)];exact h
 have ne:∀ c,c<w0.heap.size->c≠b:=λc h e=>by subst e;exact absurd B (by omega)
 refine((M (ju g r b o.length)).ex ⟨⟨D,.inr ⟨b,o.toArray,rfl,G,A' _,N,by simpa using D,by simp[<- D],if_pos rfl,if_pos rfl⟩⟩,E _ Q F⟩ ⟨C.os,C.tape,C.output,C.size,λc h=>?_,λc h=>?_,λc h a d=>?_,C.same,λc h=>C.qZ c h⟩).ex ⟨λx O=>?_,?_,λc h=>?_,m.base⟩
 .show(if c=b then _ else _)=_\/_/\_/\(if c=b then _ else _)=_;rw[if_neg (ne c h)];exact C.rm c h
 .show _<=(if c=b then _ else _);rw[if_neg (ne c h)];exact C.ra c h
 .show(if c=b then _ else _)=_;rw[if_neg (ne c h)];exact C.rT c h a d
 .obtain⟨j,hj,hx2⟩:=List.mem_eraseIdx_iff_getElem?.1 O;have A:x.g≠b:=λe=>by
   obtain⟨u,y⟩:=V'.1 hx2;obtain⟨p,k⟩:=V'.1 H;rcases Nat.lt_or_gt_of_ne hj with q|q
   .have:=(mS.1 m.ry j i u p q (by rw[y,k];exact e)).2.1;rw[k]at this;cases this
   .have:=(mS.1 m.ry i j p u q (by rw[y,k];exact e.symm)).1.1;rw[k]at this;cases this
  have:=m.row x (ml hx2);show _/\(if _ then _ else _)=_/\_/\(_->(if _ then _ else _)=_);rw[if_neg A,if_neg A];exact this
 .exact m.ry.sublist (List.eraseIdx_sublist _ _)
 .show(if _ then _ else _)=_/\(if _ then _ else _)=_;have e:c≠b:=by omega
  rw[if_neg e,if_neg e];exact m.new c h
end
def iU(L:List Lac):Prop:=∀ x∈L,LacOk x
theorem gH{L:List Lac}(a:iU L)(c:L.length<=100000){j:Nat}(b:j<5):((At.ew L).log j).length<=40:=by
 have:=VE a c L.length b
 rwa [ng]at this
end
section
section
theorem KE{α:Type}[DecidableEq α]{l m:List α}(f:l.Nodup)(h:∀ x∈l,x∈m):l.length<=m.length:=by
 induction l generalizing m with
 | nil=>exact mA _
 | cons x l ih =>
  obtain⟨c,d⟩:=n7.1 f;have a:=h x M';have:=ih d (m:=m.erase x) λy b=>(px (λe=>c (by rw[<- e];exact b))).2 (h y (I' _ b));rw[oK a]at this
  have:=ou a;rw[mH];omega
def prc:List Rk->Nat
 | []=>0
 | .pr _::l=>prc l+1
 | .vt _::l=>prc l
def vts:List Rk->List Vt
 | []=>[]
 | .pr _::l=>vts l
 | .vt v::l=>v::vts l
theorem du(l m:List Rk):prc (l++m)=prc l+prc m:=by
 induction l with
 | nil=>simp[prc]
 | cons r l ih=>cases r<;>simp[prc,ih];omega
theorem eL(l m:List Rk):vts (l++m)=vts l++vts m:=by
 induction l with
 | nil=>rfl
 | cons r l ih=>cases r<;>simp[vts,ih]
theorem UN{l:List Rk}{v:Vt}:v∈vts l↔Rk.vt v∈l:=by
 induction l with
 | nil=>simp[vts]
 | cons r l ih=>cases r<;>simp[vts,ih]
theorem bQ(a:List Rk):(fl a).length=14*prc a+38*(vts a).length:=by
 induction a with
 | nil=>rfl
 | cons r l ih =>
  have e:fl (r::l)=AJ r.body++fl l:=rfl;rw[e,H',Ba,ih];cases r with
  | pr b=>show(Bm b).length+5+_=14*(prc l+1)+38*(vts l).length;rw[JU];omega
  | vt v=>show(Bf v).length+5+_=14*prc l+38*((vts l).length+1);rw[Gz];omega
variable{K R:Int}{M N:Meet}{b:Bal}{c i j:Nat}{p:Nod}{q:Pend}{rs:List Rk}{σ:Gs}
theorem ii(h:AM rs):(prc rs:Int)<=(Bq rs).p.key:=h.ind (P:=λrs=>(prc rs:Int)<=(Bq rs).p.key) (by decide) λrs r f a g=>by
 have c:=Rk.rI f.acc a.err;rw[du,BN];cases r with
 | pr b =>
  have d:=Cd a.1;have:(Bq rs).p.key≠b.key:=λe=>a.2 (DU d.1.1 d.2.1.pr e);have c:(Bq rs).p.key<=b.key:=c;show((prc rs+1:Nat):Int)<=b.key;omega
 | vt v=>show((prc rs+0:Nat):Int)<=_;exact mp (by omega) c
theorem WR(s:GsI σ){a:List Rk}(h:AM a)(c:∀ v,Rk.vt v∈a->σ.qP v):(vts a).Nodup:=by
 revert c
 refine h.ind (P:=λa=>(∀ v,Rk.vt v∈a->σ.qP v)->(vts a).Nodup) (λ_=>nB) λa r i m j c=>?_;have j:=j λv g=>c v (lT _ g);rw[eL];cases r with
 | pr b=>show(vts a++[]).Nodup;rw[mx];exact j
 | vt v =>
  show(vts a++[v]).Nodup;refine nZ.2 ⟨j,n7.2 ⟨P',nB⟩,λx z y A e=>?_⟩;rw[D'.1 A]at e
  subst e;obtain⟨B,u,f,l,C⟩:=QD i x (UN.1 z);have p:=An m.1;have w:=i.acc.le f;have t:=Bj p.2.1.2.1.pr i.acc.1 p.2.2;have n:=c u (lT _ (I6 i u f));have d:=c x (lV _ M');have k:u.b=x.b:=DU n.1.2.1.pr d.1.2.1.pr (by omega);have o:=n.2;rw[k,l]at o
  have q:=s.w1 _ _ _ _ o d.2;have:u=x:=(Vt.eq_iff u x).1 ⟨l,k,q⟩;rw[this]at f
  exact m.2 f
theorem eM(r:GsI σ){d:List Rk}(h:AM d)(i:∀ v,Rk.vt v∈d->σ.qP v){a:List (Bal × Nat)}(B:∀ b s c,σ.W b s c->(b,s)∈a):(vts d).length<=a.length:=by
 have t:=WR r h i;have j:∀ v∈vts d,σ.qP v:=λv g=>i v (UN.1 g);have:((vts d).map λv=>(v.b,v.bt.toNat)).Nodup:=by
  clear h i;generalize vts d=q at t j ⊢;induction q with
  | nil=>exact nB
  | cons v l ih =>
   obtain⟨z,A⟩:=n7.1 t;refine n7.2 ⟨λg=>?_,ih A λu f=>j u (I' _ f)⟩;obtain⟨u,f,e⟩:=mt.1 g;have n:=j u (I' _ f);have o:=j v M';have k:u.b=v.b:=congrArg Prod.fst e;have w:u.bt.toNat=v.bt.toNat:=congrArg Prod.snd e;have p:=n.2;rw[k,w]at p
   have y:=r.w1 _ _ _ _ p o.2;have:u=v:=(Vt.eq_iff u v).1 ⟨by have:=n.1.1;have:=o.1.1;omega,k,y⟩;rw[this]at f;exact z f
 have:=KE this (m:=a) λx C=>by
  obtain⟨v,i,rfl⟩:=mt.1 C;exact B _ _ _ (j v i).2
 rwa [mm]at this
theorem ao(h:AgI σ M){a:List (Bal × Nat)}(e:∀ b s c,σ.W b s c->(b,s)∈a){j:Nat}(f:j<5)(g:(M.ab j).up=true):((M.ab j).d.length:Int)<=14*(M.ab j).vo.p.key+38*(a.length:Int):=by
 obtain⟨m,k⟩:=(h.nd j f).up g;have i:=eM h.gs k.tp.ok k.qP e;have l:=ii k.tp.ok;rw[k.tp.d,bQ,k.tp.vo];omega
def Nod.pk(p:Nod):Int:=if p.up then p.vo.p.key else(DZ p.d).2.p.key
def KbI(K R:Int)(M:Meet):Prop:=∀ j,j<5->(M.ab j).pk<=K/\5*(M.ab j).dc<=R
theorem NdI.rz(h:NdI σ j p):σ.P j<=p.pk:=by
 unfold Nod.pk;split
 .rename_i hu
  obtain⟨c,k⟩:=h.up hu;obtain⟨x,b⟩:=k.tp.pre;have a:=k.tp.ok;rw[<- b]at a
  have:=(D1 a).1;rw[b,<- k.tp.vo]at this
  exact this
 .rename_i hu
  rw[(h.dn (by simpa using hu)).sc];exact lU _
theorem AgI.rz(h:AgI σ M){K R:Int}(c:KbI K R M){b:Bal}(d:Ab b)(e:b.key<=σ.P b.n.toNat):b.key<=K:=by
 have a:b.n.toNat<5:=by unfold Ab at d;omega
 exact mp e (mp (h.nd _ a).rz (c _ a).1)
theorem Yu(h:Ao b):5*b.r<=b.key:=by unfold Ao Ab at h;unfold Bal.key;omega
theorem KbI.set(h:KbI K R M){i:Nat}{p:Nod}(b:p.pk<=K/\5*p.dc<=R)(c:List Let)(d:List Tol):KbI K R (M.set i p c d):=λj a=>by
 show(upN M.ab i p j).pk<=K/\5*(upN M.ab i p j).dc<=R;unfold upN;split
 .exact b
 .exact h j a
theorem KbI.step{D:Wh}(P:¬ D.ld){n:Nat}{σ:Gs}{M N:Meet}(h:AgI σ M)(s:Stp D n M N){K R:Int}(Q:K<=R)(m:KbI K R M):KbI K R N:=by
 have nn:∀ {i:Nat} {p:Nod},i<5->(M.ab i).up=true->p.up=true->p.vo.p.key<=(M.ab i).vo.p.key\/p.vo.p.key<=K->p.dc=(M.ab i).dc->p.pk<=K/\5*p.dc<=R:=λ{i p} j f z S A=>by
  have o:=m i j;unfold Nod.pk at o ⊢;rw[if_pos f]at o
  rw[if_pos z,A];exact⟨S.elim (λg=>mp g o.1) id,o.2⟩
 cases s with
 | take _ l hl hd f _ =>
  have w:=h.lt l hl;obtain⟨O,k⟩:=(h.nd _ hd.2).up f;have b:=(congrArg Prod.fst (Ph (M.ab l.dst) l)).trans f;refine m.set ?_ _ _
  revert b
  unfold Nod.take;split
  .rename_i u
   rcases k.tp.av l.jv with⟨e,he⟩|⟨e,he,hvs,rs',z,v,hm,hpb,hpv,d,a,hq⟩
   .rw[if_pos e];intro b;refine nn hd.2 f b (.inl ?_) ?_<;>(unfold Nod.fa;split)<;>first|exact lU _|rfl
   .rw[if_neg (λg=>g e)];intro b;refine nn hd.2 f b (.inr ?_) (by show((M.ab l.dst).av l.jv).1.dc=_;rw[hq];rfl);show((M.ab l.dst).av l.jv).1.vo.p.key<=K;rw[v.vo,hpb];exact h.rz m (Cd he).2.1 (w.k0 u)
  .simp only;split<;>exact λb=>nn hd.2 f b (.inl (lU _)) rfl
  .rename_i u
   intro b;have o:=nn (p:=M.ab l.dst) hd.2 f f (.inl (lU _)) rfl;refine⟨o.1,?_⟩;have B:=mp (w.k2 u).2 (mp (h.nd _ hd.1).rz (m _ hd.1).1);have J:5*l.jv.r<=K:=mp (Yu (w.k2 u).1) B;show 5*max (M.ab l.dst).dc l.jv.r<=R;have:=o.2;omega
  .rename_i u
   rcases k.tp.cl l.cl with⟨e,he⟩|⟨e,he,rs',z,v,hm,hpb,d,a,hq⟩
   .rw[if_pos e];intro b;refine nn hd.2 f b (.inl ?_) ?_<;>(unfold Nod.fa;split)<;>first|exact lU _|rfl
   .rw[if_neg (λg=>g e)];intro b;refine nn hd.2 f b (.inr ?_) (by show((M.ab l.dst).cl l.cl).1.dc=_;rw[hq];rfl);show((M.ab l.dst).cl l.cl).1.vo.p.key<=K;rw[v.vo,hpb];exact h.rz m (An he).2.1.2.1 (h.gs.w3 _ _ _ (w.k3 u).2)
  .unfold Nod.count;split
   .exact λb=>nn hd.2 f b (.inl (lU _)) rfl
   .split<;>exact λb=>nn hd.2 f b (.inl (lU _)) rfl
  .split<;>exact λb=>nn hd.2 f b (.inl (lU _)) rfl
  .simp only;unfold Nod.eb;split<;>split<;>exact λb=>nn hd.2 f b (.inl (lU _)) rfl
  .exact λb=>nn hd.2 f b (.inl (lU _)) rfl
 | br _ ls hl _=>exact m
 | one _ i c j f hc he =>
  refine m.set (nn j f ((Gv { M.ab i with ov:=doS (M.ab i).ov c,done:=(M.ab i).done+1 } c).1.trans f) (.inl ?_) ?_) _ _<;>(unfold Nod.gC;split)<;>first|exact lU _|rfl
 | ask _ i j f =>
  refine m.set (nn j f ((K9 _ i).trans f) (.inl ?_) ?_) _ _<;>(unfold Nod.lp;split)<;>first|exact lU _|rfl|(split<;>first|exact lU _|rfl|(unfold Nod.eb;split<;>first|exact lU _|rfl))
 | prop _ i j f =>
  refine m.set (nn j f ((F5 _).trans f) (.inl ?_) ?_) _ _
  .obtain⟨O,k⟩:=(h.nd i j).up f;unfold Nod.cF;split
   .exact lU _
   .rename_i hc
    have G:(M.ab i).leads=true:=by cases hh:(M.ab i).leads with|true=>rfl|false=>exact absurd (.inl hh) hc
    cases hn:(M.ab i).pd (M.ab i).ae.length with
    | none=>exact lU _
    | some c =>
     simp only;rcases k.tp.cl ⟨((M.ab i).ae.length:Int),(M.ab i).bn.jv,c⟩with⟨e,he⟩|⟨e,he,rs',z,v,hm,hpb,d,a,hq⟩
     .rw[if_pos e];exact lU _
     .rw[if_neg (λg=>g e)];show((M.ab i).cl _).1.vo.p.key<=_;rw[v.vo,hpb,(my G).2];exact lU _
  .unfold Nod.cF;split
   .rfl
   .split
    .rfl
    .split
     .rfl
     .show((M.ab i).cl _).1.dc=_;unfold Nod.cl;split
      .rfl
      .split
       .rfl
       .split<;>rfl
 | qD _ i j f hlt E=>exact m.set (nn (p:={ M.ab i with sy:=((M.ab i).d.length:Int) }) j f f (.inl (lU _)) rfl) _ _
 | run _ i j f q l z hs =>
  have u:=EV (M.ab i) i q;refine m.set (nn (p:={ (M.ab i).nf i q with bu:=l }) j f (u.2.1.trans f) (.inl ?_) ?_) _ _<;>(cases q<;>first|exact lU _|rfl|(simp only[Nod.nf];split<;>first|exact lU _|rfl)|(simp only[Nod.nf,Nod.count];split<;>first|exact lU _|rfl|(split<;>first|exact lU _|rfl)))
 | teach _ i j f w=>exact m.set (nn (p:=Ew (M.ab i) i 5) j f f (.inl (lU _)) rfl) _ _
 | lead _ i j f w=>exact absurd w P
 | sub _ i d j f hd =>
  have b:((M.ab i).qx i d M.ed).1.up=true:=by
   unfold Nod.qx Nod.qH;split
   .exact f
   .split
    .exact f
    .split
     .exact f
     .show(Nod.want _ _).up=true;unfold Nod.want;split<;>exact f
  refine m.set (nn j f b (.inl ?_) ?_) _ _<;>(unfold Nod.qx Nod.qH;split)<;>first|exact lU _|rfl|(split<;>first|exact lU _|rfl|(split<;>first|exact lU _|rfl|(simp only[Nod.want];split<;>first|exact lU _|rfl)))
 | lr _ i c j f hc hC =>
  obtain⟨O,k⟩:=(h.nd i j).up f;obtain⟨x,_,⟨y,L⟩,C⟩:=k.tp.lr hc;have F:=Li (p:=M.ab i) k.tp.rC hc;have A:((M.ab i).lr c).dc=0:=by
   unfold Nod.lr;rw[if_neg]
   .rfl
   .intro e;exact e (by unfold FU;rw[if_neg (λe=>e k.tp.rC),if_neg (by omega)])
  have t:=(m i j).1;unfold Nod.pk at t;rw[if_pos f]at t
  have o:=k.tp.ok;rw[<- L]at o
  have B:=(D1 o).1;rw[L,<- k.tp.vo]at B
  have I:=(AM.left o).acc.1;have J:0<=(Bq x).p.key:=by unfold Ao Ab at I;unfold Bal.key;omega
  refine m.set ⟨?_,by rw[A];omega⟩ _ _;unfold Nod.pk;rw[if_neg (by rw[F.2.1];decide),C.sc];show(Bq x).p.key<=K;omega
 | start _ i j f _ =>
  have k:=(h.nd i j).dn f;have v:=k.start;have E:Be (M.ab i).d (M.ab i).sy:=⟨k.len,by rw[k.sy];omega,by rw[k.sy];omega⟩;have H:=Mb (p:=M.ab i) E;have A:(M.ab i).start.dc=0:=by
   unfold Nod.start;rw[if_neg (λe=>e (if_pos E))];split<;>rfl
  have t:=(m i j).1;unfold Nod.pk at t;rw[if_neg (by rw[f];decide),k.sc]at t
  have t:(Bq (σ.dr i)).p.key<=K:=t;have I:=v.ok.acc.1;have J:0<=(Bq (σ.dr i)).p.key:=by unfold Ao Ab at I;unfold Bal.key;omega
  refine m.set ⟨?_,by rw[A];omega⟩ _ _;unfold Nod.pk;rw[if_pos H.2.1,v.vo];exact t
def wh1:Wh:=⟨λ_ _=>False,False,False,False,False,False⟩
def wh0:Wh:=⟨λ_ _=>False,False,False,False,True,False⟩
theorem Stp.calm(h:Stp wh1 c M N):Stp wh0 c M N:=by
 cases h with
 | take _ l hl hd hu ht=>exact .take M l hl hd hu trivial
 | br _ ls h hd=>exact False.elim hd
 | one _ i c hi hu hc he=>exact .one M i c hi hu hc he
 | ask _ i hi hu=>exact .ask M i hi hu
 | prop _ i hi hu=>exact .prop M i hi hu
 | qD _ i hi hu h hT=>exact .qD M i hi hu h hT
 | run _ i hi hu q l hp hs=>exact .run M i hi hu q l hp hs
 | teach _ i hi hu hL=>exact .teach M i hi hu hL
 | lead _ i hi hu hL=>exact False.elim hL
 | sub _ i d hi hu hD=>exact False.elim hD
 | lr _ i k hi hu hk hC=>exact False.elim hC
 | start _ i hi hu hs=>exact False.elim hs
theorem JX{to:Nat}{e:Int}(a:q∈p.bu):q∈(p.fa to e).bu:=by
 unfold Nod.fa;split
 .exact lT _ a
 .exact a
theorem J3{l:Let}(a:q∈p.bu):q∈(p.take l).bu:=by
 unfold Nod.take;split
 .split
  .exact JX a
  .exact lT _ (by rw[F1];exact a)
 .simp only;split<;>exact a
 .exact a
 .split
  .exact JX a
  .exact lT _ (by rw[GP];exact a)
 .unfold Nod.count;split
  .exact a
  .split<;>exact a
 .split
  .exact lT _ a
  .exact a
 .simp only;unfold Nod.eb;split<;>split<;>first|exact a|exact lT _ a
 .exact a
theorem OR(a:q∈p.bu):q∈p.cF.bu:=by
 unfold Nod.cF;split
 .exact a
 .split
  .exact a
  .split
   .exact a
   .exact lT _ (by rw[GP];exact a)
theorem IV(p:Nod)(i:Nat):(p.lp i).1.bu=p.bu/\(p.lp i).1.d=p.d/\(p.lp i).1.sy=p.sy:=by
 unfold Nod.lp;split
 .exact⟨rfl,rfl,rfl⟩
 .split
  .unfold Nod.eb;split<;>exact⟨rfl,rfl,rfl⟩
  .exact⟨rfl,rfl,rfl⟩
theorem Gw(p:Nod)(c:Cmd):(p.gC c).bu=p.bu/\(p.gC c).d=p.d/\(p.gC c).sy=p.sy:=by unfold Nod.gC;split<;>exact⟨rfl,rfl,rfl⟩
theorem XD(i:Nat)(l:List Cmd)(p:Nod)(a:List Tol):(qJ i l p a).1.d=p.d/\(qJ i l p a).1.sy=p.sy:=by
 induction l generalizing p a with
 | nil=>exact⟨rfl,rfl⟩
 | cons c l ih =>
  rw[qJ];split
  .exact⟨rfl,rfl⟩
  .have h1:=ih (Nod.gC { p with ov:=doS p.ov c,done:=p.done+1 } c) (if(p.bN c).isSome=true then a++[⟨i,c.c,c.s,doC p.ov c,doA p.ov c⟩]else a);have b:=Gw { p with ov:=doS p.ov c,done:=p.done+1 } c;exact⟨h1.1.trans b.2.1,h1.2.trans b.2.2⟩
theorem RH(i:Nat)(l:List Pend)(p:Nod)(a:List Let):(qk i l p a).1.bu=p.bu:=by
 induction l generalizing p a with
 | nil=>rfl
 | cons q l ih=>rw[qk,ih];exact(EV p i q).1
theorem Hr(h:Be p.d p.sy)(i:Nat)(k:List Let)(l:List Tol):(p.piece i k l).1.bu=[]:=by
 unfold Nod.piece;simp only;have g:=XD i (p.ae.drop p.done) p l;generalize qJ i (p.ae.drop p.done) p l=a at g ⊢;have j:=IV a.1 i;generalize a.1.lp i=b at j ⊢;have c:b.1.tp:=by show Be b.1.d b.1.sy;rw[j.2.1,j.2.2,g.1,g.2];exact h
 have m:b.1.cF.tp:=by
  unfold Nod.cF;split
  .exact c
  .split
   .exact c
   .split
    .exact c
    .exact eG c _
 generalize b.1.cF=r at m ⊢;have n:(r.qj i (k++b.2)).1.bu=[]:=by
  unfold Nod.qj;rw[if_neg (λe=>e.2 (if_pos m)),RH]
 generalize r.qj i (k++b.2)=f at n ⊢;unfold Nod.bw;split<;>exact n
theorem Al(M:Meet)(i:Nat)(p:Nod)(a:List Let)(b:List Tol)(j:Nat):(M.set i p a b).ab j=if j=i then p else M.ab j:=rfl
theorem NQ(s:Stp wh0 c M N){i:Nat}{q:Pend}(hq:q∈(M.ab i).bu):q∈(N.ab i).bu\/∃ l,(M.ab i).bu=q::l/\N=M.set i { (M.ab i).nf i q with bu:=l } (M.br++(M.ab i).qq i q) M.ed:=by
 have put:∀ {j:Nat} {p:Nod} {a:List Let} {b:List Tol},(j=i->q∈p.bu)->q∈((M.set j p a b).ab i).bu:=λ{j p a b} h=>by
  rw[Al];split
  .rename_i e;exact h e.symm
  .exact hq
 cases s with
 | take _ l hl hd hu ht=>exact .inl (put λe=>J3 (by rw[e];exact hq))
 | br _ a h hd=>exact False.elim hd
 | one _ j c hi hu hc he=>exact .inl (put λe=>by rw[(Gw _ c).1,e];exact hq)
 | ask _ j hi hu=>exact .inl (put λe=>by rw[(IV _ j).1,e];exact hq)
 | prop _ j hi hu=>exact .inl (put λe=>OR (by rw[e];exact hq))
 | qD _ j hi hu h hT=>exact .inl (put λe=>by subst e;exact hq)
 | run _ j hi hu x l hp hs =>
  by_cases e:j=i
  .subst e;rw[hp]at hq
   rcases ma.1 hq with rfl|hq
   .exact .inr ⟨l,hp,rfl⟩
   .exact .inl (by rw[Al,if_pos rfl];exact hq)
  .exact .inl (put λf=>absurd f e)
 | teach _ j hi hu hL=>exact .inl (put λe=>by subst e;exact hq)
 | lead _ j hi hu hL=>exact False.elim hL
 | sub _ j d hi hu hD=>exact False.elim hD
 | lr _ j k hi hu hk hC=>exact False.elim hC
 | start _ j hi hu hs=>exact False.elim hs
theorem GN(a:(M.ab i).up=true):M.act (acN 3 (i:Int))=M.set i ((M.ab i).piece i M.br M.ed).1 ((M.ab i).piece i M.br M.ed).2.1 ((M.ab i).piece i M.br M.ed).2.2:=by
 unfold Meet.act;simp[acN,a]
theorem GO(a:i<5):LacOk (acN 3 (i:Int)):=KN ⟨.inr (.inl rfl),by omega,by omega⟩
theorem ZI(i:Nat):wh1.may (acN 3 (i:Int)):=⟨λe=>absurd e (by show(3:Int)≠1;decide),λe=>absurd e (by show(3:Int)≠2;decide),λe=>absurd e (by show(3:Int)≠8;decide),λe=>absurd e (by show ¬ ((3:Int)=4\/(3:Int)=5\/(3:Int)=6\/(3:Int)=7);decide),λe=>absurd e (by show(3:Int)≠9;decide)⟩
end
section
variable{I J:Meet->Prop}
theorem Dk(a:∀ c M N,Stp wh1 c M N->I M->I N){n:Nat}{M:Meet}(b:MOk n M){i:Nat}(d:i<5)(h:I M):I (M.act (acN 3 (i:Int))):=(Ot (D:=wh1) b (GO d) (ZI i)).inv a h
theorem Wr(a:∀ c M N,Stp wh1 c M N->I M->I N)(b:∀ c M N,Stp wh1 c M N->I M->J M->J N){n:Nat}{M:Meet}(e:MOk n M){i:Nat}(f:i<5)(p:(M.ab i).up=true)(o:Be (M.ab i).d (M.ab i).sy){q:Pend}(j:q∈(M.ab i).bu)(h:I M)
  (m:∀ N l,I N->(N.ab i).bu=q::l->J (N.set i { (N.ab i).nf i q with bu:=l } (N.br++(N.ab i).qq i q) N.ed)):J (M.act (acN 3 (i:Int))):=by
 have k:=Dk (I:=λN=>I N/\(q∈(N.ab i).bu\/J N)) (λc A B s g=>⟨a c A B s g.1,by
  rcases g.2 with g2|g2
  .rcases NQ s.calm g2 with g3|⟨l,g3,rfl⟩
   .exact .inl g3
   .exact .inr (m A l g.1 g3)
  .exact .inr (b c A B s g.1 g2)⟩) e f ⟨h,.inl j⟩
 refine k.2.resolve_left λg=>?_;rw[GN p,Al,if_pos rfl,Hr o]at g
 cases g
def TkS(M N:Meet):Prop:=∃ l,l∈M.br/\(l.src<5/\l.dst<5)/\(M.ab l.dst).up=true/\N=M.set l.dst ((M.ab l.dst).take l) M.br M.ed
theorem TkS.qQ{M N:Meet}(h:TkS M N):Stp wh0 0 M N:=by obtain⟨l,a,b,c,rfl⟩:=h;exact .take M l a b c trivial
theorem Ja(e:∀ M N,TkS M N->I M->I N)(l:List Let){M:Meet}(a:∀ m∈l,m∈M.br/\m.src<5/\m.dst<5)(h:I M):I (l.foldl (λM l=>M.qh l) M)/\(l.foldl (λM l=>M.qh l) M).br=M.br:=by
 induction l generalizing M with
 | nil=>exact⟨h,rfl⟩
 | cons x l ih =>
  obtain⟨b,c⟩:=a x M';have d:I (M.qh x):=by
   unfold Meet.qh;split
   .rename_i hu;exact e M _ ⟨x,b,c,hu,rfl⟩ h
   .exact h
  have:=ih (M:=M.qh x) (λm f=>by rw[Ea];exact a m (I' _ f)) d;exact⟨this.1,this.2.trans (Ea M x)⟩
theorem EH(f:∀ M N,TkS M N->I M->I N)(t:∀ M N,TkS M N->I M->J M->J N){n:Nat}{M:Meet}(o:MOk n M)(h:I M){l:Let}(k:l∈M.br)(q:∀ N,I N->(N.ab l.dst).up=true)
  (u:∀ N,I N->N.br=M.br->J (N.set l.dst ((N.ab l.dst).take l) N.br N.ed)):∃ N,M.act (acN 7 0)={ N with br:=[] }/\I N/\J N/\N.br=M.br:=by
 have j:∀ m∈M.br,m.src<5/\m.dst<5:=λm d=>⟨(o.br m d).src,(o.br m d).dst⟩;obtain⟨a,b,e⟩:=List.append_of_mem k;have r:M.act (acN 7 0)={ M.br.foldl (λM l=>M.qh l) M with br:=[] }:=by
  show M.qv=_;unfold Meet.qv;rw[Hh]
 refine⟨_,r,?_⟩;have c:=Ja f a (M:=M) (λm d=>by have:m∈M.br:=(by rw[e];exact lT _ d);exact⟨this,j m this⟩) h;rw[show M.br.foldl (λM l=>M.qh l) M=b.foldl (λM l=>M.qh l) ((a.foldl (λM l=>M.qh l) M).qh l)by rw[e,oD];rfl];generalize a.foldl (λM l=>M.qh l) M=A at c ⊢;have p:A.qh l=A.set l.dst ((A.ab l.dst).take l) A.br A.ed:=by unfold Meet.qh;rw[if_pos (q A c.1)];rfl
 have s:TkS A (A.qh l):=⟨l,by rw[c.2];exact k,j l k,q A c.1,p⟩;have i:=Ja (I:=λN=>I N/\J N) (λA B s g=>⟨f A B s g.1,t A B s g.1 g.2⟩) b (M:=A.qh l) (λm d=>by
  have:m∈M.br:=by rw[e];exact lV _ (I' _ d)
  exact⟨by rw[Ea,c.2];exact this,j m this⟩) ⟨f _ _ s c.1,by rw[p];exact u A c.1 c.2⟩
 exact⟨i.1.1,i.1.2,by rw[i.2,Ea,c.2]⟩
end
theorem KbI.mono{K R a b:Int}{M:Meet}(h:KbI K R M)(d:K<=a)(e:R<=b):KbI a b M:=λj c=>⟨mp (h j c).1 d,mp (h j c).2 e⟩
theorem Tb{D:Wh}(l:¬ D.ld){n:Nat}{M N:Meet}(s:Sts D n M N){σ:Gs}(h:AgI σ M){K R:Int}(a:K<=R)(f:KbI K R M):∃ (τ:Gs) (ex:List (Bal × Nat)),σ.le τ/\AgI τ N/\KbI K R N/\ex.length<=n/\∀ b s c,τ.W b s c->σ.W b s c\/(b,s)∈ex:=by
 induction s with
 | nil=>exact⟨σ,[],.refl σ,h,f,mA _,λ_ _ _ g=>.inl g⟩
 | snoc _ s hm ih =>
  obtain⟨τ,ex,i,d,j,r,k⟩:=ih h f;obtain⟨υ,e,m,o,p,q⟩:=d.step s;refine⟨υ,ex++e.toList,i.trans m,o,j.step l d s a,?_,λb s c g=>?_⟩
  .cases e with
   | none=>simp;omega
   | some x=>have:=(q x.1 x.2 rfl).1;simp;omega
  .rcases p b s c g with g|g
   .exact(k b s c g).imp id λg=>lT _ g
   .exact .inr (lV _ (by rw[g];exact D'.2 rfl))
theorem KbI.lead{σ:Gs}{M:Meet}(h:AgI σ M){R:Int}(l:KbI R R M){i:Nat}(m:i<5)(j:(M.ab i).up=true)(o:List Let)(q:List Tol):KbI (R+9) (R+9) (M.set i ((M.ab i).lead i) o q):=by
 obtain⟨t,k⟩:=(h.nd i m).up j;have f:=l i m;have c:=f.1;unfold Nod.pk at c;rw[if_pos j]at c
 have s:=Yu (b:=(M.ab i).vo.p) (by rw[k.tp.vo];exact k.tp.ok.acc.1);refine(l.mono (by omega) (by omega)).set ?_ _ _;unfold Nod.lead;simp only;generalize n:(⟨max (M.ab i).dc (M.ab i).vo.p.r+1,(i:Int)⟩:Bal)=b;rcases k.tp.av b with⟨e,he⟩|⟨e,he,hvs,rs',hp,ht,hm,hpb,hpv,d,a,hq⟩
 .rw[if_pos e];exact⟨by have:=f.1;omega,by have:=f.2;omega⟩
 .rw[if_neg (λg=>g e)];refine⟨?_,?_⟩
  .show(if((M.ab i).av b).1.up=true then((M.ab i).av b).1.vo.p.key else(DZ ((M.ab i).av b).1.d).2.p.key)<=_;rw[if_pos (by rw[hq];exact j),ht.vo,hpb,<- n];show 5*(max (M.ab i).dc (M.ab i).vo.p.r+1)+(i:Int)<=_;omega
  .show 5*((M.ab i).av b).1.dc<=_;rw[hq];show 5*(M.ab i).dc<=_;omega
def whL:Wh:=⟨λ_ _=>True,False,True,True,True,True⟩
def lds(L:List Lac):Nat:=L.countP λx=>decide (x.k=2)
theorem Wk(L:List Lac){n:Nat}{M:Meet}(w:MOk n M)(B:n+L.length<=1000000)(v:∀ x∈L,LacOk x){σ:Gs}(h:AgI σ M){R:Int}(l:KbI R R M){cov:List (Bal × Nat)}(m:∀ b s c,σ.W b s c->(b,s)∈cov) :
  ∃ (τ:Gs) (cov':List (Bal × Nat)),σ.le τ/\AgI τ (M.ew L)/\KbI (R+9*(lds L:Int)) (R+9*(lds L:Int)) (M.ew L)/\cov'.length<=cov.length+L.length/\∀ b s c,τ.W b s c->(b,s)∈cov':=by
 induction L generalizing n M σ R cov with
 | nil=>exact⟨σ,cov,.refl σ,h,l.mono (by simp[lds]) (by simp[lds]),A' _,m⟩
 | cons x L ih =>
  rw[mH]at B
  have t:=v x M';have r:lds (x::L)=lds L+if x.k=2 then 1 else 0:=by unfold lds;rw[pq];simp
  have one:∃ (τ:Gs) (cov':List (Bal × Nat)),σ.le τ/\AgI τ (M.act x)/\KbI (R+if x.k=2 then 9 else 0) (R+if x.k=2 then 9 else 0) (M.act x)/\cov'.length<=cov.length+1/\∀ b s c,τ.W b s c->(b,s)∈cov':=by
   by_cases d:x.k=2
   .rw[if_pos d];have z:x.n.toNat<5:=by have:=t.n (by rw[d];rfl);omega
    have e:M.act x=M.set x.n.toNat (if(M.ab x.n.toNat).up then(M.ab x.n.toNat).lead x.n.toNat else M.ab x.n.toNat) M.br M.ed:=by
     unfold Meet.act;simp only;rw[if_neg (by omega),if_pos d]
    by_cases o:(M.ab x.n.toNat).up=true
    .rw[if_pos o]at e
     obtain⟨τ,u,f,i,j,p⟩:=h.step (D:=whT) (.lead M _ z o trivial);refine⟨τ,cov,f,by rw[e];exact i,by rw[e];exact l.lead h z o _ _,by omega,λb s c g=>?_⟩;rcases j b s c g with g|g
     .exact m b s c g
     .exact absurd (p b s g).1 (by decide)
    .rw[if_neg o,E7]at e
     rw[e];exact⟨σ,cov,.refl σ,h,l.mono (by omega) (by omega),by omega,m⟩
   .rw[if_neg d,Int.add_zero];obtain⟨τ,u,f,i,j,p,q⟩:=Tb (D:=whL) (λe=>e) (Ot w t ⟨λ_=>trivial,λe=>d e,λ_=>trivial,λ_=>⟨trivial,trivial⟩,λ_=>trivial⟩) h (lU R) l;refine⟨τ,cov++u,f,i,j,by rw[H'];omega,λb s c g=>?_⟩;exact(q b s c g).elim (λg=>lT _ (m b s c g)) λg=>lV _ g
  obtain⟨τ,cov',f,i,j,p,q⟩:=one;obtain⟨υ,a,E,F,A,H,G⟩:=ih (w.act (by omega) t) (by omega) (λy C=>v y (I' _ C)) i j q;have e:R+(if x.k=2 then 9 else 0)+9*(lds L:Int)=R+9*(lds (x::L):Int):=by
   rw[r];split<;>omega
  rw[e]at A
  exact⟨υ,a,f.trans E,F,A,by rw[mH];omega,G⟩
theorem KbI.zero:KbI 0 0 At:=λj a=>⟨by show Cc.pk<=0;decide,by show 5*Cc.dc<=0;decide⟩
section
variable{S:Cmd->Prop}
section
def VsS(S:Cmd->Prop)(l:List Vt):Prop:=∀ v∈l,S v.w
def RsS(S:Cmd->Prop)(rs:List Rk):Prop:=∀ v,Rk.vt v∈rs->S v.w
def PnS(S:Cmd->Prop):Pend->Prop
 | .began _ vs=>VsS S vs
 | .prom _ _ vs=>VsS S vs
 | .voted _ v=>S v.w
 | .prop v=>S v.w
 | _=>True
structure NdS(S:Cmd->Prop)(p:Nod):Prop where
 up:p.up=true->∃ dr rs,TpU p dr rs/\RsS S rs
 dn:p.up=false->∃ dr,TpD p dr/\RsS S dr
 ag:∀ c∈p.ae,S c
 wa:∀ c∈p.au,S c
 qu:∀ c∈p.bn.fv,S c
 he:∀ j,j<5->VsS S (p.bn.an j).vs
 pe:∀ q∈p.bu,PnS S q
structure LtS(S:Cmd->Prop)(l:Let):Prop where
 vs:VsS S l.ni
 wh:∀ c∈l.hZ,S c
 vt:l.kind=3\/l.kind=4->S l.cl.w
variable{M:Meet}{dr:List Rk}{i:Nat}{p q:Nod}{r:Rnd}
theorem NdS.tape(h:NdS S p){q:Nod}(i:q.up=p.up)(a:q.d=p.d)(f:q.sy=p.sy)(n:q.vo=p.vo)(l:∀ c∈q.ae,S c)(t:∀ c∈q.au,S c)(r:∀ c∈q.bn.fv,S c)(m:∀ j,j<5->VsS S (q.bn.an j).vs)(o:∀ x∈q.bu,PnS S x):NdS S q :=
 ⟨λe=>by
  obtain⟨b,s,k,g⟩:=h.up (i▸e);exact⟨b,s,⟨k.ok,k.pre,a.trans k.d,f.trans k.sy,n.trans k.vo,by rw[a];exact k.len⟩,g⟩,λe=>by
  obtain⟨b,k,g⟩:=h.dn (i▸e);exact⟨b,⟨k.ok,by rw[a];exact k.sc,by rw[a];exact k.tk,by rw[f,a];exact k.sy,by rw[a];exact k.len⟩,g⟩,l,t,r,m,o⟩
theorem NdS.wait(h:NdS S p){x:Pend}(a:PnS S x):NdS S (p.wait x) :=
 h.tape rfl rfl rfl rfl h.ag h.wa h.qu h.he λy b=>(U'.1 b).elim (h.pe y) λe=>by rw[D'.1 e];exact a
theorem NdS.fa(h:NdS S p)(to:Nat)(e:Int):NdS S (p.fa to e):=by
 unfold Nod.fa;split
 .exact h.wait trivial
 .exact h
theorem NdS.wrote(h:NdS S p){f b:List Rk}(j:TpU q f b)(i:RsS S b)(k:p.up=true){d:List Int}{a:Acc}(g:q=p.tv d p.sy a)(l:∀ c∈q.ae,S c):NdS S q:=by
 subst g;exact⟨λ_=>⟨f,b,j,i⟩,λe=>(by rw[show(p.tv d p.sy a).up=p.up from rfl,k]at e;cases e),h.ag,h.wa,h.qu,h.he,h.pe⟩
theorem fK(h:∀ j,j<5->VsS S (r.an j).vs){a:Acc}(b:a∈r.ln):VsS S a.vs:=by
 unfold Rnd.ln at b;simp only[ma,P',or_false]at b;rcases b with rfl|rfl|rfl|rfl|rfl
 .exact h 0 (by omega)
 .exact h 1 (by omega)
 .exact h 2 (by omega)
 .exact h 3 (by omega)
 .exact h 4 (by omega)
theorem XX(h:∀ j,j<5->VsS S (r.an j).vs){s:Int}{v:Vt}(e:v∈Ae (r.ln.map (·.vs)).flatten s):S v.w:=by
 obtain⟨l,b,c⟩:=nH.1 (AH.1 e).1;obtain⟨a,d,rfl⟩:=mt.1 b;exact fK h d v c
theorem gb(h:∀ j,j<5->VsS S (r.an j).vs){s:Int}(a:CN r.ln s=0):S (CE r.ln s):=by
 have c:CE r.ln s=((GQ (Dq r.ln s) r.ln.length).map (·.w)).getD ⟨0,0,0,0,0⟩:=if_pos a;unfold CN at a;split at a
 .cases a
 .split at a
  .cases a
  .split at a
   .rename_i hO
    obtain⟨v,b⟩:=m5.1 hO;rw[c,b];exact XX h (pK b)
   .cases a
theorem gJ(h:∀ j,j<5->VsS S (r.an j).vs)(k:Nat){l:List Cmd}(a:∀ c∈l,S c):∀ c∈Fq k r l,S c:=by
 induction k generalizing l with
 | zero=>exact a
 | succ k ih =>
  rw[Fq];split
  .rename_i he;exact ih λc b=>(U'.1 b).elim (a c) λe=>by rw[D'.1 e];exact gb h he
  .exact a
theorem NdS.qp(h:NdS S p):NdS S p.qp:=h.tape rfl rfl rfl rfl (gJ h.he 41 h.ag) h.wa h.qu h.he h.pe
theorem cx(a:Acc)(l:List Vt)(d:VsS S a.vs)(e:VsS S l):VsS S (CX a l).vs:=by
 induction l generalizing a with
 | nil=>exact d
 | cons u l ih =>
  rw[CX];refine ih _ ?_ λv b=>e v (I' _ b);by_cases c:AT a u=0
  .rw[if_pos c];intro v b;have b:v∈Bl a u:=b;rw[(D6 c).2]at b
   rcases(Bx (An c).1.2.2).1 b with rfl|⟨b,_⟩
   .exact e v M'
   .exact d v b
  .rw[if_neg c];exact d
theorem Yj(h:∀ j,j<5->VsS S (r.an j).vs)(j:Nat)(b:j<5){a:List Vt}(d:VsS S a):∀ k,k<5->VsS S ((r.qz j a).an k).vs:=λk c=>by
 show VsS S (upN r.an j _ k).vs;unfold upN;split
 .exact cx ⟨r.jv,a⟩ _ d (h j b)
 .exact h k c
theorem NdS.count(h:NdS S p){j:Nat}(c:j<5){v:Vt}(e:S v.w):NdS S (p.count j v):=by
 unfold Nod.count;split
 .exact h
 .split
  .exact h
  .rename_i b
   have b:=lX.1 b;refine NdS.qp (h.tape rfl rfl rfl rfl h.ag h.wa h.qu (λk d=>?_) h.pe);show VsS S (upN p.bn.an j _ k).vs;unfold upN;split
   .intro u a;have a:u∈Bl (p.bn.an j) v:=a;rw[(D6 b).2]at a
    rcases(Bx (An b).1.2.2).1 a with rfl|⟨a,_⟩
    .exact e
    .exact h.he j c u a
   .exact h.he k d
theorem gm(q l:List Cmd)(b:∀ c∈q,S c)(f:∀ c∈l,S c):∀ c∈GR q l,S c:=by
 induction l generalizing q with
 | nil=>exact b
 | cons d l ih =>
  rw[GR];refine ih _ ?_ λc a=>f c (I' _ a);split
  .exact λc a=>(U'.1 a).elim (b c) λe=>by rw[D'.1 e];exact f d M'
  .exact b
theorem NdS.eb(h:NdS S p){l:List Cmd}(a:∀ c∈l,S c):NdS S (p.eb l):=by
 unfold Nod.eb;split
 .exact h.tape rfl rfl rfl rfl h.ag h.wa (gm _ _ h.qu a) h.he h.pe
 .exact h
theorem NdS.mv(h:NdS S p)(bt:Nat){l:List Cmd}(b:∀ c∈l,S c):NdS S (p.mv bt l) :=
 h.tape rfl rfl rfl rfl (λc a=>(U'.1 a).elim (h.ag c) λg=>b c (nI g)) h.wa h.qu h.he h.pe
theorem TpU.tj{a:List Rk}(h:TpU p dr a)(b:RsS S a):VsS S p.vo.vs:=λv c=>b v (I6 h.ok v (by rw[<- h.vo];exact c))
theorem NdS.take(h:NdS S p)(f:p.up=true){l:Let}(b:LtS S l)(j:l.src<5):NdS S (p.take l):=by
 obtain⟨m,n,k,c⟩:=h.up f;unfold Nod.take;split
 .rcases k.av l.jv with⟨e,he⟩|⟨e,he,hvs,rs',hp,ht,hm,hpb,hpv,d,a,hq⟩
  .rw[if_pos e];exact h.fa _ _
  .rw[if_neg (λg=>g e)];exact(h.wrote ht (λv i=>c v ((hm v).1 i)) f hq (by rw[hq];exact h.ag)).wait (by show VsS S _;rw[hvs];exact k.tj c)
 .have hL:=h.mv 0 b.wh;generalize p.mv 0 l.hZ=K at hL ⊢;simp only;split
  .exact hL
  .exact NdS.qp (hL.tape rfl rfl rfl rfl hL.ag hL.wa hL.qu (Yj hL.he _ j b.vs) hL.pe)
 .exact h.tape rfl rfl rfl rfl h.ag h.wa h.qu h.he h.pe
 .rename_i hk
  rcases k.cl l.cl with⟨e,he⟩|⟨e,he,rs',hp,ht,hm,hpb,d,a,hq⟩
  .rw[if_pos e];exact h.fa _ _
  .rw[if_neg (λg=>g e)];exact(h.wrote ht (λv i=>((hm v).1 i).elim (λe=>by rw[e];exact b.vt (.inl hk)) (c v)) f hq (by rw[hq];exact h.ag)).wait (b.vt (.inl hk))
 .rename_i hk;exact h.count j (b.vt (.inr hk))
 .split
  .exact h.wait trivial
  .exact h.mv _ b.wh
 .simp only;split
  .exact(h.eb b.wh).wait trivial
  .exact h.eb b.wh
 .exact h
theorem KF(h:NdS S p){s:Nat}{c:Cmd}(b:p.pd s=some c):S c:=by
 unfold Nod.pd at b;split at b
 .cases b
 .rename_i a
  have a:=lX.1 a;split at b
  .rename_i hF
   have f:Gg (p.bn.ln.map (·.vs)) (s:Int)=((DP (p.bn.ln.map (·.vs)) (s:Int)).map (·.w)).getD ⟨0,0,0,0,0⟩:=if_pos a;have d:DI (p.bn.ln.map (·.vs)) (s:Int)=(DP (p.bn.ln.map (·.vs)) (s:Int)).isSome:=if_pos a;rw[hF]at d
   obtain⟨x,i⟩:=m5.1 d.symm;rw[i]at f
   rw[<- mI b,f];refine XX h.he (s:=(s:Int)) ?_;have:∀ (l:List Vt) (o:Option Vt) (x:Vt),BM l o=some x->x∈l\/o=some x:=by
    intro l;induction l with
    | nil=>intro o x e;exact .inr e
    | cons v l ih =>
     intro o x e;cases o with
     | none =>
      rw[BM]at e
      rcases ih _ _ e with g|g
      .exact .inl (I' _ g)
      .left;cases g;exact M'
     | some u =>
      rw[BM]at e
      split at e
      .rcases ih _ _ e with g|g
       .exact .inl (I' _ g)
       .left;cases g;exact M'
      .rcases ih _ _ e with g|g
       .exact .inl (I' _ g)
       .exact .inr g
   exact(this _ _ _ i).resolve_right λe=>by cases e
  .exact h.qu c (pK b)
theorem NdS.cF(h:NdS S p)(f:p.up=true):NdS S p.cF:=by
 obtain⟨l,m,k,i⟩:=h.up f;unfold Nod.cF;split
 .exact h
 .cases hn:p.pd p.ae.length with
  | none=>exact h
  | some c =>
   have b:=KF h hn;simp only;rcases k.cl ⟨(p.ae.length:Int),p.bn.jv,c⟩with⟨e,he⟩|⟨e,he,rs',hp,ht,hm,hpb,d,a,hq⟩
   .rw[if_pos e];exact h
   .rw[if_neg (λg=>g e)];have g:=h.wrote ht (λv j=>((hm v).1 j).elim (λe=>by rw[e];exact b) (i v)) f hq (by rw[hq];exact h.ag);exact NdS.wait (p:={ (p.cl ⟨(p.ae.length:Int),p.bn.jv,c⟩).1 with bn:={ p.bn with next:=p.ae.length+1 } }) (g.tape rfl rfl rfl rfl g.ag g.wa h.qu h.he g.pe) b
theorem NdS.run(n:i<5){p:Nod}(h:NdS S p){q:Pend}{l:List Pend}(o:p.bu=q::l):NdS S { p.nf i q with bu:=l }/\∀ m∈p.qq i q,LtS S m:=by
 have f:=h.pe q (by rw[o];exact M');have j:∀ {p':Nod},NdS S p'->p'.bu=p.bu->NdS S { p' with bu:=l }:=λ{p'} g e=>g.tape rfl rfl rfl rfl g.ag g.wa g.qu g.he λx r=>g.pe x (by rw[e,o];exact I' _ r);have none:∀ c∈([]:List Cmd),S c:=λc k=>by cases k
 have a:VsS S []:=λc k=>by cases k
 cases q with
 | began b vs =>
  unfold Nod.nf Nod.qq;simp only;split
  .exact⟨j h rfl,λm d=>(by cases d)⟩
  .refine⟨j (p':={ p with bn:=p.bn.qz i vs }) (h.tape rfl rfl rfl rfl h.ag h.wa h.qu (Yj h.he i n f) h.pe) rfl,λm d=>?_⟩;obtain⟨to,_,rfl⟩:=Cv d;exact⟨a,none,λe=>e.elim (λg=>by cases g) λg=>(by cases g)⟩
 | prom to b vs=>exact⟨j h rfl,λm d=>by rw[D'.1 d];exact⟨f,h.ag,λe=>e.elim (λg=>by cases g) λg=>(by cases g)⟩⟩
 | voted to v=>exact⟨j h rfl,λm d=>by rw[D'.1 d];exact⟨a,none,λ_=>f⟩⟩
 | fa to b=>exact⟨j h rfl,λm d=>by rw[D'.1 d];exact⟨a,none,λe=>e.elim (λg=>by cases g) λg=>(by cases g)⟩⟩
 | prop v =>
  refine⟨j (h.count n f) (EV p i (.prop v)).1,λm d=>?_⟩;obtain⟨to,_,rfl⟩:=Cv d;exact⟨a,none,λ_=>f⟩
 | askNews to=>exact⟨j h rfl,λm d=>by rw[D'.1 d];exact⟨a,none,λe=>e.elim (λg=>by cases g) λg=>(by cases g)⟩⟩
 | start =>
  refine⟨j h rfl,λm d=>?_⟩;obtain⟨to,_,rfl⟩:=Cv d;exact⟨a,none,λe=>e.elim (λg=>by cases g) λg=>(by cases g)⟩
 | tell to bt=>exact⟨j h rfl,λm d=>by rw[D'.1 d];exact⟨a,λc k=>h.ag c (nI k),λe=>e.elim (λg=>by cases g) λg=>(by cases g)⟩⟩
theorem NdS.lead(h:NdS S p)(m:p.up=true):NdS S (p.lead i):=by
 obtain⟨o,q,k,l⟩:=h.up m;unfold Nod.lead;simp only;generalize (⟨max p.dc p.vo.p.r+1,(i:Int)⟩:Bal)=b;rcases k.av b with⟨e,he⟩|⟨e,he,hvs,rs',hp,ht,hm,hpb,hpv,d,a,hq⟩
 .rw[if_pos e];exact h
 .rw[if_neg (λg=>g e)];have g:=h.wrote ht (λv f=>l v ((hm v).1 f)) m hq (by rw[hq];exact h.ag);exact NdS.wait (p:={ (p.av b).1 with bn:=⟨b,λ_=>false,λ_=>DA,λ_=>p.ae.length,0,[]⟩ }) (x:=.began b (p.av b).2.1) (g.tape rfl rfl rfl rfl g.ag g.wa (λc n=>by cases n) (λj _ v f=>by cases f) g.pe) (by show VsS S _;rw[hvs];exact k.tj l)
theorem fT(b:Bal)(f:Cmd->Option Bal)(l:List Cmd)(h:∀ c∈l,S c):∀ c∈(AV b f l).1,S c:=by
 induction l generalizing f with
 | nil=>intro c a;cases a
 | cons d l g =>
  have g:=λf=>g f λc a=>h c (I' _ a);rw[AV];split
  .exact λc a=>(ma.1 a).elim (λe=>by rw[e];exact h d M') (g _ c)
  .exact g f
structure MtS(S:Cmd->Prop)(M:Meet):Prop where
 nd:∀ i,i<5->NdS S (M.ab i)
 lt:∀ l∈M.br,LtS S l
theorem MtS.set(h:MtS S M){i:Nat}{p:Nod}(e:NdS S p){a:List Let}(c:∀ l∈a,l∈M.br\/LtS S l)(f:List Tol):MtS S (M.set i p a f) :=
 ⟨λj b=>by
  show NdS S (upN M.ab i p j);unfold upN;split
  .exact e
  .exact h.nd j b,λl d=>(c l d).elim (h.lt l) id⟩
theorem MtS.step{D:Wh}(x:∀ i d,D.d i d->∀ now:Nat,opE d (now:Int)=0->S (Hq d (now:Int))){n:Nat}{M N:Meet}(s:Stp D n M N)(h:MtS S M):MtS S N:=by
 have same:∀ l∈M.br,l∈M.br\/LtS S l:=λl o=>.inl o;have app:∀ {ms:List Let},(∀ m∈ms,LtS S m)->∀ l∈M.br++ms,l∈M.br\/LtS S l:=λg l o=>(U'.1 o).imp id (g l);cases s with
 | take _ l o hd hu _=>exact h.set ((h.nd _ hd.2).take hu (h.lt l o) hd.1) same _
 | br _ ls o _=>exact⟨h.nd,λl g=>h.lt l (o l g)⟩
 | one _ i c hi hu a he =>
  refine h.set ?_ same _;have k:=h.nd i hi;unfold Nod.gC;split
  .exact k.tape rfl rfl rfl rfl k.ag (λc a=>k.wa c (List.mem_of_mem_erase a)) k.qu k.he k.pe
  .exact k.tape rfl rfl rfl rfl k.ag k.wa k.qu k.he k.pe
 | ask _ i hi hu =>
  have k:=h.nd i hi;have E:=fT (M.ab i).vo.p (M.ab i).bN ((M.ab i).au.take 40) λc a=>k.wa c (mh a);have B:NdS S { M.ab i with bN:=(AV (M.ab i).vo.p (M.ab i).bN ((M.ab i).au.take 40)).2 }:=k.tape rfl rfl rfl rfl k.ag k.wa k.qu k.he k.pe;refine h.set ?_ (app ?_) _
  .unfold Nod.lp;split
   .exact B
   .split
    .exact B.eb E
    .exact B
  .intro m hm;unfold Nod.lp at hm;split at hm
   .cases hm
   .split at hm
    .cases hm
    .rw[D'.1 hm];exact⟨λv f=>(by cases f),E,λe=>e.elim (λg=>by cases g) λg=>(by cases g)⟩
 | prop _ i hi hu=>exact h.set ((h.nd i hi).cF hu) same _
 | qD _ i hi hu hlt y =>
  have k:=h.nd i hi;obtain⟨u,C,g,r⟩:=k.up hu;exact h.set (p:={ M.ab i with sy:=((M.ab i).d.length:Int) }) ⟨λ_=>⟨C,C,g.qD,r⟩,λe=>(by rw[show _=(M.ab i).up from rfl,hu]at e;cases e),k.ag,k.wa,k.qu,k.he,k.pe⟩ same _
 | run _ i hi hu q l hp hs =>
  have g:=(h.nd i hi).run hi hp;exact h.set g.1 (app g.2) _
 | teach _ i hi hu hL =>
  have k:=h.nd i hi;refine h.set (p:=Ew (M.ab i) i 5) (k.tape rfl rfl rfl rfl k.ag k.wa k.qu k.he k.pe) (app ?_) _;have:∀ n,∀ m∈CS (M.ab i) i n,LtS S m:=by
   intro n;induction n with
   | zero=>intro m hm;cases hm
   | succ n ih =>
    intro m hm;rw[CS]at hm
    rcases U'.1 hm with hm|hm
    .exact ih m hm
    .split at hm
     .rw[D'.1 hm];exact⟨λv f=>(by cases f),λc a=>k.ag c (nI a),λe=>e.elim (λg=>by cases g) λg=>(by cases g)⟩
     .cases hm
  exact this 5
 | lead _ i hi hu _=>exact h.set ((h.nd i hi).lead hu) same _
 | sub _ i d hi hu hd =>
  have k:=h.nd i hi;refine h.set ?_ same _;unfold Nod.qx Nod.qH;split
  .exact k
  .split
   .exact k.tape rfl rfl rfl rfl k.ag k.wa k.qu k.he k.pe
   .rename_i he
    split
    .exact k
    .show NdS S (Nod.want _ _);unfold Nod.want;split
     .exact k
     .exact k.tape rfl rfl rfl rfl k.ag (λc a=>(U'.1 a).elim (k.wa c) λe=>by rw[D'.1 e];exact x i d hd _ (lX.1 he)) k.qu k.he k.pe
 | lr _ i c hi hu a _ =>
  have k:=h.nd i hi;obtain⟨u,C,g,r⟩:=k.up hu;obtain⟨w,_,G,x⟩:=g.lr a;have z:FU (M.ab i).d (M.ab i).sy c=0:=by unfold FU;rw[if_neg (λe=>e g.rC),if_neg (by omega)]
  have A:=Li (p:=M.ab i) g.rC a;refine h.set ⟨λe=>(by rw[A.2.1]at e;cases e),λ_=>⟨w,x,λv f=>r v (G.subset f)⟩,?_,?_,?_,?_,?_⟩ same _<;>(unfold Nod.lr;rw[if_neg (λe=>e z)])
  .exact λc a=>by cases a
  .exact λc a=>by cases a
  .exact λc a=>by cases a
  .exact λj _ v f=>by cases f
  .exact λc a=>by cases a
 | start _ i hi hu _ =>
  obtain⟨u,g,r⟩:=(h.nd i hi).dn hu;have y:Be (M.ab i).d (M.ab i).sy:=⟨g.len,by rw[g.sy];omega,by rw[g.sy];omega⟩;have t:=Mb (p:=M.ab i) y;have b:(M.ab i).start.bn=dH/\(M.ab i).start.bu=[.start]/\(M.ab i).start.au=[]:=by
   unfold Nod.start;rw[if_neg (λe=>e (if_pos y))];split<;>exact⟨rfl,rfl,rfl⟩
  refine h.set ⟨λ_=>⟨u,u,g.start,r⟩,λe=>(by rw[t.2.1]at e;cases e),?_,?_,?_,?_,?_⟩ same _
  .rw[t.2.2.2];exact λc a=>by cases a
  .rw[b.2.2];exact λc a=>by cases a
  .rw[b.1];exact λc a=>by cases a
  .rw[b.1];exact λj _ v f=>by cases f
  .rw[b.2.1];exact λq F=>by rw[D'.1 F];trivial
theorem MtS.zero:MtS S At:=⟨λi _=>⟨λ_=>⟨[],[],TpU.zero,λv b=>(by cases b)⟩,λe=>(by cases e),λc a=>(by cases a),λc a=>(by cases a),λc a=>(by cases a),λj _ v b=>(by cases b),λc a=>(by cases a)⟩,λl d=>(by cases d)⟩
theorem fN(L:List Lac)(f:∀ x∈L,LacOk x)(n:L.length<=100000)(j:∀ x∈L,x.k=1->∀ now:Nat,opE x.d (now:Int)=0->S (Hq x.d (now:Int))):MtS S (At.ew L):=by
 have s:Sts ⟨λ_ d=>∃ x∈L,x.k=1/\x.d=d,True,True,True,True,True⟩ L.length At (At.ew L):=FO L MOk.zero (by omega) λx a=>⟨f x a,λe=>⟨x,a,e,rfl⟩,λ_=>trivial,λ_=>trivial,λ_=>⟨trivial,trivial⟩,λ_=>trivial⟩;exact s.inv (λ_ M N h g=>g.step (λi d l now m=>by obtain⟨x,b,c,rfl⟩:=l;exact j x b c now m) h) MtS.zero
end
end
structure Ev(p q:Nod):Prop where
 up:q.up=p.up
 jv:q.bn.jv=p.bn.jv
 vo:p.vo.p.key<=q.vo.p.key
 dc:p.dc<=q.dc
 ag:p.ae <+: q.ae
 ql:∀ j,p.bn.ql j=true->q.bn.ql j=true
 next:p.bn.next<=q.bn.next
 qu:p.bn.fv <+: q.bn.fv
 wa:∀ c∈q.au,c∈p.au
 dn:p.done<=q.done
theorem Ev.refl(p:Nod):Ev p p:=⟨rfl,rfl,lU _,lU _,lR _,λ_ h=>h,A' _,lR _,λ_ h=>h,A' _⟩
theorem Ev.trans{p q r:Nod}(h:Ev p q)(k:Ev q r):Ev p r:=⟨k.up.trans h.up,k.jv.trans h.jv,mp h.vo k.vo,mp h.dc k.dc,h.ag.trans k.ag,λj g=>k.ql j (h.ql j g),lS h.next k.next,h.qu.trans k.qu,λc g=>h.wa c (k.wa c g),lS h.dn k.dn⟩
theorem It(k:Nat)(r:Rnd)(l:List Cmd):l <+: Fq k r l:=by
 induction k generalizing l with
 | zero=>exact lR _
 | succ k ih =>
  rw[Fq];split
  .exact(mZ _ _).trans (ih _)
  .exact lR _
theorem PJ(l q:List Cmd):q <+: GR q l:=by
 induction l generalizing q with
 | nil=>exact lR _
 | cons c l ih =>
  rw[GR];split
  .exact(mZ _ _).trans (ih _)
  .exact ih _
theorem Ev.av(p:Nod)(b:Bal):Ev p (p.av b).1:=by
 unfold Nod.av;split
 .exact .refl p
 .rename_i h
  have a:=Cd (lX.1 h);have c:p.vo.p.key<=b.key:=Bj a.2.1.pr a.1.1 a.2.2;split
  .exact⟨rfl,rfl,c,lU _,lR _,λ_ h=>h,A' _,lR _,λ_ h=>h,A' _⟩
  .split
   .exact .refl p
   .exact⟨rfl,rfl,c,lU _,lR _,λ_ h=>h,A' _,lR _,λ_ h=>h,A' _⟩
theorem Ev.cl(p:Nod)(v:Vt):Ev p (p.cl v).1:=by
 unfold Nod.cl;split
 .exact .refl p
 .rename_i h
  have a:=An (lX.1 h);have c:p.vo.p.key<=v.b.key:=Bj a.2.1.2.1.pr a.1.1 a.2.2;split
  .exact⟨rfl,rfl,c,lU _,lR _,λ_ h=>h,A' _,lR _,λ_ h=>h,A' _⟩
  .split
   .exact .refl p
   .exact⟨rfl,rfl,c,lU _,lR _,λ_ h=>h,A' _,lR _,λ_ h=>h,A' _⟩
theorem Ev.bu{p q:Nod}(h:Ev p q)(x:List Pend):Ev p { q with bu:=x }:=⟨h.up,h.jv,h.vo,h.dc,h.ag,h.ql,h.next,h.qu,h.wa,h.dn⟩
theorem Ev.tf(p:Nod){l:List Cmd}(h:p.ae <+: l):Ev p { p with ae:=l }:=⟨rfl,rfl,lU _,lU _,h,λ_ h=>h,A' _,lR _,λ_ h=>h,A' _⟩
theorem Ev.fa(p:Nod)(to:Nat)(e:Int):Ev p (p.fa to e):=by
 unfold Nod.fa;split
 .exact(Ev.refl p).bu _
 .exact .refl p
theorem Ev.count(p:Nod)(j:Nat)(v:Vt):Ev p (p.count j v):=by
 unfold Nod.count;split
 .exact .refl p
 .split
  .exact .refl p
  .exact⟨rfl,rfl,lU _,lU _,It _ _ _,λ_ h=>h,A' _,lR _,λ_ h=>h,A' _⟩
theorem Ev.sS(p:Nod)(l:List Cmd):Ev p (p.eb l):=by
 unfold Nod.eb;split
 .exact⟨rfl,rfl,lU _,lU _,lR _,λ_ h=>h,A' _,PJ _ _,λ_ h=>h,A' _⟩
 .exact .refl p
theorem UA{f:Nat->Bool}{i j:Nat}(h:f j=true):upN f i true j=true:=by unfold upN;split<;>first|rfl|exact h
theorem Ev.take(p:Nod)(l:Let):Ev p (p.take l):=by
 unfold Nod.take;split
 .split
  .exact .fa p _ _
  .exact(Ev.av p l.jv).bu _
 .simp only;have a:Ev p (p.mv 0 l.hZ):=.tf p (mZ _ _);split
  .exact a
  .exact⟨rfl,rfl,lU _,lU _,a.ag.trans (It _ _ _),λ_ h=>UA h,A' _,lR _,λ_ h=>h,A' _⟩
 .exact⟨rfl,rfl,lU _,Int.le_max_left _ _,lR _,λ_ h=>h,A' _,lR _,λ_ h=>h,A' _⟩
 .split
  .exact .fa p _ _
  .exact(Ev.cl p l.cl).bu _
 .exact .count p _ _
 .split
  .exact(Ev.refl p).bu _
  .exact .tf p (mZ _ _)
 .simp only;split
  .exact(Ev.sS p l.hZ).bu _
  .exact .sS p l.hZ
 .exact .refl p
theorem Ev.cF(p:Nod):Ev p p.cF:=by
 unfold Nod.cF;split
 .exact .refl p
 .rename_i hc
  have a:p.bn.next<=p.ae.length:=by omega
  split
  .exact .refl p
  .split
   .exact .refl p
   .have h1:=Ev.cl p ⟨(p.ae.length:Int),p.bn.jv,‹Cmd›⟩;exact⟨h1.up,rfl,h1.vo,h1.dc,h1.ag,λ_ h=>h,lS a (mP _),lR _,h1.wa,h1.dn⟩
theorem Ev.gC(p:Nod)(c:Cmd):Ev p (p.gC c):=by
 unfold Nod.gC;split
 .exact⟨rfl,rfl,lU _,lU _,lR _,λ_ h=>h,A' _,lR _,λ_ h=>List.mem_of_mem_erase h,A' _⟩
 .exact .refl p
theorem Ev.lp(p:Nod)(i:Nat):Ev p (p.lp i).1:=by
 have a:Ev p { p with bN:=(AV p.vo.p p.bN (p.au.take 40)).2 }:=⟨rfl,rfl,lU _,lU _,lR _,λ_ h=>h,A' _,lR _,λ_ h=>h,A' _⟩;unfold Nod.lp;split
 .exact a
 .split
  .exact a.trans (.sS _ _)
  .exact a
theorem Ev.nf(p:Nod)(i:Nat)(q:Pend):Ev p (p.nf i q):=by
 cases q with
 | began b vs =>
  simp only[Nod.nf];split
  .exact .refl p
  .exact⟨rfl,rfl,lU _,lU _,lR _,λ_ h=>UA h,A' _,lR _,λ_ h=>h,A' _⟩
 | prop v=>exact .count p i v
 | _=>exact .refl p
theorem Stp.ev{c:Nat}{M N:Meet}(s:Stp wh0 c M N)(j:Nat):Ev (M.ab j) (N.ab j):=by
 have put:∀ {i:Nat} {p:Nod} {a:List Let} {b:List Tol},Ev (M.ab i) p->Ev (M.ab j) ((M.set i p a b).ab j):=λ{i p a b} h=>by
  rw[Al];split
  .rename_i e;rw[e];exact h
  .exact .refl _
 cases s with
 | take _ l hl hd hu ht=>exact put (.take _ l)
 | br _ a h hd=>exact False.elim hd
 | one _ i c hi hu hc he =>
  refine put (Ev.trans (q:={ M.ab i with ov:=doS (M.ab i).ov c,done:=(M.ab i).done+1 }) ?_ (.gC _ c));exact⟨rfl,rfl,lU _,lU _,lR _,λ_ h=>h,A' _,lR _,λ_ h=>h,mP _⟩
 | ask _ i hi hu=>exact put (.lp _ i)
 | prop _ i hi hu=>exact put (.cF _)
 | qD _ i hi hu h hT=>exact put ⟨rfl,rfl,lU _,lU _,lR _,λ_ h=>h,A' _,lR _,λ_ h=>h,A' _⟩
 | run _ i hi hu q l hp hs=>exact put ((Ev.nf _ i q).bu l)
 | teach _ i hi hu hL=>exact put ⟨rfl,rfl,lU _,lU _,lR _,λ_ h=>h,A' _,lR _,λ_ h=>h,A' _⟩
 | lead _ i hi hu hL=>exact False.elim hL
 | sub _ i d hi hu hD=>exact False.elim hD
 | lr _ i k hi hu hk hC=>exact False.elim hC
 | start _ i hi hu hs=>exact False.elim hs
theorem Stp.qK{c:Nat}{M N:Meet}(s:Stp wh0 c M N){l:Let}(a:l∈M.br):l∈N.br:=by
 cases s with
 | br _ ls h hd=>exact False.elim hd
 | ask _ i hi hu=>exact lT _ a
 | run _ i hi hu q l hp hs=>exact lT _ a
 | teach _ i hi hu hL=>exact lT _ a
 | _=>exact a
section
variable{I J:Meet->Prop}
theorem EX(M:Meet){i j:Nat}(h:j≠i):(M.act (acN 3 (i:Int))).ab j=M.ab j:=by
 unfold Meet.act;simp only[acN];rw[if_neg (by decide),if_neg (by decide),if_pos trivial,Al,if_neg (by rw[mC];exact h)]
theorem Cf(d:∀ c M N,Stp wh1 c M N->I M->I N){n:Nat}{M:Meet}(e:MOk n M)(i:n+5<=1000000)(h:I M):MOk (n+5) (M.ew (Bz 3 5))/\I (M.ew (Bz 3 5)):=by
 have f:∀ k,k<=5->MOk (n+k) (M.ew (Bz 3 k))/\I (M.ew (Bz 3 k)):=by
  intro k;induction k with
  | zero=>exact λ_=>⟨e,h⟩
  | succ k ih =>
   intro g;obtain⟨a,b⟩:=ih (by omega);rw[Dv,B2];exact⟨a.act (by omega) (GO (by omega)),Dk d a (by omega) b⟩
 exact f 5 (A' _)
theorem CI(d:∀ M N,TkS M N->I M->I N){n:Nat}{M:Meet}(b:MOk n M)(h:I M):∃ N,M.act (acN 7 0)={ N with br:=[] }/\I N/\N.br=M.br:=by
 have c:M.act (acN 7 0)={ M.br.foldl (λM l=>M.qh l) M with br:=[] }:=by
  show M.qv=_;unfold Meet.qv;rw[Hh]
 have:=Ja d M.br (M:=M) (λm a=>⟨a,(b.br m a).src,(b.br m a).dst⟩) h;exact⟨_,c,this⟩
end
theorem Stp.sQ{c:Nat}{M N:Meet}(s:Stp wh1 c M N)(j:Nat):(N.ab j).vo.p=(M.ab j).vo.p:=by
 have put:∀ {i:Nat} {p:Nod} {b:List Let} {f:List Tol},p.vo.p=(M.ab i).vo.p->((M.set i p b f).ab j).vo.p=(M.ab j).vo.p:=λ{i p b f} h=>by
  rw[Al];split
  .rename_i e;rw[e];exact h
  .rfl
 cases s with
 | take _ l a hd hu ht=>exact False.elim ht
 | br _ b h hd=>exact False.elim hd
 | one _ i c hi hu hc he=>exact put (by unfold Nod.gC;split<;>rfl)
 | ask _ i hi hu=>exact put (by
   unfold Nod.lp;split
   .rfl
   .split
    .unfold Nod.eb;split<;>rfl
    .rfl)
 | prop _ i hi hu=>exact put (by
   unfold Nod.cF;split
   .rfl
   .rename_i hc
    have a:(M.ab i).bn.jv=(M.ab i).vo.p:=by
     have:(M.ab i).leads=true:=by cases hh:(M.ab i).leads with|true=>rfl|false=>exact absurd (.inl hh) hc
     exact(my this).2
    split
    .rfl
    .split
     .rfl
     .show((M.ab i).cl _).1.vo.p=_;unfold Nod.cl;split
      .rfl
      .split
       .exact a
       .split
        .rfl
        .exact a)
 | qD _ i hi hu h hT=>exact put rfl
 | run _ i hi hu q l hp hs=>exact put (by
   show((M.ab i).nf i q).vo.p=_;cases q<;>first|rfl|(simp only[Nod.nf];split<;>rfl)|(simp only[Nod.nf,Nod.count];split<;>first|rfl|(split<;>rfl)))
 | teach _ i hi hu hL=>exact put rfl
 | lead _ i hi hu hL=>exact False.elim hL
 | sub _ i d hi hu hD=>exact False.elim hD
 | lr _ i k hi hu hk hC=>exact False.elim hC
 | start _ i hi hu hs=>exact False.elim hs
theorem QH{i:Nat}(l:Let){j k:Nat}(a:j<k)(h:j≠i):{ l with src:=i,dst:=j }∈BA i l k:=mt.2 ⟨j,nW.2 ⟨oE.2 a,O' h⟩,rfl⟩
section
variable{S:Cmd->Prop}{K:Int}{B:Nat->Bal}{cov:List (Bal × Nat)}
def Gr8(K:Int)(p:Nod):Prop:=K<=5*p.dc+4\/K<=p.vo.p.key
end
section
def P1(i:Nat)(p:Nod):Prop:=p.bn.next=0/\∀ j,j≠i->p.bn.ql j=false
variable{D:Wh}{M N:Meet}{b:Bal}{i j k:Nat}{p q:Nod}
theorem P1.tx(h:P1 i p):p.bn.qt=false:=by
 unfold Rnd.qt FJ;have k:=h.2;have g:∀ j,(p.bn.ql j).toNat<=if j=i then 1 else 0:=λj=>by
  split
  .cases p.bn.ql j<;>decide
  .rename_i e;rw[k j e];decide
 have a:=g 0;have b:=g 1;have c:=g 2;have d:=g 3;have f:=g 4;refine E' ?_;split at a<;>split at b<;>split at c<;>split at d<;>split at f<;>omega
theorem Stp.p1{c:Nat}(s:Stp wh1 c M N){i:Nat}(h:P1 i (M.ab i)):P1 i (N.ab i):=by
 have put:∀ {k:Nat} {p:Nod} {a:List Let} {m:List Tol},(i=k->P1 i p)->P1 i ((M.set k p a m).ab i):=λ{k p a m} g=>by
  rw[Al];split
  .rename_i e;exact g e
  .exact h
 cases s with
 | take _ l hl hd hu ht=>exact False.elim ht
 | br _ a h hd=>exact False.elim hd
 | one _ k c hi hu hc he=>exact put λe=>by subst e;unfold Nod.gC;split<;>exact h
 | ask _ k hi hu =>
  exact put λe=>by
   subst e;unfold Nod.lp;split
   .exact h
   .split
    .unfold Nod.eb;split<;>exact h
    .exact h
 | prop _ k hi hu =>
  exact put λe=>by
   subst e;unfold Nod.cF;rw[if_pos (.inr (.inl h.tx))];exact h
 | qD _ k hi hu hs hT=>exact put λe=>by subst e;exact h
 | run _ k hi hu q l hp hs =>
  exact put λe=>by
   subst e;show P1 i ((M.ab i).nf i q);cases q with
   | began b vs =>
    simp only[Nod.nf];split
    .exact h
    .exact⟨h.1,λj f=>by show upN (M.ab i).bn.ql i true j=false;rw[Dm _ _ f];exact h.2 j f⟩
   | prop v =>
    simp only[Nod.nf,Nod.count];split
    .exact h
    .split<;>exact h
   | _=>exact h
 | teach _ k hi hu hL=>exact put λe=>by subst e;exact h
 | lead _ k hi hu hL=>exact False.elim hL
 | sub _ k d hi hu hD=>exact False.elim hD
 | lr _ k x hi hu hk hC=>exact False.elim hC
 | start _ k hi hu hs=>exact False.elim hs
theorem ef(h:P1 i p){l:Let}(c:l.kind=1->l.src≠i->l.jv≠p.bn.jv):P1 i (p.take l):=by
 have f:∀ v,P1 i (p.cl v).1:=λv=>by
  unfold Nod.cl;split
  .exact h
  .split
   .exact h
   .split<;>exact h
 unfold Nod.take;split
 .split
  .unfold Nod.fa;split<;>exact h
  .show P1 i (p.av l.jv).1;unfold Nod.av;split
   .exact h
   .split
    .exact h
    .split<;>exact h
 .rename_i hk
  simp only;split
  .exact h
  .rename_i hc
   have b:l.jv=p.bn.jv:=mK λe=>hc (.inr (.inl e));have d:l.src=i:=mK λe=>c hk e b;exact⟨h.1,λj a=>by show upN p.bn.ql l.src true j=false;rw[Dm _ _ (by rw[d];exact a)];exact h.2 j a⟩
 .exact h
 .split
  .unfold Nod.fa;split<;>exact h
  .exact f _
 .unfold Nod.count;split
  .exact h
  .split<;>exact h
 .split<;>exact h
 .simp only;unfold Nod.eb;split<;>split<;>exact h
 .exact h
theorem eq(f:Cmd->Option Bal)(c:Cmd)(b:Option Bal):BO f c b c=b:=if_pos rfl
theorem UF(f:Cmd->Option Bal){c d:Cmd}(b:Option Bal)(h:d≠c):BO f c b d=f d:=if_neg h
theorem KR(p:b≠AY)(l:List Cmd)(f:Cmd->Option Bal):(∀ c,c∉l->(AV b f l).2 c=f c)/\(∀ c∈l,(AV b f l).2 c=some b)/\(∀ c∈l,f c=some b\/c∈(AV b f l).1)/\∀ c∈(AV b f l).1,c∈l:=by
 induction l generalizing f with
 | nil=>exact⟨λ_ _=>rfl,λ_ h=>(by cases h),λ_ h=>(by cases h),λ_ h=>(by cases h)⟩
 | cons c l ih =>
  rw[AV];split
  .rename_i hc
   obtain⟨j,k,m,n⟩:=ih (BO f c (some b));refine⟨λd a=>?_,λd a=>?_,λd a=>?_,λd a=>?_⟩
   .show(AV b (BO f c (some b)) l).2 d=f d;rw[j d λe=>a (I' _ e),UF _ _ λe=>a (by rw[e];exact M')]
   .show(AV b (BO f c (some b)) l).2 d=some b;by_cases i:d∈l
    .exact k d i
    .rcases ma.1 a with rfl|e
     .rw[j d i,eq]
     .exact absurd e i
   .rcases ma.1 a with rfl|e
    .exact .inr M'
    .by_cases e2:d=c
     .rw[e2];exact .inr M'
     .rcases m d e with g|g
      .rw[UF _ _ e2]at g;exact .inl g
      .exact .inr (I' _ g)
   .rcases ma.1 a with rfl|e
    .exact M'
    .exact I' _ (n d e)
  .rename_i hc
   have o:f c=some b:=by
    have:=lX.1 hc;cases hh:f c with
    | none=>rw[hh]at this;exact absurd this.symm p
    | some x=>rw[hh]at this;exact congrArg some this
   obtain⟨j,k,m,n⟩:=ih f;refine⟨λd a=>j d λe=>a (I' _ e),λd a=>?_,λd a=>?_,λd a=>I' _ (n d a)⟩
   .by_cases i:d∈l
    .exact k d i
    .rcases ma.1 a with rfl|e
     .rw[j d i];exact o
     .exact absurd e i
   .rcases ma.1 a with rfl|e
    .exact .inl o
    .exact m d e
theorem Hj(l q:List Cmd)(h:q.Nodup):(GR q l).Nodup:=by
 induction l generalizing q with
 | nil=>exact h
 | cons c l ih =>
  rw[GR];refine ih _ ?_;split
  .rename_i hc
   exact nZ.2 ⟨h,n7.2 ⟨P',nB⟩,λx a y b e=>hc.2 (by rw[<- D'.1 b,<- e];exact a)⟩
  .exact h
theorem PI{C:List Cmd}(j:C.length<40)(l q:List Cmd)(g:q.Nodup)(a:∀ c∈q,c∈C)(b:∀ c∈l,c∈C):∀ c∈l,c∈GR q l:=by
 induction l generalizing q with
 | nil=>exact λc hc=>by cases hc
 | cons d l ih =>
  have f:=KE g a;have i:=b d M';intro c hc;rw[GR];have h:d∈(if q.length<40/\d∉q then q++[d]else q):=by
   by_cases e:d∈q
   .split
    .exact lT _ e
    .exact e
   .rw[if_pos ⟨by omega,e⟩];exact lV _ (D'.2 rfl)
  rcases ma.1 hc with rfl|hc
  .exact(PJ l _).subset h
  .refine ih _ ?_ (λx hx=>?_) (λx hx=>b x (I' _ hx)) c hc
   .exact Hj [d] q g
   .split at hx
    .rcases U'.1 hx with hx|hx
     .exact a x hx
     .rw[D'.1 hx];exact i
    .exact a x hx
structure AskI(p:Nod):Prop where
 nd:p.au.Nodup
 wa:∀ c,c∈p.au↔(p.bN c).isSome=true
 le:∀ c x,p.bN c=some x->x.key<=p.vo.p.key
 un:∀ c∈p.au,c∉p.ae.take p.done
 qn:p.bn.fv.Nodup
 dn:p.done<=p.ae.length
theorem QV{α:Type}{l m:List α}(h:l <+: m)(a:k<=l.length):m.take k=l.take k:=by obtain⟨x,rfl⟩:=h;exact mn a
theorem AskI.nn(h:AskI p)(e:Ev p q)(i:q.au=p.au/\q.bN=p.bN/\q.done=p.done)(f:q.bn.fv.Nodup):AskI q:=by
 obtain⟨a,b,d⟩:=i;refine⟨by rw[a];exact h.nd,by rw[a,b];exact h.wa,λc x g=>mp (h.le c x (by rw[<- b];exact g)) e.vo,?_,f,by rw[d];exact lS h.dn e.ag.length_le⟩;rw[a,d,QV e.ag h.dn];exact h.un
theorem AF(p:Nod)(b:Bal):((p.av b).1.au=p.au/\(p.av b).1.bN=p.bN/\(p.av b).1.done=p.done)/\(p.av b).1.bn=p.bn:=by
 unfold Nod.av;split
 .exact⟨⟨rfl,rfl,rfl⟩,rfl⟩
 .split
  .exact⟨⟨rfl,rfl,rfl⟩,rfl⟩
  .split<;>exact⟨⟨rfl,rfl,rfl⟩,rfl⟩
theorem BP(p:Nod)(v:Vt):((p.cl v).1.au=p.au/\(p.cl v).1.bN=p.bN/\(p.cl v).1.done=p.done)/\(p.cl v).1.bn=p.bn:=by
 unfold Nod.cl;split
 .exact⟨⟨rfl,rfl,rfl⟩,rfl⟩
 .split
  .exact⟨⟨rfl,rfl,rfl⟩,rfl⟩
  .split<;>exact⟨⟨rfl,rfl,rfl⟩,rfl⟩
theorem IH(p:Nod)(l:Let)(a:p.bn.fv.Nodup):((p.take l).au=p.au/\(p.take l).bN=p.bN/\(p.take l).done=p.done)/\(p.take l).bn.fv.Nodup:=by
 unfold Nod.take;split
 .split
  .unfold Nod.fa;split<;>exact⟨⟨rfl,rfl,rfl⟩,a⟩
  .have:=AF p l.jv;exact⟨this.1,by show(p.av l.jv).1.bn.fv.Nodup;rw[this.2];exact a⟩
 .simp only;split<;>exact⟨⟨rfl,rfl,rfl⟩,a⟩
 .exact⟨⟨rfl,rfl,rfl⟩,a⟩
 .split
  .unfold Nod.fa;split<;>exact⟨⟨rfl,rfl,rfl⟩,a⟩
  .have:=BP p l.cl;exact⟨this.1,by show(p.cl l.cl).1.bn.fv.Nodup;rw[this.2];exact a⟩
 .unfold Nod.count;split
  .exact⟨⟨rfl,rfl,rfl⟩,a⟩
  .split<;>exact⟨⟨rfl,rfl,rfl⟩,a⟩
 .split<;>exact⟨⟨rfl,rfl,rfl⟩,a⟩
 .simp only;unfold Nod.eb;split<;>split<;>first|exact⟨⟨rfl,rfl,rfl⟩,a⟩|exact⟨⟨rfl,rfl,rfl⟩,Hj _ _ a⟩
 .exact⟨⟨rfl,rfl,rfl⟩,a⟩
theorem AskI.lp(h:AskI p)(i:Nat)(q:0<=p.vo.p.key):AskI (p.lp i).1:=by
 have key:∀ (l:List Cmd) (f:Cmd->Option Bal),(∀ c,c∈l->(f c).isSome=true)->(∀ c,((AV p.vo.p f l).2 c).isSome=(f c).isSome)/\∀ c x,(AV p.vo.p f l).2 c=some x->f c=some x\/x=p.vo.p:=by
  intro l;induction l with
  | nil=>exact λf _=>⟨λ_=>rfl,λ_ _ g=>.inl g⟩
  | cons c l ih =>
   intro f j;rw[AV];split
   .have hu:∀ d,(BO f c (some p.vo.p) d).isSome=(f d).isSome:=λd=>by
     unfold BO;split
     .rename_i e;rw[e,j c M'];rfl
     .rfl
    obtain⟨a,k⟩:=ih (BO f c (some p.vo.p)) λd b=>by rw[hu];exact j d (I' _ b)
    refine⟨λd=>(a d).trans (hu d),λd x g=>?_⟩;rcases k d x g with g|g
    .unfold BO at g;split at g
     .exact .inr (mI g).symm
     .exact .inl g
    .exact .inr g
   .exact ih f λd b=>j d (I' _ b)
 obtain⟨n,o⟩:=key (p.au.take 40) p.bN λc m=>(h.wa c).1 (mh m);have a:AskI { p with bN:=(AV p.vo.p p.bN (p.au.take 40)).2 }:=⟨h.nd,λc=>by show _↔((AV p.vo.p p.bN (p.au.take 40)).2 c).isSome=true;rw[n];exact h.wa c,λc x g=>by
  rcases o c x g with g|g
  .exact h.le c x g
  .rw[g];exact lU _,h.un,h.qn,h.dn⟩
 unfold Nod.lp;split
 .exact a
 .split
  .refine a.nn (.sS _ _) ?_ ?_
   .unfold Nod.eb;split<;>exact⟨rfl,rfl,rfl⟩
   .unfold Nod.eb;split
    .exact Hj _ _ h.qn
    .exact h.qn
  .exact a
theorem AskI.one(h:AskI p){c:Cmd}(b:p.ae[p.done]?=some c)(s:Sto):AskI (Nod.gC { p with ov:=s,done:=p.done+1 } c):=by
 have f:=(V'.1 b).1;have i:p.ae.take (p.done+1)=p.ae.take p.done++[c]:=by rw[nA,b];rfl
 unfold Nod.gC;split
 .refine⟨h.nd.erase c,λd=>?_,λd x g=>?_,λd a=>?_,h.qn,f⟩
  .show d∈p.au.erase c↔(BO p.bN c none d).isSome=true;rw[h.nd.mem_erase_iff];unfold BO;split
   .rename_i e;simp[e]
   .rename_i e;rw[h.wa d];simp[e]
  .have g:BO p.bN c none d=some x:=g;unfold BO at g;split at g
   .cases g
   .exact h.le d x g
  .have a:d∈p.au.erase c:=a;rw[h.nd.mem_erase_iff]at a
   show d∉p.ae.take (p.done+1);rw[i];intro e;rcases U'.1 e with e|e
   .exact h.un d a.2 e
   .exact a.1 (D'.1 e)
 .rename_i hn
  refine⟨h.nd,h.wa,h.le,λd a=>?_,h.qn,f⟩;show d∉p.ae.take (p.done+1);rw[i];intro e;rcases U'.1 e with e|e
  .exact h.un d a e
  .rw[D'.1 e]at a
   exact hn ((h.wa c).1 a)
theorem AskI.want(h:AskI p){c:Cmd}(b:c∉p.ae.take p.done)(a:0<=p.vo.p.key):AskI (p.want c):=by
 unfold Nod.want;split
 .exact h
 .rename_i hn
  have f:c∉p.au:=λe=>hn ((h.wa c).1 e);refine⟨nZ.2 ⟨h.nd,n7.2 ⟨P',nB⟩,λx i y j e=>f (by rw[<- D'.1 j,<- e];exact i)⟩,λd=>?_,λd x g=>?_,λd hd=>?_,h.qn,h.dn⟩
  .show d∈p.au++[c]↔(BO p.bN c (some AY) d).isSome=true;unfold BO;split
   .rename_i e;simp[e]
   .rename_i e;rw[<- h.wa d];simp[e]
  .have g:BO p.bN c (some AY) d=some x:=g;unfold BO at g;split at g
   .rw[<- mI g];exact a
   .exact h.le d x g
  .rcases U'.1 hd with hd|hd
   .exact h.un d hd
   .rw[D'.1 hd];exact b
theorem AskI.bare(p:Nod)(u:Bool)(d:List Int)(s:Int)(a:Acc)(x:List Pend):AskI (p.bare u d s a x):=⟨nB,λc=>⟨λe=>(by cases e),λe=>(by cases e)⟩,λc x e=>(by cases e),λc e=>(by cases e),nB,A' _⟩
theorem AskI.step{c:Nat}(s:Stp D c M N){σ:Gs}(g:AgI σ M)(h:∀ j,j<5->AskI (M.ab j)):∀ j,j<5->AskI (N.ab j):=by
 intro j i;have put:∀ {k:Nat} {p:Nod} {f:List Let} {o:List Tol},(k<5->AskI p)->AskI ((M.set k p f o).ab j):=λ{k p f o} e=>by
  rw[Al];split
  .rename_i e2;exact e (by omega)
  .exact h j i
 have pos:∀ {k:Nat},k<5->(M.ab k).up=true->0<=(M.ab k).vo.p.key:=λ{k} m a=>by
  obtain⟨t,q⟩:=(g.nd k m).up a;have n:=q.tp.ok.acc.1;rw[<- q.tp.vo]at n
  unfold Ao Ab at n;unfold Bal.key;omega
 cases s with
 | take _ l hl hd a ht =>
  have:=IH (M.ab l.dst) l (h _ hd.2).qn;exact put λ_=>(h _ hd.2).nn (.take _ l) this.1 this.2
 | br _ f hl hd=>exact h j i
 | one _ k c hi a hc he=>exact put λ_=>(h k hi).one hc _
 | ask _ k hi a=>exact put λ_=>(h k hi).lp k (pos hi a)
 | prop _ k hi a =>
  refine put λ_=>(h k hi).nn (.cF _) ?_ ?_
  .unfold Nod.cF;split
   .exact⟨rfl,rfl,rfl⟩
   .split
    .exact⟨rfl,rfl,rfl⟩
    .split
     .exact⟨rfl,rfl,rfl⟩
     .exact(BP (M.ab k) _).1
  .unfold Nod.cF;split
   .exact(h k hi).qn
   .split
    .exact(h k hi).qn
    .split<;>exact(h k hi).qn
 | qD _ k hi a hs hT=>exact put λ_=>⟨(h k hi).nd,(h k hi).wa,(h k hi).le,(h k hi).un,(h k hi).qn,(h k hi).dn⟩
 | run _ k hi a q l hp hs =>
  refine put λ_=>(h k hi).nn ((Ev.nf _ k q).bu l) ?_ ?_
  .show((M.ab k).nf k q).au=_/\((M.ab k).nf k q).bN=_/\((M.ab k).nf k q).done=_;cases q<;>first|exact⟨rfl,rfl,rfl⟩|(simp only[Nod.nf];split<;>exact⟨rfl,rfl,rfl⟩)|(simp only[Nod.nf,Nod.count];split<;>first|exact⟨rfl,rfl,rfl⟩|(split<;>exact⟨rfl,rfl,rfl⟩))
  .show((M.ab k).nf k q).bn.fv.Nodup;have:=(h k hi).qn;cases q<;>first|exact this|(simp only[Nod.nf];split<;>exact this)|(simp only[Nod.nf,Nod.count];split<;>first|exact this|(split<;>exact this))
 | teach _ k hi a hL=>exact put λ_=>⟨(h k hi).nd,(h k hi).wa,(h k hi).le,(h k hi).un,(h k hi).qn,(h k hi).dn⟩
 | lead _ k hi a hL =>
  refine put λ_=>?_;unfold Nod.lead;simp only;split
  .exact h k hi
  .generalize (⟨max (M.ab k).dc (M.ab k).vo.p.r+1,(k:Int)⟩:Bal)=b;have e:=AF (M.ab k) b;have q:=(h k hi).nn (.av _ b) e.1 (by rw[e.2];exact(h k hi).qn);exact⟨q.nd,q.wa,q.le,q.un,nB,q.dn⟩
 | sub _ k d hi a hD =>
  refine put λ_=>?_;unfold Nod.qx Nod.qH;split
  .exact h k hi
  .split
   .exact⟨(h k hi).nd,(h k hi).wa,(h k hi).le,(h k hi).un,(h k hi).qn,(h k hi).dn⟩
   .split
    .exact h k hi
    .rename_i hc;exact(h k hi).want hc (pos hi a)
 | lr _ k x hi a m hC =>
  refine put λ_=>?_;unfold Nod.lr;split
  .exact h k hi
  .exact .bare _ _ _ _ _ _
 | start _ k hi a hs =>
  refine put λ_=>?_;unfold Nod.start;split
  .exact h k hi
  .split<;>exact .bare _ _ _ _ _ _
theorem AskI.zero:∀ j,j<5->AskI (At.ab j):=λj _=>AskI.bare Cc true [] 0 DA []
theorem Stp.bN{n:Nat}(s:Stp wh0 n M N){j:Nat}{c:Cmd}{x:Bal}(h:(N.ab j).bN c=some x):(M.ab j).bN c=some x\/(j<5/\N=M.set j ((M.ab j).lp j).1 (M.br++((M.ab j).lp j).2) M.ed):=by
 have put:∀ {k:Nat} {p:Nod} {a:List Let} {b:List Tol},((M.set k p a b).ab j).bN c=some x->(p.bN c=some x->(M.ab k).bN c=some x)->(M.ab j).bN c=some x:=λ{k p a b} g e=>by
  rw[Al]at g
  split at g
  .rename_i e2;rw[e2];exact e g
  .exact g
 cases s with
 | take _ l hl hd hu ht =>
  refine .inl (put h λg=>?_);rw[show((M.ab l.dst).take l).bN=(M.ab l.dst).bN from ?_]at g
  .exact g
  .unfold Nod.take;split
   .split
    .unfold Nod.fa;split<;>rfl
    .exact(AF _ _).1.2.1
   .simp only;split<;>rfl
   .rfl
   .split
    .unfold Nod.fa;split<;>rfl
    .exact(BP _ _).1.2.1
   .unfold Nod.count;split
    .rfl
    .split<;>rfl
   .split<;>rfl
   .simp only;unfold Nod.eb;split<;>split<;>rfl
   .rfl
 | br _ a hl hd=>exact False.elim hd
 | one _ k d hi hu hc he =>
  refine .inl (put h λg=>?_);unfold Nod.gC at g;split at g
  .have g:BO (M.ab k).bN d none c=some x:=g;unfold BO at g;split at g
   .cases g
   .exact g
  .exact g
 | ask _ k hi hu =>
  by_cases e:j=k
  .subst e;exact .inr ⟨hi,rfl⟩
  .rw[Al,if_neg e]at h;exact .inl h
 | prop _ k hi hu =>
  refine .inl (put h λg=>?_);unfold Nod.cF at g;split at g
  .exact g
  .split at g
   .exact g
   .split at g
    .exact g
    .have g:((M.ab k).cl _).1.bN c=some x:=g;rw[(BP _ _).1.2.1]at g;exact g
 | qD _ k hi hu hs hT=>exact .inl (put h λg=>g)
 | run _ k hi hu q l hp hs =>
  refine .inl (put h λg=>?_);have g:((M.ab k).nf k q).bN c=some x:=g;rw[show((M.ab k).nf k q).bN=(M.ab k).bN from ?_]at g
  .exact g
  .cases q<;>first|rfl|(simp only[Nod.nf];split<;>rfl)|(simp only[Nod.nf,Nod.count];split<;>first|rfl|(split<;>rfl))
 | teach _ k hi hu hL=>exact .inl (put h λg=>g)
 | lead _ k hi hu hL=>exact False.elim hL
 | sub _ k d hi hu hD=>exact False.elim hD
 | lr _ k y hi hu hk hC=>exact False.elim hC
 | start _ k hi hu hs=>exact False.elim hs
theorem TI(i:Nat)(l:List Cmd)(p:Nod)(a:List Tol):(qJ i l p a).1.bn=p.bn/\(qJ i l p a).1.ae=p.ae:=by
 induction l generalizing p a with
 | nil=>exact⟨rfl,rfl⟩
 | cons c l ih =>
  rw[qJ];split
  .exact⟨rfl,rfl⟩
  .have h1:=ih (Nod.gC { p with ov:=doS p.ov c,done:=p.done+1 } c) (if(p.bN c).isSome=true then a++[⟨i,c.c,c.s,doC p.ov c,doA p.ov c⟩]else a);have b:(Nod.gC { p with ov:=doS p.ov c,done:=p.done+1 } c).bn=p.bn/\(Nod.gC { p with ov:=doS p.ov c,done:=p.done+1 } c).ae=p.ae:=by unfold Nod.gC;split<;>exact⟨rfl,rfl⟩
   exact⟨h1.1.trans b.1,h1.2.trans b.2⟩
theorem Hv(c:i<5){M:Meet}(t:(M.ab i).up=true):∃ M0,Sts D 0 M M0/\(M0.ab i).up=true/\(M0.ab i).bn=(M.ab i).bn/\(M0.ab i).ae=(M.ab i).ae /\
  ∃ M1,M1=M0.set i ((M0.ab i).lp i).1 (M0.br++((M0.ab i).lp i).2) M0.ed/\(M1.ab i).up=true/\Sts D 0 M0 M1/\Sts D 0 (M1.set i (M1.ab i).cF M1.br M1.ed) (M.act (acN 3 (i:Int))):=by
 rw[GN t];have w:Sts D 0 M (M.set i (M.ab i) M.br M.ed):=by rw[E7];exact .nil 0 M
 obtain⟨p,h⟩:=Sts.qJ c _ (M.ab i) w t rfl;have q:=TI i ((M.ab i).ae.drop (M.ab i).done) (M.ab i) M.ed;unfold Nod.piece;simp only;generalize Go.Proofs.YteimjcbgceckdaaGreatDoor.qJ i ((M.ab i).ae.drop (M.ab i).done) (M.ab i) M.ed=a at p h q ⊢;refine⟨_,p,by rw[Bn];exact h,by rw[Bn];exact q.1,by rw[Bn];exact q.2,?_⟩;have e:=Bn M i a.1 M.br a.2;have s:=Stp.ask (D:=D) (M.set i a.1 M.br a.2) i c (by rw[e];exact h);have l:=(K9 a.1 i).trans h;rw[e,Ca]at s
 refine⟨M.set i (a.1.lp i).1 (M.br++(a.1.lp i).2) a.2,by rw[e,Ca];rfl,by rw[Bn];exact l,s.s,?_⟩;show Sts D 0 ((M.set i (a.1.lp i).1 (M.br++(a.1.lp i).2) a.2).set i ((M.set i (a.1.lp i).1 (M.br++(a.1.lp i).2) a.2).ab i).cF (M.br++(a.1.lp i).2) a.2) _;clear e s p;generalize (a.1.lp i)=b at l ⊢;rw[Bn,Ca];have g:=(F5 b.1).trans l;show Sts D 0 (M.set i b.1.cF (M.br++b.2) a.2) _;generalize b.1.cF=r at g ⊢;generalize M.br++b.2=k at ⊢;have j:Sts D 0 (M.set i r k a.2) (M.set i (r.qj i k).1 (r.qj i k).2 a.2)/\(r.qj i k).1.up=true:=by
  unfold Nod.qj;split
  .exact⟨.nil 0 _,g⟩
  .rename_i hn
   have e:=Bn M i r k a.2;unfold Nod.qD;split
   .rename_i h1
    have m:Dl r.d r.sy=0:=lX.1 λe=>hn ⟨h1,e⟩;have o:Be r.d r.sy:=by
     unfold Dl at m;split at m
     .assumption
     .cases m
    have s:=Stp.qD (D:=D) (M.set i r k a.2) i c (by rw[e];exact g) (by rw[e];exact h1) (by rw[e];exact o);rw[e,Ca]at s
    have u:K3 r.d r.sy=r.d:=if_pos o;have v:Mf r.d r.sy=(r.d.length:Int):=if_pos o;rw[u,v];have:=Sts.qk (D:=D) (n:=0) (M:=M.set i r k a.2) (ls:=k) (ts:=a.2) c r.bu { r with sy:=(r.d.length:Int),bu:=[] } (by rw[Ca];exact(Sts.nil 0 _).s0 s) g rfl (Int.lt_irrefl _);rw[Ca]at this
    exact this
   .rename_i h1
    have:=Sts.qk (D:=D) (n:=0) (M:=M.set i r k a.2) (ls:=k) (ts:=a.2) c r.bu { r with bu:=[] } (by rw[Ca];exact .nil 0 _) g rfl h1;rw[Ca]at this
    exact this
 generalize r.qj i k=f at j ⊢;unfold Nod.bw;split
 .rename_i hL
  have e:=Bn M i f.1 f.2 a.2;have s:=Stp.teach (D:=D) (M.set i f.1 f.2 a.2) i c (by rw[e];exact j.2) (by rw[e];exact hL);rw[e,Ca]at s
  exact j.1.s0 s
 .exact j.1
def NB(p:Nod):Prop:=∀ b vs,Pend.began b vs∉p.bu
theorem NB.snoc(h:NB p){x:Pend}(e:q.bu=p.bu++[x])(a:∀ b vs,Pend.began b vs≠x):NB q:=λb vs g=>by
 rw[e]at g
 rcases U'.1 g with g|g
 .exact h b vs g
 .exact a b vs (D'.1 g)
theorem NB.same(h:NB p)(e:q.bu=p.bu):NB q:=λb a g=>h b a (by rw[<- e];exact g)
theorem Zg(p:Nod)(b:Bal):(p.av b).1.bu=p.bu:=by
 unfold Nod.av;split
 .rfl
 .split
  .rfl
  .split<;>rfl
theorem Rh(p:Nod)(v:Vt):(p.cl v).1.bu=p.bu:=by
 unfold Nod.cl;split
 .rfl
 .split
  .rfl
  .split<;>rfl
theorem ij(p:Nod)(b:Bal):(p.av b).1.ae=p.ae:=by
 unfold Nod.av;split
 .rfl
 .split
  .rfl
  .split<;>rfl
theorem iP(p:Nod)(v:Vt):(p.cl v).1.ae=p.ae:=by
 unfold Nod.cl;split
 .rfl
 .split
  .rfl
  .split<;>rfl
theorem NB.fa(h:NB p)(to:Nat)(e:Int):NB (p.fa to e):=by
 unfold Nod.fa;split
 .exact h.snoc rfl (λ_ _ g=>by cases g)
 .exact h
theorem RB(p:Nod)(j:Nat)(v:Vt):(p.count j v).bu=p.bu:=by
 unfold Nod.count;split
 .rfl
 .split<;>rfl
theorem Np(p:Nod)(l:List Cmd):(p.eb l).bu=p.bu:=by unfold Nod.eb;split<;>rfl
theorem NB.take(h:NB p)(l:Let):NB (p.take l):=by
 unfold Nod.take;split
 .split
  .exact h.fa _ _
  .exact h.snoc (by show(p.av l.jv).1.bu++_=_;rw[Zg]) (λ_ _ g=>by cases g)
 .simp only;split<;>exact h
 .exact h
 .split
  .exact h.fa _ _
  .exact h.snoc (by show(p.cl l.cl).1.bu++_=_;rw[Rh]) (λ_ _ g=>by cases g)
 .exact h.same (RB _ _ _)
 .split
  .exact h.snoc rfl (λ_ _ g=>by cases g)
  .exact h
 .simp only;split
  .exact h.snoc (by show((p.eb l.hZ).bu)++_=_;rw[Np]) (λ_ _ g=>by cases g)
  .exact h.same (Np _ _)
 .exact h
theorem Stp.nb{c:Nat}(s:Stp wh0 c M N){j:Nat}(h:NB (M.ab j)):NB (N.ab j):=by
 have put:∀ {i:Nat} {p:Nod} {a:List Let} {f:List Tol},(j=i->NB p)->NB ((M.set i p a f).ab j):=λ{i p a f} g=>by
  rw[Al];split
  .rename_i e;exact g e
  .exact h
 cases s with
 | take _ l hl hd hu ht=>exact put λe=>by rw[<- e];exact h.take l
 | br _ a hl hd=>exact False.elim hd
 | one _ i c hi hu hc he=>exact put λe=>(e▸h:NB (M.ab i)).same (Gw _ _).1
 | ask _ i hi hu=>exact put λe=>(e▸h:NB (M.ab i)).same (IV _ _).1
 | prop _ i hi hu =>
  refine put λe=>?_;have h:NB (M.ab i):=e▸h;unfold Nod.cF;split
  .exact h
  .split
   .exact h
   .split
    .exact h
    .exact h.snoc (by show((M.ab i).cl _).1.bu++_=_;rw[Rh]) (λ_ _ g=>by cases g)
 | qD _ i hi hu hs hT=>exact put λe=>(e▸h:NB (M.ab i)).same rfl
 | run _ i hi hu q l hp hs=>exact put λe b m g=>(e▸h:NB (M.ab i)) b m (by rw[hp];exact I' _ g)
 | teach _ i hi hu hL=>exact put λe=>(e▸h:NB (M.ab i)).same rfl
 | lead _ i hi hu hL=>exact False.elim hL
 | sub _ i d hi hu hD=>exact False.elim hD
 | lr _ i k hi hu hk hC=>exact False.elim hC
 | start _ i hi hu hs=>exact False.elim hs
theorem Nm{u:Vt}{v:Vt}(hv:v∈((p.count k u).bn.an j).vs):v∈(p.bn.an j).vs\/v.b=p.bn.jv:=by
 unfold Nod.count at hv;split at hv
 .exact .inl hv
 .rename_i hb
  split at hv
  .exact .inl hv
  .rename_i a
   have a:=lX.1 a;have hv:v∈(upN p.bn.an k ⟨BC (p.bn.an k) u,Bl (p.bn.an k) u⟩ j).vs:=hv;unfold upN at hv;split at hv
   .rename_i e
    have hv:v∈Bl (p.bn.an k) u:=hv;unfold Bl at hv;rw[if_pos a,Bx (An a).1.2.2]at hv
    rcases hv with hv|hv
    .exact .inr (by rw[hv];exact lX.1 hb)
    .exact .inl (by rw[e];exact hv.1)
   .exact .inl hv
theorem Xe(l:List Cmd){f:Cmd->Option Bal}(h:∀ c∈l,f c=some b):(AV b f l).1=[]:=by
 induction l with
 | nil=>rfl
 | cons c l ih =>
  rw[AV,if_neg (by rw[h c M'];exact λg=>g rfl)];exact ih λd a=>h d (I' _ a)
end
section
variable{C:List Cmd}{K:Int}{B:Nat->Bal}{cov:List (Bal × Nat)}{i:Nat}{b:Bal}
theorem D3{i:Nat}{l m:Let}{k:Nat}(h:m∈BA i l k):m.kind=l.kind/\m.hZ=l.hZ:=by
 unfold BA at h;obtain⟨j,_,rfl⟩:=mt.1 h;exact⟨rfl,rfl⟩
end
section
variable{C:List Cmd}{K:Int}{B:Nat->Bal}{cov:List (Bal × Nat)}{i:Nat}{b:Bal}{A:List Cmd}
structure Fin_(i:Nat)(A:List Cmd)(M:Meet):Prop where
 ag:(M.ab i).ae=A
 nx:(M.ab i).bn.next<=A.length
 hd:A.length<40->∀ j,j<5->∀ v∈((M.ab i).bn.an j).vs,v.bt≠(A.length:Int)
 qu:A.length<40->∀ c∈(M.ab i).bn.fv,c∈A
theorem AgL.le{σ:Gs}{l:List Cmd}{k a:Nat}(h:AgL σ l k)(d:∀ c,¬ σ.rZ a c)(f:k<=a):k+l.length<=a:=pm λe=>by
 have b:a-k<l.length:=by omega
 exact d _ (by rw[show a=k+(a-k)by omega];exact h (a-k) _ (G' b))
theorem Fin_.pd{M:Meet}(f:Fin_ i A M):(M.ab i).pd (M.ab i).ae.length=Option.none:=by
 unfold Nod.pd;rw[f.ag];split
 .rfl
 .rename_i b
  have b:=lX.1 b;have k:A.length<40:=by
   unfold BR at b;split at b
   .cases b
   .omega
  have m:Ae ((M.ab i).bn.ln.map (·.vs)).flatten (A.length:Int)=[]:=oc.2 λv h=>by
   obtain⟨n,o⟩:=AH.1 h;obtain⟨l,s,h⟩:=nH.1 n;obtain⟨a,d,rfl⟩:=mt.1 s;unfold Rnd.ln at d;have:∃ j,j<5/\a=(M.ab i).bn.an j:=by
    simp only[ma,P',or_false]at d;rcases d with e|e|e|e|e
    .exact⟨0,by omega,e⟩
    .exact⟨1,by omega,e⟩
    .exact⟨2,by omega,e⟩
    .exact⟨3,by omega,e⟩
    .exact⟨4,by omega,e⟩
   obtain⟨j,r,rfl⟩:=this;exact f.hd k j r v h o
  have p:DI ((M.ab i).bn.ln.map (·.vs)) (A.length:Int)=false:=by
   unfold DI;rw[if_pos b];unfold DP;rw[m];rfl
  rw[if_neg (by rw[p];decide)];exact nk.2 λc q g=>absurd (f.qu k c q) (my g)
theorem NG{l a:List Cmd}{k:Nat}(h:k+a.length<=l.length):l++a.drop (l.length-k)=l:=by rw[mU (by omega),mx]
theorem Y9{r:Rnd}{l:List Cmd}(k:Nat)(h:CN r.ln (l.length:Int)≠0):Fq k r l=l:=by
 cases k with
 | zero=>rfl
 | succ k=>rw[Fq,if_neg h]
def T4(p q:Nod):Prop:=q.ae=p.ae/\q.bn.next=p.bn.next/\q.bn.fv=p.bn.fv
end
section
variable{j:Nat}{p:Nod}{v:Vt}
theorem YP{l:List Vt}(h:v∈l):1<=BE (Ae l v.bt) v:=pC.2 ⟨v,AH.2 ⟨h,rfl⟩,O' rfl⟩
theorem PB(c:v.b=p.bn.jv)(a:Ag (p.bn.an j))(e:Ah v)(f:(p.bn.an j).p=p.bn.jv):v∈((p.count j v).bn.an j).vs:=by
 have d:AT (p.bn.an j) v=0:=by
  unfold AT;rw[if_neg (λg=>g a),if_neg (λg=>g e),if_neg];rw[f,c];unfold Bal.lt;omega
 unfold Nod.count;rw[if_neg (λg=>g c),if_neg (λg=>g d)];show v∈(upN p.bn.an j ⟨BC (p.bn.an j) v,Bl (p.bn.an j) v⟩ j).vs;rw[CT];show v∈Bl (p.bn.an j) v;rw[(D6 d).2,Bx a.2.2];exact .inl rfl
theorem RA{k:Nat}{u:Vt}(a:v∈(p.bn.an k).vs)(g:u.b=p.bn.jv->u.bt=v.bt->u=v):v∈((p.count j u).bn.an k).vs:=by
 unfold Nod.count;split
 .exact a
 .rename_i hb
  split
  .exact a
  .rename_i c
   have c:=lX.1 c;show v∈(upN p.bn.an j ⟨BC (p.bn.an j) u,Bl (p.bn.an j) u⟩ k).vs;unfold upN;split
   .rename_i e
    show v∈Bl (p.bn.an j) u;rw[(D6 c).2,Bx (An c).1.2.2];by_cases d:u.bt=v.bt
    .exact .inl (g (lX.1 hb) d).symm
    .exact .inr ⟨by rw[<- e];exact a,λf=>d f.symm⟩
   .exact a
theorem aK(h:(p.cl v).2=0):Ah v:=by
 unfold Nod.cl at h;split at h
 .rename_i h0;exact absurd h h0
 .rename_i h0;exact(An (lX.1 h0)).2.1
theorem VG{r:Rnd}{l:List Cmd}(k:Nat)(h:CN r.ln (l.length:Int)=0):l.length<(Fq (k+1) r l).length:=by
 rw[Fq,if_pos h];have:=(It k r (l++[CE r.ln (l.length:Int)])).length_le;rw[H',mB]at this
 omega
end
section
variable{I J:Meet->Prop}
theorem IB(j:∀ c M N,Stp wh1 c M N->I M->I N)(p:∀ c M N,Stp wh1 c M N->I M->J M->J N){n:Nat}{M:Meet}(q:MOk n M)(u:n+5<=1000000)(h:I M){i:Nat}(r:i<5)(d:∀ N m,MOk m N->m+1<=1000000->I N->N.ab i=M.ab i->J (N.act (acN 3 (i:Int)))):J (M.ew (Bz 3 5)):=by
 have d:∀ k,k<=5->MOk (n+k) (M.ew (Bz 3 k))/\I (M.ew (Bz 3 k))/\(k<=i->(M.ew (Bz 3 k)).ab i=M.ab i)/\(i<k->J (M.ew (Bz 3 k))):=by
  intro k;induction k with
  | zero=>exact λ_=>⟨q,h,λ_=>rfl,λe=>absurd e (nY _)⟩
  | succ k ih =>
   intro t;obtain⟨a,b,f,o⟩:=ih (by omega);rw[Dv,B2];refine⟨a.act (by omega) (GO (by omega)),Dk j a (by omega) b,λe=>by rw[EX _ (by omega)];exact f (by omega),λe=>?_⟩;by_cases l:i<k
   .exact(Dk (I:=λN=>I N/\J N) (λc A B s g=>⟨j c A B s g.1,p c A B s g.1 g.2⟩) a (by omega) ⟨b,o l⟩).2
   .obtain rfl:k=i:=by omega
    exact d _ _ a (by omega) b (f (A' _))
 exact(d 5 (A' _)).2.2.2 r
end
theorem Hw(M:Meet){i:Nat}(d:i<5):∃ N:Meet,N.ab i=M.ab i/\N=M.ew (Bz 3 i)/\(M.ew (Bz 3 5)).ab i=(N.act (acN 3 (i:Int))).ab i:=by
 have b:∀ k,k<=i->(M.ew (Bz 3 k)).ab i=M.ab i:=by
  intro k;induction k with
  | zero=>exact λ_=>rfl
  | succ k ih=>exact λa=>by rw[Dv,B2,EX _ (by omega)];exact ih (by omega)
 refine⟨_,b i (A' _),rfl,?_⟩;have c:∀ k,i<k->(M.ew (Bz 3 k)).ab i=((M.ew (Bz 3 i)).act (acN 3 (i:Int))).ab i:=by
  intro k a;induction k with
  | zero=>exact absurd a (nY _)
  | succ k ih =>
   rw[Dv,B2];by_cases e:k=i
   .rw[e]
   .rw[EX _ (Ne.symm e)];exact ih (by omega)
 exact c 5 d
theorem Stp.rh{M N:Meet}(s:Stp wh0 0 M N)(i:Nat):(N.ab i).bn.next=(M.ab i).bn.next:=by
 have put:∀ {k:Nat} {p:Nod} {a:List Let} {g:List Tol},p.bn.next=(M.ab k).bn.next->((M.set k p a g).ab i).bn.next=(M.ab i).bn.next:=λ{k p a g} e=>by
  rw[Al];split
  .rename_i e2;rw[e2];exact e
  .rfl
 have f:∀ (p:Nod) (j:Nat) (v:Vt),(p.count j v).bn.next=p.bn.next:=λp j v=>by
  unfold Nod.count;split
  .rfl
  .split<;>rfl
 cases s with
 | take _ l hl hd hu ht =>
  refine put ?_;unfold Nod.take;split
  .split
   .unfold Nod.fa;split<;>rfl
   .show((M.ab l.dst).av _).1.bn.next=_;rw[(AF _ _).2]
  .simp only;split<;>rfl
  .rfl
  .split
   .unfold Nod.fa;split<;>rfl
   .show((M.ab l.dst).cl _).1.bn.next=_;rw[(BP _ _).2]
  .exact f _ _ _
  .split<;>rfl
  .simp only;unfold Nod.eb;split<;>split<;>rfl
  .rfl
 | br _ a hl hd=>exact False.elim hd
 | one _ k c hi hu hc he=>exact put (by unfold Nod.gC;split<;>rfl)
 | ask _ k hi hu =>
  refine put ?_;unfold Nod.lp;split
  .rfl
  .split
   .unfold Nod.eb;split<;>rfl
   .rfl
 | qD _ k hi hu hs hT=>exact put rfl
 | run _ k hi hu q l hp hs =>
  refine put ?_;show((M.ab k).nf k q).bn.next=_;cases q with
  | began b vs=>simp only[Nod.nf];split<;>rfl
  | prop v=>exact f _ _ _
  | _=>rfl
 | teach _ k hi hu hL=>exact put rfl
 | lead _ k hi hu hL=>exact False.elim hL
 | sub _ k d hi hu hD=>exact False.elim hD
 | lr _ k y hi hu hk hC=>exact False.elim hC
 | start _ k hi hu hs=>exact False.elim hs
theorem Sts.rh{M N:Meet}(s:Sts wh1 0 M N)(i:Nat):(N.ab i).bn.next=(M.ab i).bn.next:=by
 generalize a:0=z at s;induction s with
 | nil=>rfl
 | @snoc n c m A B E h s hm ih =>
  obtain rfl:c=0:=by omega
  exact(s.calm.rh i).trans (ih (by omega))
theorem Sy{p q:Nod}(a:q.bn=p.bn)(b:q.ae=p.ae)(s:Nat):q.pd s=p.pd s:=by unfold Nod.pd;rw[a,b]
section
variable{C:List Cmd}{K:Int}{B:Nat->Bal}{cov:List (Bal × Nat)}{i:Nat}{b:Bal}
theorem Ex(M:Meet):M.ew Am=(M.ew (Bz 3 5)).act (acN 7 0):=by rw[show Am=Bz 3 5++[acN 7 0]from rfl,B2]
end
theorem lL(q:Nod){i j:Nat}(b:j<5)(c:j≠i) :
  (q.ae.length<=q.bn.bw j/\(Ew q i 5).bn.bw j=q.bn.bw j)\/(q.bn.bw j<q.ae.length/\(Ew q i 5).bn.bw j=q.ae.length/\({ BI 5 with src:=i,dst:=j,bt:=q.bn.bw j,hZ:=q.ae.drop (q.bn.bw j) }:Let)∈CS q i 5):=by
 have hin:∀ k,j<k->Mm q i j=true->({ BI 5 with src:=i,dst:=j,bt:=q.bn.bw j,hZ:=q.ae.drop (q.bn.bw j) }:Let)∈CS q i k:=by
  intro k;induction k with
  | zero=>exact λh=>absurd h (nY _)
  | succ k ih =>
   intro f a;rw[CS];by_cases e:j=k
   .rw[<- e,a,if_pos rfl];exact lV _ (D'.2 rfl)
   .exact lT _ (ih (by omega) a)
 have d:(Ew q i 5).bn.bw j=if decide (j<5)&&Mm q i j then q.ae.length else q.bn.bw j:=rfl;by_cases h:q.bn.bw j<q.ae.length
 .have a:Mm q i j=true:=O' ⟨c,h⟩;exact .inr ⟨h,by rw[d,a,O' b];rfl,hin 5 b a⟩
 .have a:Mm q i j=false:=E' λe=>h e.2;exact .inl ⟨by omega,by rw[d,a,O' b];rfl⟩
theorem SV(p:Nod)(i:Nat)(d:List Let)(c:List Tol):∃ (q:Nod) (ks:List Let),(p.piece i d c).1=(q.bw i ks).1/\(p.piece i d c).2.1=(q.bw i ks).2/\q.bn.bw=p.bn.bw:=by
 unfold Nod.piece;simp only;have e:=TI i (p.ae.drop p.done) p c;generalize qJ i (p.ae.drop p.done) p c=a at e ⊢;have f:(a.1.lp i).1.bn.bw=a.1.bn.bw:=by
  unfold Nod.lp;split
  .rfl
  .split
   .unfold Nod.eb;split<;>rfl
   .rfl
 generalize a.1.lp i=b at f ⊢;have g:b.1.cF.bn.bw=b.1.bn.bw:=by
  unfold Nod.cF;split
  .rfl
  .split
   .rfl
   .split<;>rfl
 generalize b.1.cF=r at g ⊢;have h:(r.qj i (d++b.2)).1.bn.bw=r.bn.bw:=by
  have j:∀ (l:List Pend) (x:Nod) (k:List Let),(qk i l x k).1.bn.bw=x.bn.bw:=by
   intro l;induction l with
   | nil=>exact λx k=>rfl
   | cons y l ih =>
    intro x k;rw[qk,ih];cases y with
    | began b vs=>simp only[Nod.nf];split<;>rfl
    | prop v =>
     simp only[Nod.nf,Nod.count];split
     .rfl
     .split<;>rfl
    | _=>rfl
  unfold Nod.qj;split
  .rfl
  .rw[j];unfold Nod.qD;split<;>rfl
 exact⟨_,_,rfl,rfl,by rw[h,g,f,e.1]⟩
section
variable{C:List Cmd}{K:Int}{B:Nat->Bal}{cov:List (Bal × Nat)}{i:Nat}{b:Bal}
def K1(M:Meet):Prop:=∀ m∈M.br,m.kind=1->m.hZ.length<=(M.ab m.src).ae.length
theorem K1.step{c:Nat}{M N:Meet}(s:Stp wh0 c M N)(h:K1 M):K1 N:=by
 have f:∀ m∈M.br,m.kind=1->m.hZ.length<=(N.ab m.src).ae.length:=λm i a=>lS (h m i a) (s.ev m.src).ag.length_le;intro m i a;cases s with
 | br _ ls hl hd=>exact False.elim hd
 | ask _ k hi hu =>
  rcases U'.1 i with g|g
  .exact f m g a
  .unfold Nod.lp at g;split at g
   .cases g
   .split at g
    .cases g
    .rw[D'.1 g]at a;cases a
 | run _ k hi hu q l hp hs =>
  rcases U'.1 i with g|g
  .exact f m g a
  .cases q with
   | began b vs =>
    unfold Nod.qq at g;simp only at g;split at g
    .cases g
    .have:=(D3 g).1;rw[a]at this;cases this
   | prop v=>have:=(D3 g).1;rw[a]at this;cases this
   | start=>have:=(D3 g).1;rw[a]at this;cases this
   | prom to b vs =>
    rw[D'.1 g];show(M.ab k).ae.length<=((M.set k { (M.ab k).nf k (.prom to b vs)with bu:=l } _ _).ab k).ae.length;rw[Bn];exact A' _
   | _=>have e:=D'.1 g;rw[e]at a;cases a
 | teach _ k hi hu hL =>
  rcases U'.1 i with g|g
  .exact f m g a
  .have:=(J5 5 m g).1;omega
 | lead _ k hi hu hL=>exact False.elim hL
 | sub _ k d hi hu hD=>exact False.elim hD
 | lr _ k x hi hu a hC=>exact False.elim hC
 | start _ k hi hu hs=>exact False.elim hs
 | _=>exact f m i a
end
section
variable{C:List Cmd}{K:Int}{B:Nat->Bal}{cov:List (Bal × Nat)}{i:Nat}{b:Bal}
def mu(i:Nat)(M:Meet):Nat:=2*(40-(M.ab i).ae.length)+(if(M.ab i).bn.next<=(M.ab i).ae.length then 1 else 0)
theorem Ln(m:Nat):Am++Au m=Au (m+1):=by
 induction m with
 | zero=>rfl
 | succ m ih=>show Am++(Au m++Am)=Au (m+1)++Am;rw[<- lY,ih]
end
section
variable{C:List Cmd}{K:Int}{B:Nat->Bal}{cov:List (Bal × Nat)}{i:Nat}{b:Bal}
def AW(b:Bal)(j:Nat)(N:Meet):Prop:=(N.ab j).vo.p=b/\∀ c x,(N.ab j).bN c=some x->x=b
theorem T7(d:b≠AY){p:Nod}{j:Nat}(g:p.vo.p=b){c:Cmd}{x:Bal}(a:(p.lp j).1.bN c=some x):x=b\/(p.bN c=some x/\c∉p.au.take 40):=by
 have a:(AV p.vo.p p.bN (p.au.take 40)).2 c=some x:=by
  unfold Nod.lp at a;split at a
  .exact a
  .split at a
   .unfold Nod.eb at a;split at a<;>exact a
   .exact a
 rw[g]at a
 have f:=KR d (p.au.take 40) p.bN;by_cases e:c∈p.au.take 40
 .rw[f.2.1 c e]at a;exact .inl (mI a).symm
 .rw[f.1 c e]at a;exact .inr ⟨a,e⟩
def T1(i:Nat)(N:Meet):Prop:=∀ j,j<5->j≠i->(N.ab i).bn.ql j=true->(N.ab i).bn.bw j<=(N.ab j).ae.length
theorem T1.tk{M N:Meet}(s:TkS M N)(k:K1 M)(t:T1 i M):T1 i N:=by
 intro j n d f;have p:=(s.qQ.ev j).ag.length_le;have a:(N.ab i).bn.bw j=(M.ab i).bn.bw j->(N.ab i).bn.ql j=(M.ab i).bn.ql j->(N.ab i).bn.bw j<=(N.ab j).ae.length:=λq h=>by
  have:=t j n d (by rw[<- h];exact f);omega
 obtain⟨l,o,r,u,rfl⟩:=s;by_cases e:i=l.dst
 .have en:((M.set l.dst ((M.ab l.dst).take l) M.br M.ed).ab i)=(M.ab i).take l:=by rw[Al,if_pos e,<- e]
  by_cases c:l.kind=1
  .rw[en]at a f ⊢
   have m:(M.ab i).take l=if((M.ab i).mv 0 l.hZ).leads=false\/l.jv≠(M.ab i).bn.jv\/(M.ab i).bn.ql l.src=true then(M.ab i).mv 0 l.hZ else Nod.qp { (M.ab i).mv 0 l.hZ with bn:={ (M.ab i).bn.qz l.src l.ni with bw:=upN (M.ab i).bn.bw l.src l.hZ.length } }:=by
    unfold Nod.take;rw[c];rfl
   rw[m]at a f ⊢
   split
   .rename_i hc
    rw[if_pos hc]at a
    exact a rfl rfl
   .rename_i hc
    rw[if_neg hc]at a
    show upN (M.ab i).bn.bw l.src l.hZ.length j<=_;by_cases b:j=l.src
    .rw[<- b,CT];have:=k l o c;rw[<- b]at this
     omega
    .rw[Dm _ _ b];have:=a (by show upN (M.ab i).bn.bw l.src l.hZ.length j=_;rw[Dm _ _ b]) (by show upN (M.ab i).bn.ql l.src true j=_;rw[Dm _ _ b]);have g:upN (M.ab i).bn.bw l.src l.hZ.length j<=_:=this;rw[Dm _ _ b]at g
     exact g
  .have:((M.ab i).take l).bn.bw=(M.ab i).bn.bw/\((M.ab i).take l).bn.ql=(M.ab i).bn.ql:=by
    unfold Nod.take;split
    .split
     .unfold Nod.fa;split<;>exact⟨rfl,rfl⟩
     .show((M.ab i).av _).1.bn.bw=_/\((M.ab i).av _).1.bn.ql=_;rw[(AF _ _).2];exact⟨rfl,rfl⟩
    .rename_i hk;exact absurd hk c
    .exact⟨rfl,rfl⟩
    .split
     .unfold Nod.fa;split<;>exact⟨rfl,rfl⟩
     .show((M.ab i).cl _).1.bn.bw=_/\((M.ab i).cl _).1.bn.ql=_;rw[(BP _ _).2];exact⟨rfl,rfl⟩
    .unfold Nod.count;split
     .exact⟨rfl,rfl⟩
     .split<;>exact⟨rfl,rfl⟩
    .split<;>exact⟨rfl,rfl⟩
    .simp only;unfold Nod.eb;split<;>split<;>exact⟨rfl,rfl⟩
    .exact⟨rfl,rfl⟩
   exact a (by rw[en,this.1]) (by rw[en,this.2])
 .have en:((M.set l.dst ((M.ab l.dst).take l) M.br M.ed).ab i)=M.ab i:=by rw[Al,if_neg e]
  exact a (by rw[en]) (by rw[en])
end
theorem JB{f:Nat->Nod}{i j:Nat}{p:Nod}(h:i=j->p=f j):upN f i p j=f j:=by
 unfold upN;split
 .rename_i e;exact h e.symm
 .rfl
theorem O3(M:Meet)(l:Let){j:Nat}(a:(M.ab j).up=false):(M.qh l).ab j=M.ab j:=by
 unfold Meet.qh;split
 .rename_i hu
  exact JB λe=>by rw[e,a]at hu;cases hu
 .rfl
theorem X0(l:List Let)(M:Meet){j:Nat}(a:(M.ab j).up=false):(l.foldl (λM l=>M.qh l) M).ab j=M.ab j:=by
 induction l generalizing M with
 | nil=>rfl
 | cons x l ih =>
  have h:=O3 M x a;exact(ih (M.qh x) (by rw[h];exact a)).trans h
theorem cW(M:Meet)(k:Int)(a:Nat){j:Nat}(b:(M.ab j).up=false):(M.move k a).ab j=M.ab j:=by
 unfold Meet.move;split
 .rfl
 .simp only;split
  .split
   .exact O3 _ _ b
   .exact O3 _ _ b
  .split<;>rfl
theorem Ia(M:Meet)(x:Lac){j:Nat}(a:(M.ab j).up=false)(c:¬ (x.k=9/\x.n.toNat=j)):(M.act x).ab j=M.ab j:=by
 have b:∀ {i:Nat},i=j->¬ (M.ab i).up=true:=λe h=>by rw[e,a]at h;cases h
 unfold Meet.act;simp only;split
 .refine JB λe=>?_;rw[e];unfold Nod.qx Nod.qH;rw[if_pos a]
 .split
  .exact JB λe=>by rw[if_neg (b e),e]
  .split
   .exact JB λe=>by rw[if_neg (b e),e]
   .split
    .exact cW M _ _ a
    .split
     .unfold Meet.qv;exact X0 _ { M with br:=[] } a
     .split
      .exact JB λe=>by rw[if_neg (b e),e]
      .split
       .rename_i k9;exact JB λe=>absurd ⟨k9,e⟩ c
       .rfl
theorem OQ(p:Nod)(b:Bal):(p.av b).1.done=p.done:=by
 unfold Nod.av;split
 .rfl
 .split
  .rfl
  .split<;>rfl
theorem Ok(p:Nod)(v:Vt):(p.cl v).1.done=p.done:=by
 unfold Nod.cl;split
 .rfl
 .split
  .rfl
  .split<;>rfl
theorem Lf(p:Nod)(j:Nat)(v:Vt):(p.count j v).done=p.done:=by
 unfold Nod.count;split
 .rfl
 .split<;>rfl
theorem JW(p:Nod)(to:Nat)(e:Int):(p.fa to e).done=p.done:=by unfold Nod.fa;split<;>rfl
theorem Ii(p:Nod)(l:List Cmd):(p.eb l).done=p.done:=by unfold Nod.eb;split<;>rfl
theorem WC(p:Nod)(l:Let):(p.take l).done=p.done:=by
 unfold Nod.take;split
 .split
  .exact JW _ _ _
  .exact OQ p l.jv
 .simp only;split<;>rfl
 .rfl
 .split
  .exact JW _ _ _
  .exact Ok p l.cl
 .exact Lf p _ _
 .split<;>rfl
 .simp only;split<;>exact Ii p l.hZ
 .rfl
theorem NZ(p:Nod)(i:Nat)(q:Pend):(p.nf i q).done=p.done:=by
 cases q with
 | began b vs=>unfold Nod.nf;simp only;split<;>rfl
 | prop v=>exact Lf p i v
 | _=>rfl
theorem RG(i:Nat)(l:List Pend)(p:Nod)(a:List Let):(qk i l p a).1.done=p.done:=by
 induction l generalizing p a with
 | nil=>rfl
 | cons q l ih=>exact(ih _ _).trans (NZ p i q)
def Wt(l:List Cmd):Sto:=l.foldl dnS IC
theorem Wu(l:List Cmd)(c:Cmd):Wt (l++[c])=dnS (Wt l) c:=by unfold Wt;rw[oD];rfl
theorem ZK(l:List Cmd)(h:∀ c∈l,c.e=0):H7 (Wt l):=by
 have key:∀ (l:List Cmd) (s:Sto),H7 s->(∀ c∈l,c.e=0)->H7 (l.foldl dnS s):=by
  intro l;induction l with
  | nil=>exact λs a _=>a
  | cons c l ih=>exact λs a h=>ih _ (TH a (h c M')) λd b=>h d (I' _ b)
 exact key l IC ZJ h
def StI(p:Nod):Prop:=p.ov=Wt (p.ae.take p.done)
theorem StI.nn{p q:Nod}(h:StI p)(d:q.ov=p.ov)(b:q.done=p.done)(a:p.ae <+: q.ae)(c:p.done<=p.ae.length):StI q:=by
 unfold StI;rw[d,b,QV a c];exact h
theorem ai(p:Nod)(l:Let):(p.take l).ov=p.ov:=by
 unfold Nod.take;split
 .split
  .unfold Nod.fa;split<;>rfl
  .show(p.av l.jv).1.ov=_;unfold Nod.av;split
   .rfl
   .split
    .rfl
    .split<;>rfl
 .simp only;split<;>rfl
 .rfl
 .split
  .unfold Nod.fa;split<;>rfl
  .show(p.cl l.cl).1.ov=_;unfold Nod.cl;split
   .rfl
   .split
    .rfl
    .split<;>rfl
 .unfold Nod.count;split
  .rfl
  .split<;>rfl
 .split<;>rfl
 .simp only;unfold Nod.eb;split<;>split<;>rfl
 .rfl
theorem StI.bare(p:Nod)(u:Bool)(d:List Int)(s:Int)(a:Acc)(x:List Pend):StI (p.bare u d s a x):=rfl
theorem StI.step{D:Wh}{c:Nat}{M N:Meet}(s:Stp D c M N)(a:∀ j,j<5->(M.ab j).done<=(M.ab j).ae.length)(h:∀ j,j<5->StI (M.ab j)):∀ j,j<5->StI (N.ab j):=by
 intro j g;have put:∀ {k:Nat} {p:Nod} {f:List Let} {i:List Tol},(k<5->StI p)->StI ((M.set k p f i).ab j):=λ{k p f i} e=>by
  rw[Al];split
  .rename_i e2;exact e (by omega)
  .exact h j g
 cases s with
 | take _ l hl hd2 hu ht=>exact put λ_=>(h _ hd2.2).nn (ai _ l) (WC _ l) (Ev.take _ l).ag (a _ hd2.2)
 | br _ f hl a=>exact h j g
 | one _ k c hi hu hc he =>
  refine put λ_=>?_;have e:StI { M.ab k with ov:=doS (M.ab k).ov c,done:=(M.ab k).done+1 }:=by
   unfold StI;show doS (M.ab k).ov c=Wt ((M.ab k).ae.take ((M.ab k).done+1));rw[nA,hc,RF he,h k hi];exact(Wu _ c).symm
  unfold Nod.gC;split<;>exact e
 | ask _ k hi hu =>
  refine put λ_=>?_;have:=h k hi;unfold Nod.lp;split
  .exact this
  .split
   .unfold Nod.eb;split<;>exact this
   .exact this
 | prop _ k hi hu =>
  refine put λ_=>?_;have:=h k hi;unfold Nod.cF;split
  .exact this
  .split
   .exact this
   .split
    .exact this
    .show StI ((M.ab k).cl _).1;unfold Nod.cl;split
     .exact this
     .split
      .exact this
      .split<;>exact this
 | qD _ k hi hu hs hT=>exact put λ_=>h k hi
 | run _ k hi hu q l hp hs =>
  refine put λ_=>(h k hi).nn ?_ ((NZ (M.ab k) k q)) ((Ev.nf (M.ab k) k q).bu l).ag (a k hi);show((M.ab k).nf k q).ov=_;cases q with
  | began b vs=>simp only[Nod.nf];split<;>rfl
  | prop v =>
   simp only[Nod.nf,Nod.count];split
   .rfl
   .split<;>rfl
  | _=>rfl
 | teach _ k hi hu hL=>exact put λ_=>h k hi
 | lead _ k hi hu hL =>
  refine put λ_=>?_;have:=h k hi;unfold Nod.lead;simp only;split
  .exact this
  .generalize (⟨max (M.ab k).dc (M.ab k).vo.p.r+1,(k:Int)⟩:Bal)=b;show StI ((M.ab k).av b).1;unfold Nod.av;split
   .exact this
   .split
    .exact this
    .split<;>exact this
 | sub _ k d hi hu hD =>
  refine put λ_=>?_;have:=h k hi;unfold Nod.qx Nod.qH;split
  .exact this
  .split
   .exact this
   .split
    .exact this
    .show StI (Nod.want _ _);unfold Nod.want;split<;>exact this
 | lr _ k x hi hu hk hC =>
  refine put λ_=>?_;unfold Nod.lr;split
  .exact h k hi
  .exact .bare _ _ _ _ _ _
 | start _ k hi hu hs =>
  refine put λ_=>?_;unfold Nod.start;split
  .exact h k hi
  .split<;>exact .bare _ _ _ _ _ _
theorem StI.zero:∀ j,j<5->StI (At.ab j):=λj _=>rfl
theorem bE(i:Nat)(l:List Cmd)(p:Nod)(k:List Tol)(j:H7 p.ov)(h:∀ c∈l,c.e=0):(qJ i l p k).1.done=p.done+l.length:=by
 induction l generalizing p k with
 | nil=>rfl
 | cons c l ih =>
  have a:=h c M';have b:doE p.ov c=0:=(bD j).trans a;rw[qJ,if_neg (λg=>g b)];have f:(Nod.gC { p with ov:=doS p.ov c,done:=p.done+1 } c).ov=dnS p.ov c/\(Nod.gC { p with ov:=doS p.ov c,done:=p.done+1 } c).done=p.done+1:=by
   unfold Nod.gC;split<;>exact⟨RF b,rfl⟩
  rw[ih _ _ (by rw[f.1];exact TH j a) λd m=>h d (I' _ m),f.2,mH];omega
theorem SS(p:Nod)(i:Nat)(f:List Let)(e:List Tol):(p.piece i f e).1.done=(qJ i (p.ae.drop p.done) p e).1.done:=by
 unfold Nod.piece;simp only;generalize (qJ i (p.ae.drop p.done) p e).1=a;have g:(a.lp i).1.done=a.done:=by
  unfold Nod.lp;split
  .rfl
  .split
   .exact Ii _ _
   .rfl
 generalize a.lp i=b at g ⊢;have h:b.1.cF.done=b.1.done:=by
  unfold Nod.cF;split
  .rfl
  .split
   .rfl
   .split
    .rfl
    .exact Ok _ _
 generalize b.1.cF=c at h ⊢;generalize f++b.2=k;have j:(c.qj i k).1.done=c.done:=by
  unfold Nod.qj;split
  .rfl
  .rw[RG];unfold Nod.qD;split<;>rfl
 generalize c.qj i k=d at j ⊢;have l:(d.1.bw i d.2).1.done=d.1.done:=by unfold Nod.bw;split<;>rfl
 omega
theorem Eb{I:Meet->Prop}(d:∀ c M N,Stp wh0 c M N->I M->I N)(j:∀ M,I M->I { M with br:=[] })(m:Nat){n:Nat}{M:Meet}(i:MOk n M)(o:n+6*m<=1000000)(h:I M):I (M.ew (Au m))/\MOk (n+6*m) (M.ew (Au m)):=by
 induction m with
 | zero=>exact⟨h,i⟩
 | succ m ih =>
  obtain⟨e,f⟩:=ih (by omega);show I (M.ew (Au m++Am))/\MOk (n+6*(m+1)) (M.ew (Au m++Am));rw[AU,Ex];have a:=Cf (λc A N s g=>d c A N s.calm g) f (by omega) e;obtain⟨N,k,l,_⟩:=CI (λA N s g=>d _ A N s.qQ g) a.1 a.2;have b:=a.1.act (x:=acN 7 0) (by omega) (by rw[<- Ez];decide);rw[k]at b ⊢
  exact⟨j N l,b.mono (by omega)⟩
theorem Qb{M:Meet}{i:Nat}(a:(M.ab i).up=true):M.act (acN 2 (i:Int))=M.set i ((M.ab i).lead i) M.br M.ed:=by
 unfold Meet.act;simp only[acN];rw[if_neg (by decide),if_pos trivial];show M.set i (if(M.ab i).up=true then _ else _) M.br M.ed=_;rw[if_pos a];rfl
theorem EM(a b:Nat):Au (a+b)=Au a++Au b:=by
 induction b with
 | zero=>exact(mx _).symm
 | succ b ih=>show Au (a+b)++Am=Au a++(Au b++Am);rw[ih,lY]
def If(b:Bal):List (Bal × Nat):=(List.range 40).map λs=>(b,s)
theorem GA(b:Bal){s:Nat}(h:s<40):(b,s)∈If b:=mt.2 ⟨s,oE.2 h,rfl⟩
section
variable{S:Cmd->Prop}{K:Int}{B:Nat->Bal}{cov:List (Bal × Nat)}
structure Led(i:Nat)(p q:Nod)(b:Bal):Prop where
 may:Ab b
 n:b.n=(i:Int)
 gt:5*p.dc+4<b.key/\p.vo.p.key<b.key
 le:b.key<=max (5*p.dc) p.vo.p.key+9
 up:q.up=p.up
 vo:q.vo.p=b
 jv:q.bn.jv=b
 p1:P1 i q
 pe:∃ vs,Pend.began b vs∈q.bu
 ask:q.au=p.au/\q.bN=p.bN/\q.done=p.done
 ro:q.dc=p.dc
end
section
variable{C:List Cmd}{K:Int}{B:Nat->Bal}{cov:List (Bal × Nat)}{i:Nat}{b:Bal}{A:List Cmd}
theorem Fin_.drop{N:Meet}(f:Fin_ i A N):Fin_ i A { N with br:=[] }:=⟨f.ag,f.nx,f.hd,f.qu⟩
theorem Gr8.gt{p q:Nod}{K:Int}(h:Gr8 K p)(a:Ao p.vo.p){i:Nat}{b:Bal}(l:Led i p q b):K<b.key:=by
 have:=l.gt;unfold Gr8 at h;omega
end
end
end Go.Proofs.YteimjcbgceckdaaGreatDoor
