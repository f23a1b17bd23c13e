/- Part 32 of the walk. -/
import Derived.Test.YtalbmmghmoggcacGreatDoorZ21
set_option maxRecDepth 100000
set_option maxHeartbeats 4000000
set_option linter.unusedVariables false
namespace Go.Proofs.YtalbmmghmoggcacGreatDoor
theorem UM(p:Nod)(i:Nat)(q:Pend)(x:List Pend):({ p with pend:=x }:Nod).runP i q={ p.runP i q with pend:=x }:=by
 cases q with
 | began b vs=>unfold Nod.runP;simp only;split<;>rfl
 | prop v =>
  unfold Nod.runP Nod.count;simp only;split
  .rfl
  .split<;>rfl
 | _=>rfl
theorem MN(p:Nod)(i:Nat)(q:Pend):(p.runP i q).pend=p.pend/\(p.runP i q).up=p.up/\(p.runP i q).d=p.d/\(p.runP i q).sy=p.sy:=by
 cases q with
 | began b vs=>unfold Nod.runP;simp only;split<;>exact⟨rfl,rfl,rfl,rfl⟩
 | prop v =>
  unfold Nod.runP Nod.count;simp only;split
  .exact⟨rfl,rfl,rfl,rfl⟩
  .split<;>exact⟨rfl,rfl,rfl,rfl⟩
 | _=>exact⟨rfl,rfl,rfl,rfl⟩
theorem RP(p:Nod)(i:Nat)(q:Pend)(x:List Pend):({ p with pend:=x }:Nod).sentP i q=p.sentP i q:=by cases q<;>rfl
theorem Jt(p:Nod)(c:Cmd):(p.unwant c).up=p.up/\(p.unwant c).agreed=p.agreed/\(p.unwant c).done=p.done/\(p.unwant c).sto=p.sto:=by unfold Nod.unwant;split<;>exact⟨rfl,rfl,rfl,rfl⟩
theorem QH(p:Nod)(l:List Cmd):(p.enqueue l).up=p.up:=by unfold Nod.enqueue;split<;>rfl
theorem Sr(p:Nod)(i:Nat):(p.askd i).1.up=p.up:=by
 unfold Nod.askd;split
 .rfl
 .split
  .exact QH _ _
  .rfl
theorem bD(p:Nod)(v:Vt):(p.vote v).1.up=p.up:=by
 unfold Nod.vote;split
 .rfl
 .split
  .rfl
  .split<;>rfl
theorem KW(p:Nod):p.propose.up=p.up:=by
 unfold Nod.propose;split
 .rfl
 .split
  .rfl
  .split
   .rfl
   .exact bD p _
structure Wh where
 d:Nat->List Int->Prop
 ld:Prop
 cr:Prop
 dr:Prop
 tk:Prop
 st:Prop
def Wh.may(D:Wh)(x:Lac):Prop:=(x.k=1->D.d x.n.toNat x.d)/\(x.k=2->D.ld)/\(x.k=8->D.cr)/\(x.k=4\/x.k=5\/x.k=6\/x.k=7->D.dr/\D.tk)/\(x.k=9->D.st)
inductive Stp (D:Wh):Nat->Meet->Meet->Prop
 | take (M:Meet) (l:Let) (hl:l∈M.lets) (hd:l.src<5/\l.dst<5) (hu:(M.node l.dst).up=true) (ht:D.tk):Stp D 0 M (M.set l.dst ((M.node l.dst).take l) M.lets M.told)
 | lets (M:Meet) (ls:List Let) (h:∀ l∈ls,l∈M.lets) (hd:D.dr):Stp D 0 M { M with lets:=ls }
 | one (M:Meet) (i:Nat) (c:Cmd) (hi:i<5) (hu:(M.node i).up=true) (hc:(M.node i).agreed[(M.node i).done]?=some c) (he:doE (M.node i).sto c=0) :
   Stp D 0 M (M.set i (Nod.unwant { M.node i with sto:=doS (M.node i).sto c,done:=(M.node i).done+1 } c) M.lets (if((M.node i).asked c).isSome=true then M.told++[⟨i,c.c,c.s,doC (M.node i).sto c,doA (M.node i).sto c⟩]else M.told))
 | ask (M:Meet) (i:Nat) (hi:i<5) (hu:(M.node i).up=true):Stp D 0 M (M.set i ((M.node i).askd i).1 (M.lets++((M.node i).askd i).2) M.told)
 | prop (M:Meet) (i:Nat) (hi:i<5) (hu:(M.node i).up=true):Stp D 1 M (M.set i (M.node i).propose M.lets M.told)
 | syn (M:Meet) (i:Nat) (hi:i<5) (hu:(M.node i).up=true) (h:(M.node i).sy<((M.node i).d.length:Int)) (hT:B2 (M.node i).d (M.node i).sy):Stp D 0 M (M.set i { M.node i with sy:=((M.node i).d.length:Int) } M.lets M.told)
 | run (M:Meet) (i:Nat) (hi:i<5) (hu:(M.node i).up=true) (q:Pend) (l:List Pend) (hp:(M.node i).pend=q::l) (hs:¬ (M.node i).sy<((M.node i).d.length:Int)):Stp D 0 M (M.set i { (M.node i).runP i q with pend:=l } (M.lets++(M.node i).sentP i q) M.told)
 | teach (M:Meet) (i:Nat) (hi:i<5) (hu:(M.node i).up=true) (hL:(M.node i).leads=true):Stp D 0 M (M.set i (IJ (M.node i) i 5) (M.lets++DN (M.node i) i 5) M.told)
 | lead (M:Meet) (i:Nat) (hi:i<5) (hu:(M.node i).up=true) (hL:D.ld):Stp D 0 M (M.set i ((M.node i).lead i) M.lets M.told)
 | sub (M:Meet) (i:Nat) (d:List Int) (hi:i<5) (hu:(M.node i).up=true) (hD:D.d i d):Stp D 0 M (M.set i ((M.node i).subm i d M.told).1 M.lets ((M.node i).subm i d M.told).2)
 | crash (M:Meet) (i:Nat) (k:Int) (hi:i<5) (hu:(M.node i).up=true) (hk:0<=k) (hC:D.cr):Stp D 0 M (M.set i ((M.node i).crash k) M.lets M.told)
 | start (M:Meet) (i:Nat) (hi:i<5) (hu:(M.node i).up=false) (hs:D.st):Stp D 0 M (M.set i (M.node i).start M.lets M.told)
inductive Sts (D:Wh):Nat->Meet->Meet->Prop
 | nil (n:Nat) (M:Meet):Sts D n M M
 | snoc {n c m:Nat} {M N K:Meet} (h:Sts D n M N) (s:Stp D c N K) (hm:n+c<=m):Sts D m M K
section
variable{D:Wh}
section
variable{K M N:Meet}{i m n:Nat}{ls:List Let}{ts:List Tol}{α:Type}
theorem Sts.mono(h:Sts D n M N)(hn:n<=m):Sts D m M N:=by
 cases h with
 | nil=>exact .nil m M
 | snoc h s hm=>exact .snoc h s (by omega)
theorem Sts.trans(h:Sts D n M N)(k:Sts D m N K):Sts D (n+m) M K:=by
 induction k with
 | nil=>exact h.mono (by omega)
 | snoc _ s hm ih=>exact(ih h).snoc s (by omega)
theorem Sts.s0(h:Sts D n M N)(s:Stp D 0 N K):Sts D n M K:=h.snoc s (A' _)
theorem Stp.s(h:Stp D 0 M N):Sts D n M N:=(Sts.nil n M).s0 h
theorem Lu(f:Nat->α)(i:Nat):upN f i (f i)=f:=by funext j;unfold upN;split<;>simp_all
theorem Tl(f:Nat->α)(i:Nat)(x y:α):upN (upN f i x) i y=upN f i y:=by funext j;unfold upN;split<;>rfl
theorem Gg(M:Meet)(i:Nat)(p q:Nod)(ls ms:List Let)(ts us:List Tol):(M.set i p ls ts).set i q ms us=M.set i q ms us:=by unfold Meet.set;simp only[Tl]
theorem IA(M:Meet)(i:Nat)(p:Nod)(ls:List Let)(ts:List Tol):(M.set i p ls ts).node i=p:=Es M.node i p
theorem Mn(M:Meet)(l:Let):(M.come l).lets=M.lets:=by unfold Meet.come;split<;>rfl
theorem Mo(M:Meet)(l:Let)(ls:List Let):({ M with lets:=ls }:Meet).come l={ M.come l with lets:=ls }:=by
 unfold Meet.come;show(if(M.node l.dst).up=true then _ else _)=_;split<;>rfl
theorem Q8(l:List Let)(M:Meet)(ls:List Let):l.foldl (λM l=>M.come l) ({ M with lets:=ls }:Meet)={ l.foldl (λM l=>M.come l) M with lets:=ls }:=by
 induction l generalizing M with
 | nil=>rfl
 | cons x l ih=>rw[l9,Mo,ih];rfl
theorem Sts.come(ht:D.tk)(h:Sts D n M N){l:Let}(hl:l∈N.lets)(hd:l.src<5/\l.dst<5):Sts D n M (N.come l):=by
 unfold Meet.come;split
 .rename_i hu;exact h.s0 (.take N l hl hd hu ht)
 .exact h
theorem Sts.comes(ht:D.tk)(l:List Let)(h:Sts D n M N)(hl:∀ m∈l,m∈N.lets/\m.src<5/\m.dst<5):Sts D n M (l.foldl (λM l=>M.come l) N):=by
 induction l generalizing N with
 | nil=>exact h
 | cons x l ih=>exact ih (h.come ht (hl x U').1 (hl x U').2) λm hm=>by rw[Mn];exact hl m (Q' _ hm)
theorem Sts.doP(hi:i<5)(l:List Cmd)(p:Nod)(h:Sts D n M (M.set i p ls ts))(hu:p.up=true)(hl:p.agreed.drop p.done=l) :
  Sts D n M (M.set i (doP i l p ts).1 ls (Go.Proofs.YtalbmmghmoggcacGreatDoor.doP i l p ts).2)/\(Go.Proofs.YtalbmmghmoggcacGreatDoor.doP i l p ts).1.up=true:=by
 induction l generalizing p ts with
 | nil=>exact⟨h,hu⟩
 | cons c l ih =>
  rw[Go.Proofs.YtalbmmghmoggcacGreatDoor.doP];split
  .exact⟨h,hu⟩
  .rename_i he
   have hc:p.agreed[p.done]?=some c:=by have:=congrArg (·[0]?) hl;simpa using this
   have hk:=Jt { p with sto:=doS p.sto c,done:=p.done+1 } c;have e:=IA M i p ls ts;have s:=Stp.one (D:=D) (M.set i p ls ts) i c hi (by rw[e];exact hu) (by rw[e];exact hc) (by rw[e];exact iQ.1 he);rw[e,Gg]at s
   refine ih _ (h.s0 s) (hk.1.trans hu) ?_;rw[hk.2.1,hk.2.2.1];show p.agreed.drop (p.done+1)=l;rw[<- kQ,hl];rfl
theorem Sts.doneP(hi:i<5)(l:List Pend)(p:Nod)(h:Sts D n M (M.set i { p with pend:=l } ls ts))(hu:p.up=true)(h0:p.pend=[])(hs:¬ p.sy<(p.d.length:Int)) :
  Sts D n M (M.set i (doneP i l p ls).1 (Go.Proofs.YtalbmmghmoggcacGreatDoor.doneP i l p ls).2 ts)/\(Go.Proofs.YtalbmmghmoggcacGreatDoor.doneP i l p ls).1.up=true:=by
 induction l generalizing p ls with
 | nil =>
  have:({ p with pend:=[] }:Nod)=p:=by cases p;simp_all
  rw[this]at h;exact⟨h,hu⟩
 | cons q l ih =>
  have hk:=MN p i q;have e:=IA M i { p with pend:=q::l } ls ts;have s:=Stp.run (D:=D) (M.set i { p with pend:=q::l } ls ts) i hi (by rw[e];exact hu) q l (by rw[e]) (by rw[e];exact hs);rw[e,Gg,UM,RP]at s
  exact ih (p.runP i q) (h.s0 s) (hk.2.1.trans hu) (hk.1.trans h0) (by rw[hk.2.2.1,hk.2.2.2];exact hs)
theorem Sts.piece(hi:i<5)(M:Meet)(hu:(M.node i).up=true):Sts D 1 M (M.set i ((M.node i).piece i M.lets M.told).1 ((M.node i).piece i M.lets M.told).2.1 ((M.node i).piece i M.lets M.told).2.2):=by
 have h0:Sts D 0 M (M.set i (M.node i) M.lets M.told):=by rw[show M.set i (M.node i) M.lets M.told=M by unfold Meet.set;rw[Lu]];exact .nil 0 M
 obtain⟨ha,au⟩:=Sts.doP hi _ (M.node i) h0 hu rfl;unfold Nod.piece;simp only;generalize Go.Proofs.YtalbmmghmoggcacGreatDoor.doP i ((M.node i).agreed.drop (M.node i).done) (M.node i) M.told=a at ha au ⊢;have e:=IA M i a.1 M.lets a.2;have s:=Stp.ask (D:=D) (M.set i a.1 M.lets a.2) i hi (by rw[e];exact au);rw[e,Gg]at s
 have hb:=ha.s0 s;have bu:=(Sr a.1 i).trans au;clear e s ha;generalize (a.1.askd i)=b at hb bu ⊢;have e:=IA M i b.1 (M.lets++b.2) a.2;have s:=Stp.prop (D:=D) (M.set i b.1 (M.lets++b.2) a.2) i hi (by rw[e];exact bu);rw[e,Gg]at s
 have hc:=hb.snoc s (m:=1) (by omega);have cu:=(KW b.1).trans bu;clear e s hb;change Sts D 1 M (M.set i b.1.propose (M.lets++b.2) a.2)at hc;generalize b.1.propose=r at hc cu ⊢;generalize M.lets++b.2=k at hc ⊢;have hd:Sts D 1 M (M.set i (r.syncd i k).1 (r.syncd i k).2 a.2)/\(r.syncd i k).1.up=true:=by
  unfold Nod.syncd;split
  .exact⟨hc,cu⟩
  .rename_i hn
   have e:=IA M i r k a.2;unfold Nod.syn;split
   .rename_i h1
    have h2:De r.d r.sy=0:=iQ.1 λe=>hn ⟨h1,e⟩;have hT:B2 r.d r.sy:=by
     unfold De at h2;split at h2
     .assumption
     .cases h2
    have s:=Stp.syn (D:=D) (M.set i r k a.2) i hi (by rw[e];exact cu) (by rw[e];exact h1) (by rw[e];exact hT);rw[e,Gg]at s
    have e1:Lm r.d r.sy=r.d:=if_pos hT;have e2:Mb r.d r.sy=(r.d.length:Int):=if_pos hT;rw[e1,e2];exact Sts.doneP hi r.pend { r with sy:=(r.d.length:Int),pend:=[] } (hc.s0 s) cu rfl (Int.lt_irrefl _)
   .rename_i h1
    exact Sts.doneP hi r.pend { r with pend:=[] } hc cu rfl h1
 generalize r.syncd i k=f at hd ⊢;unfold Nod.taught;split
 .rename_i hL
  have e:=IA M i f.1 f.2 a.2;have s:=Stp.teach (D:=D) (M.set i f.1 f.2 a.2) i hi (by rw[e];exact hd.2) (by rw[e];exact hL);rw[e,Gg]at s
  exact hd.1.s0 s
 .exact hd.1
theorem Ie(M:Meet)(i:Nat):M.set i (M.node i) M.lets M.told=M:=by unfold Meet.set;rw[Lu]
theorem YC(hM:MOk n M){x:Lac}(hx:LacOk x)(hD:D.may x):Sts D 1 M (M.act x):=by
 obtain⟨hD,h2,h8,h4,hS⟩:=hD;have hnode:∀ {k:Int},x.k=k->FQ k=true->x.n.toNat<5:=λ{k} e e2=>by have:=hx.n (by rw[e];exact e2);omega
 unfold Meet.act;simp only;split
 .rename_i h1
  by_cases hu:(M.node x.n.toNat).up=true
  .exact(Stp.sub M _ x.d (hnode h1 rfl) hu (hD h1)).s
  .unfold Nod.subm Nod.sub0;rw[if_pos (by simpa using hu)];rw[Ie];exact .nil 1 M
 .split
  .rename_i hk
   split
   .rename_i hu;exact(Stp.lead M _ (hnode hk rfl) hu (h2 hk)).s
   .rw[Ie];exact .nil 1 M
  .split
   .rename_i h3
    by_cases hu:(M.node x.n.toNat).up=true
    .rw[if_pos hu,if_pos hu,if_pos hu];exact Sts.piece (hnode h3 rfl) M hu
    .rw[if_neg hu,if_neg hu,if_neg hu,Ie];exact .nil 1 M
   .split
    .rename_i hk4
     obtain⟨hdr,htk⟩:=h4 (by omega);unfold Meet.move;split
     .exact .nil 1 M
     .rename_i l hl
      have hm:=i5 hl;have hd:=And.intro (hM.lets l hm).src (hM.lets l hm).dst;have hA:∀ N:Meet,Sts D 1 M N->N.lets=M.lets->Sts D 1 M (if x.k≠6 then{ N with lets:=M.lets.eraseIdx (x.a.toNat%M.lets.length) }else N):=λN h e=>by
       split
       .exact h.s0 (.lets N _ (λm hm=>by rw[e];exact List.mem_of_mem_eraseIdx hm) hdr)
       .exact h
      simp only;split
      .have:=hA (M.come l) ((Sts.nil 1 M).come htk hm hd) (Mn M l);by_cases h6:x.k≠6
       .rw[if_pos h6]at this ⊢;rw[Mo];exact this
       .rw[if_neg h6]at this ⊢;exact this
      .exact hA M (.nil 1 M) rfl
    .split
     .rename_i hk7
      unfold Meet.comeAll;rw[Q8];exact(Sts.comes (h4 (by omega)).2 M.lets (.nil 1 M) λm hm=>⟨hm,(hM.lets m hm).src,(hM.lets m hm).dst⟩).s0 (.lets _ [] (λl hl=>by cases hl) (h4 (by omega)).1)
     .split
      .rename_i hk
       split
       .rename_i hu;exact(Stp.crash M _ x.p (hnode hk rfl) hu (hx.p (by rw[hk];rfl)).1 (h8 hk)).s
       .rw[Ie];exact .nil 1 M
      .split
       .rename_i h9
        split
        .rw[Ie];exact .nil 1 M
        .rename_i hu;exact(Stp.start M _ (hnode h9 rfl) (by simpa using hu) (hS h9)).s
       .exact .nil 1 M
theorem Ou(L:List Lac)(hM:MOk n M)(hn:n+L.length<=1000000)(hx:∀ x∈L,LacOk x/\D.may x):Sts D L.length M (M.acts L):=by
 induction L generalizing n M with
 | nil=>exact .nil _ M
 | cons x L ih =>
  have h1:=hx x U';rw[iW]at hn
  rw[iW,lZ];exact(YC hM h1.1 h1.2).trans (ih (hM.act (by omega) h1.1) (by omega) λy hy=>hx y (Q' _ hy))
end
end
section
def whT:Wh:=⟨λ_ _=>True,True,True,True,True,True⟩
theorem Ts(x:Lac):whT.may x:=⟨λ_=>trivial,λ_=>trivial,λ_=>trivial,λ_=>⟨trivial,trivial⟩,λ_=>trivial⟩
inductive Rk where
 | pr (b:Bal)
 | vt (v:Vt)
def Rk.body:Rk->List Int
 | .pr b=>Bk b
 | .vt v=>Bd v
def Rk.ap(a:Acc):Rk->Acc
 | .pr b=>⟨b,a.vs⟩
 | .vt v=>⟨v.b,AZ a.vs v⟩
def Rk.err(a:Acc):Rk->Int
 | .pr b=>BN a b
 | .vt v=>AO a v
def Rk.ok(a:Acc):Rk->Prop
 | .pr b=>BN a b=0/\a.p≠b
 | .vt v=>AO a v=0/\v∉a.vs
variable{a:Acc}{b:Bal}{c:Cmd}{dr qs rs:List Rk}{i j n s:Nat}{l:List Cmd}{p:Nod}{r:Rk}{v:Vt}{vs:List Vt}
theorem Rk.ok.err(h:Rk.ok a r):Rk.err a r=0:=by cases r<;>exact h.1
def BD(rs:List Rk):Acc:=rs.foldl Rk.ap a0
theorem BQ(rs:List Rk)(r:Rk):BD (rs++[r])=Rk.ap (BD rs) r:=by unfold BD;rw[lM];rfl
def AW(rs:List Rk):Prop:=∀ i r,rs[i]?=some r->Rk.ok (BD (rs.take i)) r
theorem AW.nil:AW []:=λi r h=>by simp at h
theorem AW.left(h:AW (rs++qs)):AW rs:=λi r e=>by
 have hi:=(P'.1 e).1;have:=h i r (by rw[iE hi];exact e)
 rwa [iT (by omega)]at this
theorem AW.pre(h:AW qs)(hp:rs <+: qs):AW rs:=by obtain⟨x,rfl⟩:=hp;exact h.left
theorem AW.snoc(h:AW rs)(he:Rk.ok (BD rs) r):AW (rs++[r]):=λi q e=>by
 rcases jd i rs.length with hi|hi
 .rw[iE hi]at e
  rw[iT (by omega)];exact h i q e
 .have:=(P'.1 e).1;rw[M',ke]at this
  obtain rfl:i=rs.length:=by omega
  rw[iH (A' _)]at e
  simp at e;subst e;rw[iT (A' _),jO];exact he
theorem AW.last(h:AW (rs++[r])):Rk.ok (BD rs) r:=by
 have:=h rs.length r (by simp)
 rwa [iT (A' _),jO]at this
theorem AW.ind{P:List Rk->Prop}(h0:P [])(hs:∀ rs r,AW rs->Rk.ok (BD rs) r->P rs->P (rs++[r]))(h:AW rs):P rs:=by
 have:∀ k,k<=rs.length->P (rs.take k):=by
  intro k;induction k with
  | zero=>intro _;exact h0
  | succ k ih =>
   intro hk;have e:rs.take (k+1)=rs.take k++[rs[k]]:=by rw[iI (by omega)]
   rw[e];exact hs _ _ (h.pre (ks _ _)) (h k _ (E' (by omega))) (ih (by omega))
 have:=this rs.length (A' _)
 rwa [jO]at this
theorem An.prm(h:An a)(hb:Ab b)(hl:¬ b.lt a.p):An ⟨b,a.vs⟩:=by
 refine⟨.inl hb,λv hv=>⟨(h.2.1 v hv).1,λg=>?_⟩,h.2.2⟩;have h1:=(h.2.1 v hv).1.2.1;have h2:=(h.2.1 v hv).2;rw[I3 hb.pr h1.pr]at g
 rw[I3 h.1 h1.pr]at h2
 rw[I3 hb.pr h.1]at hl
 omega
theorem An.vot(h:An a)(hv:Ak v)(hl:¬ v.b.lt a.p):An ⟨v.b,AZ a.vs v⟩:=by
 refine⟨.inl hv.2.1,λu hu=>?_,I1 v h.2.2⟩;rcases(Cv h.2.2).1 hu with rfl|⟨hu,_⟩
 .refine⟨hv,λg=>?_⟩;change u.b.lt u.b at g;unfold Bal.lt at g;omega
 .exact(h.prm hv.2.1 hl).2.1 u hu
theorem JK:An a0:=⟨.inr ⟨rfl,rfl⟩,λv hv=>(H' hv).elim,trivial⟩
theorem Rk.may(h:An a)(he:Rk.err a r=0):An (Rk.ap a r):=by
 cases r with
 | pr b=>have:=Dc he;exact h.prm this.2.1 this.2.2
 | vt v=>have:=AG he;exact h.vot this.2.1 this.2.2
theorem AW.acc(h:AW rs):An (BD rs):=h.ind (P:=λrs=>An (BD rs)) JK λrs r _ he ih=>by rw[BQ];exact Rk.may ih he.err
theorem BJ{a:Bal}(ha:Aw a)(hb:Aw b)(h:¬ a.lt b):b.key<=a.key:=by rw[I3 ha hb]at h;omega
theorem Rk.rises(h:An a)(he:Rk.err a r=0):a.p.key<=(Rk.ap a r).p.key:=by
 cases r with
 | pr b=>have:=Dc he;exact BJ this.2.1.pr h.1 this.2.2
 | vt v=>have:=AG he;exact BJ this.2.1.2.1.pr h.1 this.2.2
theorem PF(h:AW rs):∀ v∈(BD rs).vs,Rk.vt v∈rs:=h.ind (P:=λrs=>∀ v∈(BD rs).vs,Rk.vt v∈rs) (λv hv=>by cases hv) λrs r hk he ih v hv=>by
 rw[BQ]at hv
 cases r with
 | pr b=>exact iU _ (ih v hv)
 | vt u =>
  rcases(Cv hk.acc.2.2).1 hv with rfl|⟨hv,_⟩
  .exact jf _ U'
  .exact iU _ (ih v hv)
theorem An.le(h:An a)(hv:v∈a.vs):v.b.key<=a.p.key:=BJ h.1 (h.2.1 v hv).1.2.1.pr (h.2.1 v hv).2
theorem KD(h:An a)(he:AO a v=0){u:Vt}(hu:u∈a.vs):∃ x∈AZ a.vs v,x.slot=u.slot/\u.b.key<=x.b.key:=by
 have hz:=AG he;by_cases e:u.slot=v.slot
 .exact⟨v,(Cv h.2.2).2 (.inl rfl),e.symm,i6 (h.le hu) (BJ hz.2.1.2.1.pr h.1 hz.2.2)⟩
 .exact⟨u,(Cv h.2.2).2 (.inr ⟨hu,e⟩),rfl,jm _⟩
theorem XK(h:AW rs):∀ v,Rk.vt v∈rs->v.b.key<=(BD rs).p.key/\∃ u∈(BD rs).vs,u.slot=v.slot/\v.b.key<=u.b.key:=h.ind (P:=λrs=>∀ v,Rk.vt v∈rs->v.b.key<=(BD rs).p.key/\∃ u∈(BD rs).vs,u.slot=v.slot/\v.b.key<=u.b.key) (λv hv=>by cases hv) λrs r hk he ih v hv=>by
 have hr:=Rk.rises hk.acc he.err;rw[BQ];rcases V'.1 hv with hv|hv
 .obtain⟨h1,u,h2,h3,h4⟩:=ih v hv;refine⟨i6 h1 hr,?_⟩;cases r with
  | pr b=>exact⟨u,h2,h3,h4⟩
  | vt w =>
   obtain⟨x,x1,x2,x3⟩:=KD hk.acc he.err h2;exact⟨x,x1,x2.trans h3,i6 h4 x3⟩
 .rw[<- N'.1 hv]at he ⊢
  exact⟨jm _,v,(Cv hk.acc.2.2).2 (.inl rfl),rfl,jm _⟩
theorem E7(h:AW (rs++qs)):(BD rs).p.key<=(BD (rs++qs)).p.key/\∀ v,Rk.vt v∈qs->(BD rs).p.key<=v.b.key:=by
 have:∀ k,k<=qs.length->(BD rs).p.key<=(BD (rs++qs.take k)).p.key/\∀ v,Rk.vt v∈qs.take k->(BD rs).p.key<=v.b.key:=by
  intro k;induction k with
  | zero=>intro _;rw[jC,iV];exact⟨jm _,λv hv=>by cases hv⟩
  | succ k ih =>
   intro hk;obtain⟨h1,h2⟩:=ih (by omega);have e:qs.take (k+1)=qs.take k++[qs[k]]:=by rw[iI (by omega)]
   have hok:AW (rs++qs.take k++[qs[k]]):=h.pre (by rw[iD,<- e];exact List.prefix_append_right_inj rs |>.2 (ks _ _));have hr:=Rk.rises hok.left.acc hok.last.err;rw[<- BQ]at hr
   rw[e,<- iD];refine⟨i6 h1 hr,λv hv=>?_⟩;rcases V'.1 hv with hv|hv
   .exact h2 v hv
   .have hl:=hok.last;rw[<- N'.1 hv]at hl
    have hz:=AG hl.err;exact i6 h1 (BJ hz.2.1.2.1.pr hok.left.acc.1 hz.2.2)
 have:=this qs.length (A' _)
 rwa [jO]at this
def fl(rs:List Rk):List Int:=Az (rs.map Rk.body)
theorem Zi(rs:List Rk)(r:Rk):fl (rs++[r])=fl rs++AH r.body:=by unfold fl;rw[iK,Ci];simp[Az]
theorem QO(rs qs:List Rk):fl (rs++qs)=fl rs++fl qs:=by unfold fl;rw[iK,Ci]
theorem Wp(h:rs <+: qs):(fl rs).length<=(fl qs).length:=by obtain⟨x,rfl⟩:=h;rw[QO,M'];omega
theorem fp(h:rs <+: qs)(he:(fl qs).length<=(fl rs).length):rs=qs:=by
 obtain⟨x,rfl⟩:=h;rw[QO,M']at he
 have:=OP (x.map Rk.body);rw[iO]at this
 unfold fl at he;obtain rfl:x=[]:=iz (by omega);rw[iV]
theorem AW.chn(h:AW rs):Chn ((List.range (rs.length+1)).map λj=>BD (rs.take j)) (rs.map Rk.body):=by
 refine⟨by simp,by simp[BD],λi b a c hb ha hc=>?_⟩;simp only[iZ,jE]at hb ha hc;obtain⟨r,hr,rfl⟩:=hb;obtain⟨j,hj,rfl⟩:=ha;obtain⟨k,hk,rfl⟩:=hc;have hi:=(P'.1 hr).1;rw[jP (by omega)]at hj hk
 cases hj;cases hk;have he:=(h i r hr).err;have hq:rs[i]=r:=by rw[E' hi]at hr;exact jp hr
 rw[iI hi,BQ,hq];generalize BD (rs.take i)=a at he ⊢;cases r with
 | pr b=>show Dm a (Bk b)=_;rw[Wb a (Dc he).2.1];exact if_pos he
 | vt v=>show Dm a (Bd v)=_;rw[Wc a (AG he).2.1];exact if_pos he
structure TpU(p:Nod)(dr rs:List Rk):Prop where
 ok:AW rs
 pre:dr <+: rs
 d:p.d=fl rs
 sy:p.sy=((fl dr).length:Int)
 vo:p.vo=BD rs
 len:p.d.length<=100000
structure TpD(p:Nod)(dr:List Rk):Prop where
 ok:AW dr
 rcv:DR p.d=((fl dr).length,BD dr)
 tk:p.d.take (fl dr).length=fl dr
 sy:p.sy=(p.d.length:Int)
 len:p.d.length<=100000
theorem TpU.tap(h:TpU p dr rs):B2 p.d p.sy:=by
 have:=Wp h.pre;have:=h.d;refine⟨h.len,by rw[h.sy];omega,?_⟩;rw[h.sy,h.d];omega
theorem TpU.zero:TpU CT [] []:=⟨AW.nil,jx _,rfl,rfl,rfl,by decide⟩
theorem TpU.all(h:TpU p dr rs)(hs:¬ p.sy<(p.d.length:Int)):dr=rs:=fp h.pre (by rw[h.sy,h.d]at hs;omega)
theorem TpU.crash(h:TpU p dr rs){k:Int}(hk:0<=k):∃ dr',dr <+: dr'/\dr' <+: rs/\TpD (p.crash k) dr':=by
 have hT:=h.tap;have hc:Hi p.d p.sy k=0:=by unfold Hi;rw[if_neg (λe=>e hT),if_neg (by omega)]
 have hT':=hT;unfold B2 at hT';have hN:p.sy<=Fy p.d p.sy k/\Fy p.d p.sy k<=(p.d.length:Int):=by unfold Fy;split<;>omega
 obtain⟨j,a,h1,h2,h3,h4,h5⟩:=h.ok.chn.torn (Fy p.d p.sy k).toNat;rw[iO]at h1 h5
 rw[iZ,jP (by omega)]at h2
 obtain rfl:BD (rs.take j)=a:=by simpa using h2
 have hfj:Az ((rs.map Rk.body).take j)=fl (rs.take j):=by unfold fl;rw[lx]
 rw[hfj]at h3 h4
 have hd:(p.crash k).d=(fl rs).take (Fy p.d p.sy k).toNat:=by
  unfold Nod.crash;rw[if_neg (λe=>e hc)];show Jz p.d p.sy k=_;unfold Jz;rw[if_pos hc,h.d]
 have hs:(p.crash k).sy=Fy p.d p.sy k:=by
  unfold Nod.crash;rw[if_neg (λe=>e hc)];show J0 p.d p.sy k=_;unfold J0;rw[if_pos hc]
 have hl:((fl rs).take (Fy p.d p.sy k).toNat).length=(Fy p.d p.sy k).toNat:=by rw[X',<- h.d];omega
 refine⟨rs.take j,?_,ks _ _,h.ok.pre (ks _ _),by rw[hd];exact h3,?_,?_,?_⟩
 .obtain⟨x,hx⟩:=h.pre;rcases jd j dr.length with g|g
  .exfalso;rcases h5 with h5|h5
   .rw[<- hx,M']at h5;omega
   .have hp:rs.take (j+1) <+: dr:=by rw[<- hx,iT (by omega)];exact ks _ _
    have:=Wp hp;rw[show Az ((rs.map Rk.body).take (j+1))=fl (rs.take (j+1))by unfold fl;rw[lx]]at h5
    have:=h.sy;omega
  .rw[<- hx,List.take_append];rw[iG g];exact ka _ _
 .rw[hd,jU,jw h4];have e:fl rs=fl (rs.take j)++fl (rs.drop j):=by rw[<- QO,jg]
  rw[show(fl rs).take (fl (rs.take j)).length=(fl (rs.take j)++fl (rs.drop j)).take (fl (rs.take j)).length by rw[<- e],iT (A' _),jO]
 .rw[hs,hd,hl];omega
 .rw[hd,hl];have:=h.len;omega
theorem TpD.start(h:TpD p dr):TpU p.start dr dr:=by
 have hT:B2 p.d p.sy:=⟨h.len,by rw[h.sy];omega,by rw[h.sy];omega⟩;have e0:De p.d p.sy=0:=if_pos hT;have e1:LW p.d p.sy=((fl dr).length:Int):=by unfold LW;rw[if_pos hT,h.rcv]
 have e2:FF p.d p.sy=BD dr:=by unfold FF;rw[if_pos hT,h.rcv]
 have hle:=SY p.d;rw[h.rcv]at hle
 have hle:(fl dr).length<=p.d.length:=hle;have hlen:=h.len;unfold Nod.start;rw[if_neg (λe=>e e0),e1,e2];split
 .rename_i hlt
  have e3:I8 p.d p.sy=fl dr:=by unfold I8;rw[if_pos hT,h.rcv];exact h.tk
  have e4:Le p.d p.sy=((fl dr).length:Int):=by unfold Le;rw[if_pos hT,h.rcv];exact if_pos (by rw[h.sy];exact hlt)
  exact⟨h.ok,jx _,e3,e4,rfl,by show(I8 p.d p.sy).length<=_;rw[e3];omega⟩
 .rename_i hge
  have e3:p.d=fl dr:=by have:=h.tk;rwa [iG (by omega)]at this
  exact⟨h.ok,jx _,e3,by show p.sy=_;rw[h.sy,<- e3],rfl,hlen⟩
theorem TpU.syn(h:TpU p dr rs):TpU { p with sy:=(p.d.length:Int) } rs rs:=⟨h.ok,jx _,h.d,by show(p.d.length:Int)=_;rw[h.d],h.vo,h.len⟩
def Nod.tv(p:Nod)(d:List Int)(s:Int)(a:Acc):Nod:={ p with d:=d,sy:=s,vo:=a }
theorem TpU.write(h:TpU p dr rs)(he:Rk.ok p.vo r)(hl:p.d.length+(r.body.length+5)<=100000):TpU (p.tv (p.d++AH r.body) p.sy (Rk.ap p.vo r)) dr (rs++[r]):=by
 rw[h.vo]at he
 refine⟨h.ok.snoc he,h.pre.trans (ka _ _),?_,h.sy,?_,?_⟩
 .show p.d++_=_;rw[h.d,Zi]
 .show Rk.ap p.vo r=_;rw[h.vo,BQ]
 .show(p.d++AH r.body).length<=_;rw[M',Bq];omega
theorem TpU.promise(h:TpU p dr rs)(b:Bal):((p.promise b).2.2≠0/\(p.promise b).1=p) \/
  ((p.promise b).2.2=0/\BN p.vo b=0/\(p.promise b).2.1=p.vo.vs/\∃ rs',rs <+: rs'/\TpU (p.promise b).1 dr rs'/\(∀ v,Rk.vt v∈rs'↔Rk.vt v∈rs)/\(BD rs').p=b/\(BD rs').vs=p.vo.vs/\∃ d a,(p.promise b).1=p.tv d p.sy a):=by
 unfold Nod.promise;split
 .rename_i h1;exact .inl ⟨h1,rfl⟩
 .rename_i h1
  have h1:=iQ.1 h1;split
  .rename_i h2
   refine .inr ⟨rfl,h1,rfl,rs,jx _,?_,λ_=>Iff.rfl,?_,?_,p.d,p.vo,?_⟩
   .rw[h2];exact h
   .rw[<- h.vo];exact h2.symm
   .rw[<- h.vo]
   .rw[h2];rfl
  .rename_i h2
   split
   .rename_i h3;exact .inl ⟨h3,rfl⟩
   .rename_i h3
    have h3:=iQ.1 h3;have hw:=Nc h3;have e1:FU p.d p.sy (Ab b) (Bk b)=p.d++AH (Bk b):=if_pos h3;have e2:Hb p.d p.sy (Ab b) (Bk b)=p.sy:=if_pos h3;rw[e1,e2];refine .inr ⟨rfl,h1,rfl,rs++[Rk.pr b],ka _ _,(h.write (r:=.pr b) ⟨h1,λe=>h2 e.symm⟩ hw.2.1),λv=>by simp,?_,?_,_,_,rfl⟩
    .rw[BQ];rfl
    .rw[BQ,h.vo];rfl
theorem Uc{l:List Vt}(h:B1 l)(hv:v∈l):AZ l v=l:=by
 induction l with
 | nil=>cases hv
 | cons u us ih =>
  rw[AZ];rcases iF.1 hv with rfl|hv
  .rw[if_neg (Int.lt_irrefl _),if_pos rfl]
  .rw[if_pos (h.1 v hv),ih h.2 hv]
theorem TpU.vote(h:TpU p dr rs)(v:Vt):((p.vote v).2≠0/\(p.vote v).1=p) \/
  ((p.vote v).2=0/\AO p.vo v=0/\∃ rs',rs <+: rs'/\TpU (p.vote v).1 dr rs'/\(∀ u,Rk.vt u∈rs'↔u=v\/Rk.vt u∈rs)/\(BD rs').p=v.b/\∃ d a,(p.vote v).1=p.tv d p.sy a):=by
 unfold Nod.vote;split
 .rename_i h1;exact .inl ⟨h1,rfl⟩
 .rename_i h1
  have h1:=iQ.1 h1;have hz:=AG h1;split
  .rename_i h2
   have hle:=hz.1.le h2;have hge:=BJ hz.2.1.2.1.pr hz.1.1 hz.2.2;have e:v.b=p.vo.p:=Hr hz.2.1.2.1.pr hz.1.1 (by omega);have e2:(⟨v.b,AZ p.vo.vs v⟩:Acc)=p.vo:=by rw[Uc hz.1.2.2 h2,e]
   rw[e2];refine .inr ⟨rfl,h1,rs,jx _,h,λu=>⟨.inr,λhu=>?_⟩,by rw[<- h.vo];exact e.symm,p.d,p.vo,rfl⟩;rcases hu with rfl|hu
   .exact PF h.ok u (by rw[<- h.vo];exact h2)
   .exact hu
  .rename_i h2
   split
   .rename_i h3;exact .inl ⟨h3,rfl⟩
   .rename_i h3
    have h3:=iQ.1 h3;have hw:=Nc h3;have e1:FU p.d p.sy (Ak v) (Bd v)=p.d++AH (Bd v):=if_pos h3;have e2:Hb p.d p.sy (Ak v) (Bd v)=p.sy:=if_pos h3;rw[e1,e2];refine .inr ⟨rfl,h1,rs++[Rk.vt v],ka _ _,h.write (r:=.vt v) ⟨h1,h2⟩ hw.2.1,λu=>?_,by rw[BQ];rfl,_,_,rfl⟩;rw[V',N'];exact⟨λg=>g.elim .inr λe=>.inl (Rk.vt.inj e),λg=>g.elim (λe=>.inr (by rw[e])) .inl⟩
structure Gs where
 dr:Nat->List Rk
 W:Bal->Nat->Cmd->Prop
def Gs.held(σ:Gs)(n:Nat)(v:Vt):Prop:=Rk.vt v∈σ.dr n
def Gs.H(σ:Gs)(n s:Nat)(b:Int)(c:Cmd):Prop:=∃ v,σ.held n v/\v.slot=(s:Int)/\v.b.key=b/\v.w=c
def Gs.P(σ:Gs)(n:Nat):Int:=(BD (σ.dr n)).p.key
def Gs.vok(σ:Gs)(v:Vt):Prop:=Ak v/\σ.W v.b v.slot.toNat v.w
def Gs.chs(σ:Gs)(s:Nat)(c:Cmd):Prop:=∃ b,Ch σ.H s b c
structure GsI(σ:Gs):Prop where
 ok:∀ n,AW (σ.dr n)
 pinv:PInv σ.H σ.P
 w1:∀ b s c c',σ.W b s c->σ.W b s c'->c=c'
 w2:∀ b s c,σ.W b s c->Ab b/\D6 σ.H σ.P s b.key c
 w3:∀ b s c,σ.W b s c->b.key<=σ.P b.n.toNat
 hv:∀ n v,σ.held n v->σ.vok v
structure Gs.le(σ τ:Gs):Prop where
 pre:∀ n,σ.dr n <+: τ.dr n
 W:∀ b s c,σ.W b s c->τ.W b s c
theorem Gs.le.refl(σ:Gs):σ.le σ:=⟨λ_=>jx _,λ_ _ _ h=>h⟩
variable{σ τ:Gs}
theorem Gs.le.trans{υ:Gs}(h:σ.le τ)(k:τ.le υ):σ.le υ:=⟨λn=>(h.pre n).trans (k.pre n),λb s c g=>k.W b s c (h.W b s c g)⟩
theorem Gs.le.held(h:σ.le τ)(g:σ.held n v):τ.held n v:=(h.pre n).subset g
theorem Gs.le.H(h:σ.le τ){b:Int}(g:σ.H n s b c):τ.H n s b c:=by obtain⟨v,h1,h2⟩:=g;exact⟨v,h.held h1,h2⟩
theorem Gs.le.vok(h:σ.le τ)(g:σ.vok v):τ.vok v:=⟨g.1,h.W _ _ _ g.2⟩
theorem Gs.le.chs(h:σ.le τ)(g:σ.chs s c):τ.chs s c:=by obtain⟨b,Q,h1,h2⟩:=g;exact⟨b,Q,h1,λq hq hQ=>h.H (h2 q hq hQ)⟩
theorem Gs.le.P(h:σ.le τ)(hI:GsI τ)(n:Nat):σ.P n<=τ.P n:=by
 obtain⟨x,hx⟩:=h.pre n;have:=hI.ok n;unfold Gs.P;rw[<- hx]at this ⊢
 exact(E7 this).1
structure Gs.by_(i:Nat)(σ τ:Gs):Prop where
 le:σ.le τ
 new:∀ b s c,τ.W b s c->σ.W b s c\/b.n=(i:Int)
 oth:∀ n,n≠i->τ.dr n=σ.dr n
theorem Gs.by_.refl(i:Nat)(σ:Gs):Gs.by_ i σ σ:=⟨.refl σ,λ_ _ _ h=>.inl h,λ_ _=>rfl⟩
def Gs.ext(σ:Gs)(i:Nat)(qs:List Rk):Gs:=⟨upN σ.dr i (σ.dr i++qs),σ.W⟩
theorem GC(σ:Gs)(i:Nat)(qs:List Rk):(σ.ext i qs).dr i=σ.dr i++qs:=Es _ _ _
theorem Kw(σ:Gs)(qs:List Rk)(h:n≠i):(σ.ext i qs).dr n=σ.dr n:=FP _ _ h
theorem Ns(σ:Gs)(i:Nat)(qs:List Rk):Gs.by_ i σ (σ.ext i qs):=⟨⟨λn=>by
 by_cases e:n=i
 .subst e;rw[GC];exact ka _ _
 .rw[Kw σ qs e];exact jx _,λ_ _ _ h=>h⟩,λ_ _ _ h=>.inl h,λn h=>Kw σ qs h⟩
theorem ON(σ:Gs)(i:Nat)(r:Rk):(σ.ext i [r]).P=upP σ.P i (Rk.ap (BD (σ.dr i)) r).p.key:=by
 funext n
 unfold Gs.P upP;split
 .rename_i e;subst e;rw[GC,BQ]
 .rename_i e;rw[Kw σ _ e]
theorem Hp:(σ.ext i qs).held n v↔σ.held n v\/(n=i/\Rk.vt v∈qs):=by
 unfold Gs.held;by_cases e:n=i
 .subst e;rw[GC,V'];simp
 .rw[Kw σ qs e];simp[e]
theorem GsI.ext1(h:GsI σ)(he:Rk.ok (BD (σ.dr i)) r)(hv:∀ v,r=.vt v->σ.vok v):GsI (σ.ext i [r]):=by
 have hacc:=(h.ok i).acc;have hris:=Rk.rises hacc he.err;have hle:=(Ns σ i [r]).le;have hok:∀ n,AW ((σ.ext i [r]).dr n):=λn=>by
  by_cases e:n=i
  .subst e;rw[GC];exact(h.ok n).snoc he
  .rw[Kw σ _ e];exact h.ok n
 have hPi:σ.P i<=(Rk.ap (BD (σ.dr i)) r).p.key:=hris;have hP:∀ n,σ.P n<=(σ.ext i [r]).P n:=λn=>by rw[ON];exact Lv hPi n
 have hhv:∀ n v,(σ.ext i [r]).held n v->(σ.ext i [r]).vok v:=λn v g=>by
  rcases Hp.1 g with g|⟨_,g⟩
  .exact hle.vok (h.hv n v g)
  .exact hle.vok (hv v (N'.1 g).symm)
 cases r with
 | pr b =>
  have hH:(σ.ext i [.pr b]).H=σ.H:=by
   funext n s b' c
   exact propext ⟨λ⟨v,g,k⟩=>⟨v,(Hp.1 g).resolve_right λe=>by simp at e,k⟩,λ⟨v,g,k⟩=>⟨v,hle.held g,k⟩⟩
  refine⟨hok,?_,h.w1,λb' s c g=>⟨(h.w2 b' s c g).1,?_⟩,λb' s c g=>i6 (h.w3 b' s c g) (hP _),hhv⟩
  .rw[hH,ON];exact h.pinv.promise hPi
  .rw[hH,ON];exact(h.w2 b' s c g).2.up hPi
 | vt v =>
  obtain⟨hm,hW⟩:=hv v rfl;have hs:v.slot=(v.slot.toNat:Int):=by have:=hm.1;omega
  have hH:(σ.ext i [.vt v]).H=cI σ.H i v.slot.toNat v.b.key v.w:=by
   funext n s b' c
   refine propext ⟨λ⟨u,g,k1,k2,k3⟩=>?_,λg=>?_⟩
   .rcases Hp.1 g with g|⟨g1,g2⟩
    .exact .inl ⟨u,g,k1,k2,k3⟩
    .have e:u=v:=Rk.vt.inj (N'.1 g2);subst e;exact .inr ⟨g1,by omega,k2.symm,k3.symm⟩
   .rcases g with⟨u,g,k⟩|⟨rfl,rfl,rfl,rfl⟩
    .exact⟨u,hle.held g,k⟩
    .exact⟨v,Hp.2 (.inr ⟨rfl,N'.2 rfl⟩),hs,rfl,rfl⟩
  refine⟨hok,?_,h.w1,λb' s c g=>⟨(h.w2 b' s c g).1,?_⟩,λb' s c g=>i6 (h.w3 b' s c g) (hP _),hhv⟩
  .rw[hH,ON];refine h.pinv.vote hPi (by have:=hm.2.1.pos;show 0<v.b.key;omega) (h.w2 _ _ _ hW).2 λm c' ⟨u,g,k1,k2,k3⟩=>?_;have hu:=h.hv m u g;have e:u.b=v.b:=Hr hu.1.2.1.pr hm.2.1.pr k2;have h2:=hu.2;rw[e,show u.slot.toNat=v.slot.toNat by omega,k3]at h2
   exact h.w1 _ _ _ _ h2 hW
  .rw[hH,ON];exact(h.w2 b' s c g).2.vote hPi
theorem Ze(σ:Gs)(i:Nat)(r:Rk)(qs:List Rk):(σ.ext i [r]).ext i qs=σ.ext i (r::qs):=by unfold Gs.ext;simp only[Es,Tl,iD,List.singleton_append]
theorem GsI.ext(h:GsI σ)(qs:List Rk)(hk:AW (σ.dr i++qs))(hv:∀ v,Rk.vt v∈qs->σ.vok v):GsI (σ.ext i qs):=by
 induction qs generalizing σ with
 | nil =>
  have:σ.ext i []=σ:=by unfold Gs.ext;rw[iV,Lu]
  rw[this];exact h
 | cons r qs ih =>
  rw[<- Ze];have h1:AW (σ.dr i++[r]):=hk.pre ⟨qs,by simp⟩;refine ih (h.ext1 h1.last λv e=>hv v (by rw[e];exact U')) ?_ λv g=>(Ns σ i [r]).le.vok (hv v (Q' _ g));rw[GC,iD];exact hk
structure PrmOk(dr:List Rk)(b:Bal)(vs:List Vt):Prop where
 le:b.key<=(BD dr).p.key
 sub:∀ v∈vs,Rk.vt v∈dr/\v.b.key<=b.key
 dom:∀ v,Rk.vt v∈dr->v.b.key<b.key->∃ u∈vs,u.slot=v.slot/\v.b.key<=u.b.key
 acc:An ⟨b,vs⟩
theorem PrmOk.mono(h:PrmOk dr b vs)(hp:dr <+: rs)(hk:AW rs):PrmOk rs b vs:=by
 obtain⟨x,rfl⟩:=hp;have hr:=E7 hk;refine⟨i6 h.le hr.1,λv hv=>⟨iU _ (h.sub v hv).1,(h.sub v hv).2⟩,λv hv hlt=>?_,h.acc⟩;rcases V'.1 hv with hv|hv
 .exact h.dom v hv hlt
 .have:=hr.2 v hv;have:=h.le;omega
theorem PrmOk.of(hk:AW rs)(hb:(BD rs).p=b)(hv:(BD rs).vs=vs):PrmOk rs b vs:=by
 subst hb hv;exact⟨jm _,λv hv=>⟨PF hk v hv,hk.acc.le hv⟩,λv hv _=>(XK hk v hv).2,hk.acc⟩
structure RdI(σ:Gs)(i:Nat)(r:Rnd):Prop where
 bal:r.bal=Ca\/(Ab r.bal/\r.bal.n=(i:Int))
 next:∀ s c,σ.W r.bal s c->s<r.next
 own:∀ j,j<5->r.pro j=true->r.bal.key<=σ.P i
 heard:∀ j,j<5->∀ v∈(r.heard j).vs,σ.held j v/\v.b.key<=r.bal.key/\(r.pro j=false->v.b=r.bal)
 prom:∀ j,j<5->r.pro j=true->r.bal.key<=σ.P j/\∀ v,σ.held j v->v.b.key<r.bal.key->∃ u∈(r.heard j).vs,u.slot=v.slot/\v.b.key<=u.b.key
 acc:∀ j,j<5->An (r.heard j)/\(r.pro j=true->(r.heard j).p=r.bal)
def PnI(σ:Gs)(rs:List Rk)(r:Rnd):Pend->Prop
 | .began b vs=>PrmOk rs b vs/\b.key<=r.bal.key
 | .prom _ b vs=>PrmOk rs b vs/\b.key<=σ.P b.n.toNat
 | .voted _ v=>Rk.vt v∈rs
 | .prop v=>Rk.vt v∈rs
 | .refuse _ b=>Aw b/\b.key<=(BD rs).p.key
 | _=>True
structure UpI(σ:Gs)(i:Nat)(p:Nod)(rs:List Rk):Prop where
 tp:TpU p (σ.dr i) rs
 vok:∀ v,Rk.vt v∈rs->σ.vok v
 rd:RdI σ i p.rnd
 bp:p.rnd.bal.key<=p.vo.p.key
 pe:∀ q∈p.pend,PnI σ rs p.rnd q
def AgL(σ:Gs)(l:List Cmd)(k:Nat):Prop:=∀ s c,l[s]?=some c->σ.chs (k+s) c
structure NdI(σ:Gs)(i:Nat)(p:Nod):Prop where
 up:p.up=true->∃ rs,UpI σ i p rs
 dn:p.up=false->TpD p (σ.dr i)
 ag:AgL σ p.agreed 0
structure LtI(σ:Gs)(l:Let):Prop where
 k0:l.kind=0->l.bal.key<=σ.P l.bal.n.toNat
 k1:l.kind=1->PrmOk (σ.dr l.src) l.bal l.votes/\l.bal.key<=σ.P l.bal.n.toNat/\AgL σ l.what 0
 k2:l.kind=2->Aw l.bal/\l.bal.key<=σ.P l.src
 k3:l.kind=3->σ.vok l.vote
 k4:l.kind=4->σ.held l.src l.vote
 k5:l.kind=5->AgL σ l.what l.slot
structure AgI(σ:Gs)(M:Meet):Prop where
 gs:GsI σ
 nd:∀ i,i<5->NdI σ i (M.node i)
 lt:∀ l∈M.lets,LtI σ l
theorem AgL.mono(h:σ.le τ){k:Nat}(g:AgL σ l k):AgL τ l k:=λs c e=>h.chs (g s c e)
theorem RdI.mono(h:σ.le τ)(hI:GsI τ){r:Rnd}(g:RdI σ i r)(hn:∀ s c,τ.W r.bal s c->s<r.next):RdI τ i r:=by
 refine⟨g.bal,hn,λj hj hp=>i6 (g.own j hj hp) (h.P hI i),λj hj v hv=>⟨h.held (g.heard j hj v hv).1,(g.heard j hj v hv).2⟩,λj hj hp=>⟨i6 (g.prom j hj hp).1 (h.P hI j),λv hv hlt=>?_⟩,g.acc⟩;obtain⟨x,hx⟩:=h.pre j;have hk:=hI.ok j;have hv':Rk.vt v∈τ.dr j:=hv;rw[<- hx]at hk hv'
 rcases V'.1 hv' with hv'|hv'
 .exact(g.prom j hj hp).2 v hv' hlt
 .have h1:=(E7 hk).2 v hv';have h2:=(g.prom j hj hp).1;have h3:σ.P j<=v.b.key:=h1;omega
theorem PnI.mono(h:σ.le τ)(hI:GsI τ){rs':List Rk}(hp:rs <+: rs')(hk:AW rs'){r r':Rnd}(hr:r.bal.key<=r'.bal.key){q:Pend}(g:PnI σ rs r q):PnI τ rs' r' q:=by
 cases q with
 | began b vs=>exact⟨g.1.mono hp hk,i6 g.2 hr⟩
 | prom to b vs=>exact⟨g.1.mono hp hk,i6 g.2 (h.P hI _)⟩
 | voted to v=>exact hp.subset g
 | prop v=>exact hp.subset g
 | refuse to b=>obtain⟨x,rfl⟩:=hp;exact⟨g.1,i6 g.2 (E7 hk).1⟩
 | _=>trivial
theorem NdI.mono(h:Gs.by_ i σ τ)(hI:GsI τ)(hσ:GsI σ)(hj:j≠i)(g:NdI σ j p):NdI τ j p:=by
 have e:=h.oth j hj;refine⟨λhu=>?_,λhd=>by rw[e];exact g.dn hd,g.ag.mono h.le⟩;obtain⟨rs,k⟩:=g.up hu;refine⟨rs,by rw[e];exact k.tp,λv hv=>h.le.vok (k.vok v hv),k.rd.mono h.le hI λs c hW=>?_,k.bp,λq hq=>(k.pe q hq).mono h.le hI (jx _) k.tp.ok (jm _)⟩;rcases h.new _ _ _ hW with hW|hW
 .exact k.rd.next s c hW
 .rcases k.rd.bal with hb|⟨_,hb⟩
  .have:=(hI.w2 _ _ _ ‹_›).1;rw[hb]at this
   exact absurd this (by decide)
  .rw[hb]at hW;omega
theorem LtI.mono(h:σ.le τ)(hI:GsI τ){l:Let}(g:LtI σ l):LtI τ l :=
 ⟨λe=>i6 (g.k0 e) (h.P hI _),λe=>⟨(g.k1 e).1.mono (h.pre _) (hI.ok _),i6 (g.k1 e).2.1 (h.P hI _),(g.k1 e).2.2.mono h⟩,λe=>⟨(g.k2 e).1,i6 (g.k2 e).2 (h.P hI _)⟩,λe=>h.vok (g.k3 e),λe=>h.held (g.k4 e),λe=>(g.k5 e).mono h⟩
theorem AgI.set{M:Meet}(h:AgI σ M)(hb:Gs.by_ i σ τ)(hI:GsI τ)(hp:NdI τ i p){ls:List Let}(hl:∀ l∈ls,l∈M.lets\/LtI τ l)(ts:List Tol):AgI τ (M.set i p ls ts) :=
 ⟨hI,λj hj=>by
  show NdI τ j (upN M.node i p j);unfold upN;split
  .rename_i e;rw[e];exact hp
  .rename_i e;exact(h.nd j hj).mono hb hI h.gs e,λl hm=>(hl l hm).elim (λk=>(h.lt l k).mono hb.le hI) id⟩
theorem YA{r:Rnd}(h:∀ j,j<5->∀ v∈(r.heard j).vs,σ.held j v)(he:CZ r.accs (s:Int)=0):σ.chs s (Cu r.accs (s:Int)):=by
 have hC:Cu r.accs (s:Int)=((Hg (Ek r.accs (s:Int)) r.accs.length).map (·.w)).getD ⟨0,0,0,0,0⟩:=if_pos he;unfold CZ at he;split at he
 .cases he
 .split at he
  .cases he
  .rename_i hA
   have hA:=iQ.1 hA;split at he
   .rename_i hO
    obtain⟨v,hv⟩:=kw.1 hO;rw[hC,hv];have hp:=List.find?_some hv;have h5:5<2*BK (Ek r.accs (s:Int)) v:=jb hp;have e:Ek r.accs (s:Int)=Af (r.heard 0).vs (s:Int)++(Af (r.heard 1).vs (s:Int)++(Af (r.heard 2).vs (s:Int)++(Af (r.heard 3).vs (s:Int)++Af (r.heard 4).vs (s:Int)))):=by
     unfold Ek Rnd.accs Af;simp[List.filter_append]
    rw[e,ET,ET,ET,ET]at h5
    have hR:∀ j,j<5->B1 (r.heard j).vs:=λj hj=>(hA (r.heard j) (by unfold Rnd.accs;rcases five hj with rfl|rfl|rfl|rfl|rfl<;>simp)).2.2;have g0:=Hx (hR 0 (by omega)) (s:Int) v;have g1:=Hx (hR 1 (by omega)) (s:Int) v;have g2:=Hx (hR 2 (by omega)) (s:Int) v;have g3:=Hx (hR 3 (by omega)) (s:Int) v;have g4:=Hx (hR 4 (by omega)) (s:Int) v;refine⟨v.b.key,λq=>decide (v∈(r.heard q).vs/\v.slot=(s:Int)),?_,λq hq hqQ=>?_⟩
    .show 3<=(decide (v∈(r.heard 0).vs/\v.slot=(s:Int))).toNat+(decide (v∈(r.heard 1).vs/\v.slot=(s:Int))).toNat+(decide (v∈(r.heard 2).vs/\v.slot=(s:Int))).toNat+(decide (v∈(r.heard 3).vs/\v.slot=(s:Int))).toNat+(decide (v∈(r.heard 4).vs/\v.slot=(s:Int))).toNat;omega
    .obtain⟨h1,h2⟩:=jb hqQ;exact⟨v,h q hq v h1,h2,rfl,rfl⟩
   .cases he
theorem AgL.snoc(h:AgL σ l 0)(hc:σ.chs l.length c):AgL σ (l++[c]) 0:=λs d e=>by
 rcases jd s l.length with g|g
 .rw[iE g]at e;exact h s d e
 .have:=(P'.1 e).1;rw[M',ke]at this
  obtain rfl:s=l.length:=by omega
  rw[iH (A' _)]at e
  simp at e;subst e;rw[iX];exact hc
theorem SL{r:Rnd}(h:∀ j,j<5->∀ v∈(r.heard j).vs,σ.held j v)(k:Nat)(hl:AgL σ l 0):AgL σ (KF k r l) 0:=by
 induction k generalizing l with
 | zero=>exact hl
 | succ k ih =>
  rw[KF];split
  .rename_i he;exact ih (hl.snoc (YA h he))
  .exact hl
theorem Pc{what:List Cmd}{slot:Nat}(hl:AgL σ l 0)(hw:AgL σ what slot)(hs:slot<=l.length):AgL σ (l++what.drop (l.length-slot)) 0:=λs c e=>by
 rcases jd s l.length with g|g
 .rw[iE g]at e;exact hl s c e
 .rw[iH g,jh]at e
  have:=hw _ c e
  rwa [show slot+(l.length-slot+(s-l.length))=0+s by omega]at this
theorem Ua(a:Acc)(l:List Vt):∀ v∈(CW a l).vs,v∈a.vs\/v∈l:=by
 induction l generalizing a with
 | nil=>exact λv hv=>.inl hv
 | cons u l ih =>
  intro v hv;rw[CW]at hv
  rcases ih _ v hv with h|h
  .by_cases he:AO a u=0
   .rw[if_pos he]at h
    have h:v∈BY a u:=h;rw[(Ff he).2]at h
    rcases(Cv (AG he).1.2.2).1 h with rfl|⟨h,_⟩
    .exact .inr U'
    .exact .inl h
   .rw[if_neg he]at h;exact .inl h
  .exact .inr (Q' _ h)
theorem TZ(a:Acc)(l:List Vt):∀ u∈a.vs,∃ x∈(CW a l).vs,x.slot=u.slot/\u.b.key<=x.b.key:=by
 induction l generalizing a with
 | nil=>exact λu hu=>⟨u,hu,rfl,jm _⟩
 | cons w l ih =>
  intro u hu;rw[CW];by_cases he:AO a w=0
  .rw[if_pos he];obtain⟨x,h1,h2,h3⟩:=KD (AG he).1 he hu;obtain⟨y,k1,k2,k3⟩:=ih ⟨BO a w,BY a w⟩ x (by show x∈BY a w;rw[(Ff he).2];exact h1);exact⟨y,k1,k2.trans h2,i6 h3 k3⟩
  .rw[if_neg he];exact ih a u hu
theorem TY(a:Acc)(l:List Vt)(ha:An a)(hp:a.p=b)(hl:∀ v∈l,v.b.key<=b.key):An (CW a l)/\(CW a l).p=b:=by
 induction l generalizing a with
 | nil=>exact⟨ha,hp⟩
 | cons u l ih =>
  rw[CW];by_cases he:AO a u=0
  .rw[if_pos he];have hz:=AG he;have e:u.b=b:=by
    have h1:=BJ hz.2.1.2.1.pr ha.1 hz.2.2;have h2:=hl u U';rw[hp]at h1
    exact Hr hz.2.1.2.1.pr (hp▸ha.1) (by omega)
   have e1:(⟨BO a u,BY a u⟩:Acc)=⟨u.b,AZ a.vs u⟩:=by rw[(Ff he).1,(Ff he).2]
   rw[e1];exact ih _ (ha.vot hz.2.1 hz.2.2) e λv hv=>hl v (Q' _ hv)
  .rw[if_neg he];exact ih a ha hp λv hv=>hl v (Q' _ hv)
theorem RdI.hear{r:Rnd}(h:RdI σ i r)(hp:PrmOk (σ.dr j) r.bal vs)(ho:r.bal.key<=σ.P i):RdI σ i (r.hear j vs):=by
 refine⟨h.bal,h.next,λ_ _ _=>ho,λk hk v hv=>?_,λk hk hq=>?_,λk hk=>?_⟩
 rotate_right
 .show An (upN r.heard j (CW ⟨r.bal,vs⟩ (r.heard j).vs) k)/\(upN r.pro j true k=true->(upN r.heard j (CW ⟨r.bal,vs⟩ (r.heard j).vs) k).p=r.bal);unfold upN;split
  .rename_i e;subst e
   have:=TY (b:=r.bal) ⟨r.bal,vs⟩ (r.heard k).vs hp.acc rfl λv hv=>(h.heard k hk v hv).2.1;exact⟨this.1,λ_=>this.2⟩
  .exact h.acc k hk
 .have hv:v∈(upN r.heard j (CW ⟨r.bal,vs⟩ (r.heard j).vs) k).vs:=hv;by_cases e:k=j
  .subst e;rw[Es]at hv
   rcases Ua _ _ v hv with g|g
   .exact⟨(hp.sub v g).1,(hp.sub v g).2,λe=>by rw[show(r.hear k vs).pro k=true from Es _ _ _]at e;cases e⟩
   .have:=h.heard k hk v g;exact⟨this.1,this.2.1,λe=>by rw[show(r.hear k vs).pro k=true from Es _ _ _]at e;cases e⟩
  .rw[FP _ _ e]at hv
   have:=h.heard k hk v hv;exact⟨this.1,this.2.1,λe'=>this.2.2 (by rwa [show(r.hear j vs).pro k=r.pro k from FP _ _ e]at e')⟩
 .by_cases e:k=j
  .subst e;refine⟨hp.le,λv hv hlt=>?_⟩;obtain⟨u,h1,h2,h3⟩:=hp.dom v hv hlt;obtain⟨x,k1,k2,k3⟩:=TZ ⟨r.bal,vs⟩ (r.heard k).vs u h1;exact⟨x,by show x∈(upN r.heard k _ k).vs;rw[Es];exact k1,k2.trans h2,i6 h3 k3⟩
  .rw[show(r.hear j vs).pro k=r.pro k from FP _ _ e]at hq
   have:=h.prom k hk hq;exact⟨this.1,λv hv hlt=>by
    obtain⟨u,h1,h2⟩:=this.2 v hv hlt;exact⟨u,by show u∈(upN r.heard j _ k).vs;rw[FP _ _ e];exact h1,h2⟩⟩
theorem RdI.count{r:Rnd}(h:RdI σ i r)(hb:v.b=r.bal)(he:AO (r.heard j) v=0)(hh:σ.held j v):RdI σ i { r with heard:=upN r.heard j ⟨BO (r.heard j) v,BY (r.heard j) v⟩ }:=by
 have hz:=AG he;have hL:BY (r.heard j) v=AZ (r.heard j).vs v:=(Ff he).2;refine⟨h.bal,h.next,h.own,λk hk u hu=>?_,λk hk hq=>⟨(h.prom k hk hq).1,λu hu hlt=>?_⟩,λk hk=>?_⟩
 rotate_right
 .show An (upN r.heard j ⟨BO (r.heard j) v,BY (r.heard j) v⟩ k)/\(r.pro k=true->(upN r.heard j ⟨BO (r.heard j) v,BY (r.heard j) v⟩ k).p=r.bal);unfold upN;split
  .rw[(Ff he).1,hL];exact⟨hz.1.vot hz.2.1 hz.2.2,λ_=>hb⟩
  .exact h.acc k hk
 .have hu:u∈(upN r.heard j ⟨BO (r.heard j) v,BY (r.heard j) v⟩ k).vs:=hu;by_cases e:k=j
  .subst e;rw[Es]at hu
   have hu:u∈BY (r.heard k) v:=hu;rw[hL]at hu
   rcases(Cv hz.1.2.2).1 hu with rfl|⟨hu,_⟩
   .exact⟨hh,by rw[hb];exact jm _,λ_=>hb⟩
   .exact h.heard k hk u hu
  .rw[FP _ _ e]at hu;exact h.heard k hk u hu
 .obtain⟨x,h1,h2,h3⟩:=(h.prom k hk hq).2 u hu hlt;by_cases e:k=j
  .subst e;obtain⟨y,k1,k2,k3⟩:=KD hz.1 he h1;exact⟨y,by show y∈(upN r.heard k _ k).vs;rw[Es];show y∈BY (r.heard k) v;rw[hL];exact k1,k2.trans h2,i6 h3 k3⟩
  .exact⟨x,by show x∈(upN r.heard j _ k).vs;rw[FP _ _ e];exact h1,h2,h3⟩
theorem UpI.keep{q:Nod}(h:UpI σ i p rs)(hd:q.d=p.d)(hs:q.sy=p.sy)(hv:q.vo=p.vo)(hr:RdI σ i q.rnd)(hb:q.rnd.bal=p.rnd.bal)(hp:∀ x∈q.pend,x∈p.pend\/PnI σ rs q.rnd x):UpI σ i q rs :=
 ⟨⟨h.tp.ok,h.tp.pre,hd.trans h.tp.d,hs.trans h.tp.sy,hv.trans h.tp.vo,by rw[hd];exact h.tp.len⟩,h.vok,hr,by rw[hb,hv];exact h.bp,λx hx=>(hp x hx).elim (λg=>by
  have:=h.pe x g;cases x<;>first|exact this|exact trivial|(refine⟨this.1,?_⟩;first|exact this.2|(rw[hb];exact this.2))) id⟩
theorem UpI.count(h:UpI σ i p rs)(ha:AgL σ p.agreed 0)(hh:σ.held j v):UpI σ i (p.count j v) rs/\AgL σ (p.count j v).agreed 0:=by
 unfold Nod.count;split
 .exact⟨h,ha⟩
 .rename_i hb
  have hb:=iQ.1 hb;split
  .exact⟨h,ha⟩
  .rename_i he
   have hr:=h.rd.count hb (iQ.1 he) hh;exact⟨h.keep rfl rfl rfl hr rfl λx hx=>.inl hx,SL (λj hj v hv=>(hr.heard j hj v hv).1) 41 ha⟩
end
end Go.Proofs.YtalbmmghmoggcacGreatDoor
