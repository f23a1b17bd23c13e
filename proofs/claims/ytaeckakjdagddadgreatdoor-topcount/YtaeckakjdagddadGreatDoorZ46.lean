/- Part 46 of the walk. -/
import Derived.Test.YtaeckakjdagddadGreatDoorZ45
set_option maxRecDepth 100000
set_option maxHeartbeats 4000000
open Go.Proofs.Tryz
set_option linter.unusedVariables false
namespace Go.Proofs.YtaeckakjdagddadGreatDoor
section
open Go.RowKit
theorem Zm{g:Gh}{w:World}{ly tv:S3}{ys:Nat→S3}{M:Meet}(h:OutF g w ly tv ys M):OutW w M ly tv ys:=⟨h.logs.rd,fun j hj=>(h.log j hj).rd.rc,h.told.rd⟩
theorem du{x:S3}{L:List Lac}{l:List (Lac × S3)}{w:World}(h:AcR w x L l)(ho:∀ a∈L,LacOk a)(hl:L.length≤100000)(hT:SR w){M:Meet}(hM:Br.acts L=M) :
  Calls prog 10 #[x.v] w fun e w'=>∃ (ly tv:S3) (ys:Nat→S3),e=.returned (.tuple #[.agg (K9 M ly tv),iv 0])∧OutW w' M ly tv ys∧OutN w.heap.size M ly tv ys∧Bw w w':=by
 subst hM;refine(ZF (h.sk (by omega)) (fun i hi=>by rw[Nd hi];exact ho _ (List.getElem_mem hi)) hl hT.1 hT.2.1 hT.2.2).mono ?_;rw[UR];rintro e w' ⟨hb,ly,tv,ys,h1,h2,h3⟩;exact⟨ly,tv,ys,h1,h2,h3,hb⟩
theorem dj{x:S3}{L:List Lac}{l:List (Lac × S3)}{w:World}(h:AcR w x L l)(ho:∀ a∈L,LacOk a)(hl:L.length≤100000)(hT:SR w){M:Meet}(hM:Br.acts L=M) :
  Calls prog 5 #[x.v] w fun e w'=>∃ (ly tv:S3) (ys:Nat→S3),e=.returned (.tuple #[.agg (K9 M ly tv),.bool true])∧OutW w' M ly tv ys∧OutN w.heap.size M ly tv ys∧Bw w w':=by
 refine tIn [] func5 trivial ?_;refine tR 8 [1,0] fun σ1 _ _=>?_;refine tF fun _ Cs=>?_;have hs2:=Cs.size;refine tC 1 (fun F C=>du (h.below (CgQ.below C)) ho hl (tb5 hT C) hM) fun Nz=>?_;rintro _ _ ⟨ly,tv,ys,rfl,hW,hN,b3⟩;refine⟨_,Fa.ot ly tv ys M::_,rfl,b3,fun F=>⟨Su hW hN Nz,F⟩,?_⟩;refine tR 14 [0,0,1,0,9,0,1,2,4,6,8] fun σ4 _ _=>?_;refine LG 20 (fun ee LL ΦΦ=>∃ (_:Unit),ee=[(2,pt (σ1 0) 0),(3,.bool ((ly.n:Int)==5))]∧LL=[⟨(σ1 0),.cells (K9 M ly tv) 30,.l,false⟩,⟨(σ4 0),.cells (K9 M ly tv) 30,.z,false⟩]∧ΦΦ=[Fa.ot ly tv ys M]) (fun J hJ=>?_) ?_
 ·refine Ux 5 9 ?_ ?_
  ·refine tR 7 [1,12,14,16,19,0,0,20] fun σ5 _ _=>?_;exact tD hJ [true,true] ⟨(),rfl,rfl,rfl⟩ (fun F=>⟨F.1,trivial⟩)
  ·refine tR 7 [0,0,11,1,12,14,16,20] fun σ6 _ _=>?_;exact tD hJ [true,true] ⟨(),rfl,rfl,rfl⟩ (fun F=>⟨F.1,trivial⟩)
 rintro _ _ _ ⟨_,rfl,rfl,rfl⟩ _ _ _;have hn:(((ly.n:Nat):Int)==5)=true:=by rw[hW.n5];rfl
 exact tX fun F C=>qE2 2 3 30 0 (σ1 0) (K9 M ly tv) (.bool ((ly.n:Int)==5)) fun _=>⟨ly,tv,ys,by rw[hn],Zm F.1,hN.mono hs2,CgQ.below C⟩
def KA(M:Meet)(ly tv:S3):Array Value:=#[iv (M.lets.length:Int),.bool true,.bool (M.node 1).up,.bool (M.node 2).up,.bool (M.node 3).up,.bool (M.node 4).up,S3.v ly,iv ((M.node 0).bad:Int),iv ((M.node 1).bad:Int),iv ((M.node 2).bad:Int),iv ((M.node 3).bad:Int),iv ((M.node 4).bad:Int),S3.v tv]
theorem Zl{M:Meet}(hu:(M.node 0).up=true)(ly tv:S3):K9 M ly tv=KA M ly tv:=by unfold K9 KA;rw[hu]
theorem dk{x:S3}{L:List Lac}{l:List (Lac × S3)}{w:World}(h:AcR w x L l)(ho:∀ a∈L,LacOk a)(hl:L.length≤100000)(hT:SR w){M:Meet}(hM:Br.acts L=M)(hu:(M.node 0).up=true) :
  Calls prog 5 #[x.v] w fun e w'=>∃ (ly tv:S3) (ys:Nat→S3),e=.returned (.tuple #[.agg (KA M ly tv),.bool true])∧OutW w' M ly tv ys∧OutN w.heap.size M ly tv ys∧Bw w w' :=
 (dj h ho hl hT hM).mono fun e w' ⟨ly,tv,ys,h1,h2⟩=>⟨ly,tv,ys,by rw[← Zl hu];exact h1,h2⟩
theorem aJ{g:Gh}{w:World}{x:S3}{l:List (Lac × S3)}(h:(Fa.ac x l).p g w){i:Nat}{p:Lac × S3}(hp:l[i]?=some p):∃ b off,x.a=some ⟨b,off,none⟩∧w.rangeAt b (off+5*i) (laV p.1 p.2.v)∧i<x.n:=by
 have hn:=(AcR.of h rfl).n;rw[List.length_map]at hn
 have hi:=(List.getElem?_eq_some_iff.1 hp).1;obtain⟨b,off,h1,_,h2⟩:=h.1.rd.spot (i:=i) (by omega);exact⟨b,off,h1,fun j u hj=>h2 j u (FJ (f:=fun p:Lac × S3=>laV p.1 p.2.v) (fun _=>rfl) l hp hj),by omega⟩
theorem acS{g:Gh}{w:World}{x:S3}{l:List (Lac × S3)}(h:(Fa.ac x l).p g w){i b off:Nat}(hx:x.a=some ⟨b,off,none⟩){a:Lac}{y:S3}(hp:l[i]?=some (a,y)):w.rangeAt b (off+5*i) (laV a y.v):=by
 obtain⟨b',off',h1,h2,_⟩:=aJ h hp;rw[hx]at h1;cases h1;exact h2
theorem acK{g:Gh}{w:World}{x:S3}{l:List (Lac × S3)}(h:(Fa.ac x l).p g w){i b off:Nat}(hx:x.a=some ⟨b,off,none⟩){a:Lac}{y:S3}(hp:l[i]?=some (a,y)):w.cell? ⟨b,off+5*i,none⟩=some (iv a.k):=acS h hx hp 0 _ rfl
theorem aZ{w:World}{x:S3}{l:List Tol}(h:RdV w x 5 (l.flatMap Dk)):x.n=l.length:=by
 have:=h.len;rw[Ek (f:=Dk) (sz:=5) (fun _=>rfl)]at this
 omega
theorem Sz{W:World}{x:S3}{b off:Nat}(ha:x.a=some ⟨b,off,none⟩)(j:Nat)(hj:j<x.n):(Instr.indexAt 28 x.v (iv (j:Int))).run prog W=.ok (pt b (off+5*j)) W:=by
 obtain⟨xa,xn,xc⟩:=x;simp only at ha hj;subst ha;exact Pn (P:=prog) (e:=39) (z:=5) underlying28 (by kernel_rfl) (by kernel_rfl) hj _ rfl
theorem gk{W:World}{b k:Nat}(t:Tol)(h:∀ j u,(Dk t)[j]?=some u→W.cell? ⟨b,k+j,none⟩=some u):(Instr.loadAt 39 (pt b k)).run prog W=.ok (.agg #[iv (t.n:Int),iv t.c,iv t.s,iv t.e,iv t.a]) W:=by
 have h1:=run_loadVar_mid (P:=prog) W b k 39 (Dk t) _ h underlying39 rfl (by kernel_rfl);simp only[Instr.loadAt,Instr.sureAddr,Sem.run_bind,Sem.run_pure,Result.andThen_ok];exact h1
theorem NG{w:World}{x:S3}{l:List Tol}(h:RdV w x 5 (l.flatMap Dk)){i b off:Nat}(hx:x.a=some ⟨b,off,none⟩){t:Tol}(ht:l[i]?=some t){j:Nat}{u:Value}(hu:(Dk t)[j]?=some u):w.cell? ⟨b,off+5*i+j,none⟩=some u:=by
 have hn:=aZ h;have hi:=(List.getElem?_eq_some_iff.1 ht).1;obtain⟨b',off',h1,_,h2⟩:=h.spot (i:=i) (by omega);rw[hx]at h1;cases h1
 exact h2 j u (FJ (f:=Dk) (sz:=5) (fun _=>rfl) l ht hu)
theorem fX{g:Gh}{w:World}{x:S3}{l:List (Lac × S3)}(h:(Fa.ac x l).p g w){i b off:Nat}(hx:x.a=some ⟨b,off,none⟩){a:Lac}{y:S3}(hp:l[i]?=some (a,y)):w.cell? ⟨b,off+5*i+1,none⟩=some (iv a.n):=acS h hx hp 1 _ rfl
end
section
structure Alw where
 ca:Bool
 ld:Bool
 cr:Bool
 st:Bool
structure NInv(A:Alw)(i:Nat)(D:List Int→Prop)(Q:Let→Prop)(P:Nod→Prop):Prop where
 take:A.ca=true→∀ p l,P p→Q l→l.dst=i→p.up=true→P (p.take l)
 one:∀ p c,P p→p.up=true→p.agreed[p.done]?=some c→doE p.sto c=0→P (Nod.unwant { p with sto:=doS p.sto c,done:=p.done+1 } c)
 ask:∀ p,P p→p.up=true→P (p.askd i).1∧∀ l∈(p.askd i).2,Q l
 prop:∀ p,P p→p.up=true→P p.propose
 syn:∀ p,P p→p.up=true→P p.syn
 run:∀ p q l,P p→p.up=true→p.pend=q::l→¬ p.sy<(p.d.length:Int)→P { p.runP i q with pend:=l }∧∀ m∈p.sentP i q,Q m
 teach:∀ p,P p→p.up=true→p.leads=true→P (I4 p i 5)∧∀ l∈Ed p i 5,Q l
 lead:A.ld=true→∀ p,P p→p.up=true→P (p.lead i)
 sub:∀ p d ts,P p→D d→p.up=true→P (p.subm i d ts).1
 crash:A.cr=true→∀ p k,P p→0≤k→p.up=true→P (p.crash k)
 start:A.st=true→∀ p,P p→p.up=false→P p.start
theorem Uo(p:Nod)(i:Nat)(q:Pend)(x:List Pend):({ p with pend:=x }:Nod).runP i q={ p.runP i q with pend:=x }:=by
 cases q with
 | began b vs=>unfold Nod.runP;simp only;split<;>rfl
 | prop v =>
  unfold Nod.runP Nod.count;simp only;split
  ·rfl
  ·split<;>rfl
 | _=>rfl
theorem M1(p:Nod)(i:Nat)(q:Pend):(p.runP i q).pend=p.pend∧(p.runP i q).up=p.up∧(p.runP i q).d=p.d∧(p.runP i q).sy=p.sy:=by
 cases q with
 | began b vs=>unfold Nod.runP;simp only;split<;>exact⟨rfl,rfl,rfl,rfl⟩
 | prop v =>
  unfold Nod.runP Nod.count;simp only;split
  ·exact⟨rfl,rfl,rfl,rfl⟩
  ·split<;>exact⟨rfl,rfl,rfl,rfl⟩
 | _=>exact⟨rfl,rfl,rfl,rfl⟩
theorem Rx(p:Nod)(i:Nat)(q:Pend)(x:List Pend):({ p with pend:=x }:Nod).sentP i q=p.sentP i q:=by cases q<;>rfl
theorem Jf(p:Nod)(c:Cmd):(p.unwant c).up=p.up∧(p.unwant c).agreed=p.agreed∧(p.unwant c).done=p.done∧(p.unwant c).sto=p.sto:=by unfold Nod.unwant;split<;>exact⟨rfl,rfl,rfl,rfl⟩
theorem Qs(p:Nod)(l:List Cmd):(p.enqueue l).up=p.up:=by unfold Nod.enqueue;split<;>rfl
theorem Ym(p:Nod)(i:Nat):(p.askd i).1.up=p.up:=by
 unfold Nod.askd;split
 ·rfl
 ·split
  ·exact Qs _ _
  ·rfl
theorem aA(p:Nod)(v:Vt):(p.vote v).1.up=p.up:=by
 unfold Nod.vote;split
 ·rfl
 ·split
  ·rfl
  ·split<;>rfl
theorem Ro(p:Nod):p.propose.up=p.up:=by
 unfold Nod.propose;split
 ·rfl
 ·split
  ·rfl
  ·split
   ·rfl
   ·exact aA p _
theorem dI(p:Nod):p.syn.up=p.up:=by unfold Nod.syn;split<;>rfl
section
variable{A:Alw}{i:Nat}{D:List Int→Prop}{Q:Let→Prop}{P:Nod→Prop}
theorem NInv.doP(h:NInv A i D Q P)(l:List Cmd)(p:Nod)(ts:List Tol)(hp:P p)(hu:p.up=true)(hl:p.agreed.drop p.done=l):P (doP i l p ts).1∧(Go.Proofs.YtaeckakjdagddadGreatDoor.doP i l p ts).1.up=true:=by
 induction l generalizing p ts with
 | nil=>exact⟨hp,hu⟩
 | cons c l ih =>
  rw[Go.Proofs.YtaeckakjdagddadGreatDoor.doP];split
  ·exact⟨hp,hu⟩
  ·rename_i he
   have hc:p.agreed[p.done]?=some c:=by
    have:=congrArg (·[0]?) hl;simpa using this
   have hk:=Jf { p with sto:=doS p.sto c,done:=p.done+1 } c;refine ih _ _ (h.one p c hp hu hc (Decidable.not_not.1 he)) (hk.1.trans hu) ?_;rw[hk.2.1,hk.2.2.1];show p.agreed.drop (p.done+1)=l;rw[← List.drop_drop,hl];rfl
theorem NInv.doneP(h:NInv A i D Q P)(l:List Pend)(p:Nod)(ls:List Let)(hp:P { p with pend:=l })(hu:p.up=true)(h0:p.pend=[])(hs:¬ p.sy<(p.d.length:Int))(hl:∀ m∈ls,Q m):P (doneP i l p ls).1∧(∀ m∈(Go.Proofs.YtaeckakjdagddadGreatDoor.doneP i l p ls).2,Q m)∧(Go.Proofs.YtaeckakjdagddadGreatDoor.doneP i l p ls).1.up=true:=by
 induction l generalizing p ls with
 | nil =>
  refine⟨?_,hl,hu⟩;have:({ p with pend:=[] }:Nod)=p:=by cases p;simp_all
  rw[this]at hp;exact hp
 | cons q l ih =>
  have hk:=M1 p i q;obtain⟨h1,h2⟩:=h.run { p with pend:=q::l } q l hp hu rfl hs;rw[Uo]at h1
  rw[Rx]at h2
  exact ih (p.runP i q) (ls++p.sentP i q) h1 (hk.2.1.trans hu) (hk.1.trans h0) (by rw[hk.2.2.1,hk.2.2.2];exact hs) fun m hm=>(List.mem_append.1 hm).elim (hl m) (h2 m)
theorem NInv.piece(h:NInv A i D Q P)(p:Nod)(ls:List Let)(ts:List Tol)(hp:P p)(hu:p.up=true)(hl:∀ m∈ls,Q m):P (p.piece i ls ts).1∧∀ m∈(p.piece i ls ts).2.1,Q m:=by
 obtain⟨a1,a2⟩:=h.doP _ p ts hp hu rfl;unfold Nod.piece;simp only;obtain⟨b1,b2⟩:=h.ask _ a1 a2;have bu:=(Ym (Go.Proofs.YtaeckakjdagddadGreatDoor.doP i (p.agreed.drop p.done) p ts).1 i).trans a2;have c1:=h.prop _ b1 bu;have cu:=(Ro ((Go.Proofs.YtaeckakjdagddadGreatDoor.doP i (p.agreed.drop p.done) p ts).1.askd i).1).trans bu;have hls:∀ m∈ls++((Go.Proofs.YtaeckakjdagddadGreatDoor.doP i (p.agreed.drop p.done) p ts).1.askd i).2,Q m:=fun m hm=>(List.mem_append.1 hm).elim (hl m) (b2 m);generalize ls++((Go.Proofs.YtaeckakjdagddadGreatDoor.doP i (p.agreed.drop p.done) p ts).1.askd i).2=k at hls ⊢;generalize ((Go.Proofs.YtaeckakjdagddadGreatDoor.doP i (p.agreed.drop p.done) p ts).1.askd i).1.propose=r at c1 cu ⊢;have hd:P (r.syncd i k).1∧(∀ m∈(r.syncd i k).2,Q m)∧(r.syncd i k).1.up=true:=by
  unfold Nod.syncd;split
  ·exact⟨c1,hls,cu⟩
  ·rename_i hn
   have hp2:=h.syn r c1 cu;have hpd:r.syn.pend=r.pend:=by unfold Nod.syn;split<;>rfl
   refine h.doneP r.pend { r.syn with pend:=[] } k (by rw[← hpd];exact hp2) ((dI r).trans cu) rfl ?_ hls;show ¬ r.syn.sy<(r.syn.d.length:Int);unfold Nod.syn;split
   ·rename_i h1
    have:CZ r.d r.sy=0:=Decidable.not_not.1 fun e=>hn ⟨h1,e⟩;have hT:Bd r.d r.sy:=by
     unfold CZ at this;split at this
     ·assumption
     ·cases this
    show ¬ I0 r.d r.sy<((Hs r.d r.sy).length:Int);unfold I0 Hs;rw[if_pos hT,if_pos hT];exact Int.lt_irrefl _
   ·rename_i h1;exact h1
 unfold Nod.taught;split
 ·rename_i hL
  obtain⟨e1,e2⟩:=h.teach _ hd.1 hd.2.2 hL;exact⟨e1,fun m hm=>(List.mem_append.1 hm).elim (hd.2.1 m) (e2 m)⟩
 ·exact⟨hd.1,hd.2.1⟩
end
structure GInv(Q:Let→Prop)(P:Nat→Nod→Prop)(M:Meet):Prop where
 node:∀ i,i<5→P i (M.node i)
 lets:∀ l∈M.lets,Q l
theorem GInv.set{Q:Let→Prop}{P:Nat→Nod→Prop}{M:Meet}(h:GInv Q P M){i:Nat}{p:Nod}{ls:List Let}{ts:List Tol}(hp:P i p)(hl:∀ l∈ls,Q l):GInv Q P (M.set i p ls ts) :=
 ⟨fun j hj=>by
  show P j (upN M.node i p j);unfold upN;split
  ·rename_i e;rw[e];exact hp
  ·exact h.node j hj,hl⟩
theorem GInv.come{A:Alw}{D:Nat→List Int→Prop}{Q:Let→Prop}{P:Nat→Nod→Prop}(hI:∀ i,i<5→NInv A i (D i) Q (P i))(hc:A.ca=true){M:Meet}(h:GInv Q P M){l:Let}(hl:Q l)(hd:l.dst<5):GInv Q P (M.come l):=by
 unfold Meet.come;split
 ·rename_i hu
  exact h.set (ls:=M.lets) (ts:=M.told) ((hI _ hd).take hc _ l (h.node _ hd) hl rfl hu) h.lets
 ·exact h
theorem GInv.comes{A:Alw}{D:Nat→List Int→Prop}{Q:Let→Prop}{P:Nat→Nod→Prop}(hI:∀ i,i<5→NInv A i (D i) Q (P i))(hc:A.ca=true)(l:List Let){M:Meet}(h:GInv Q P M)(hl:∀ m∈l,Q m∧m.dst<5):GInv Q P (l.foldl (fun M l=>M.come l) M):=by
 induction l generalizing M with
 | nil=>exact h
 | cons x l ih=>exact ih (h.come hI hc (hl x List.mem_cons_self).1 (hl x List.mem_cons_self).2) fun m hm=>hl m (List.mem_cons_of_mem _ hm)
structure Alw.Ok(A:Alw)(x:Lac):Prop where
 ca:x.k=4∨x.k=6∨x.k=7→A.ca=true
 ld:x.k=2→A.ld=true
 cr:x.k=8→A.cr=true
 st:x.k=9→A.st=true
theorem GInv.act{A:Alw}{D:Nat→List Int→Prop}{Q:Let→Prop}{P:Nat→Nod→Prop}(hI:∀ i,i<5→NInv A i (D i) Q (P i)){n:Nat}{M:Meet}(h:GInv Q P M)(hM:MOk n M){x:Lac}(hx:LacOk x)(hA:A.Ok x)(hD:x.k=1→D x.n.toNat x.d):GInv Q P (M.act x):=by
 have hnode:∀ {k:Int},x.k=k→F5 k=true→x.n.toNat<5:=fun{k} e e2=>by have:=hx.n (by rw[e];exact e2);omega
 unfold Meet.act;simp only;by_cases h1:x.k=1
 ·rw[if_pos h1];have hi:=hnode h1 rfl;refine h.set ?_ h.lets;unfold Nod.subm;by_cases hu:(M.node x.n.toNat).up=true
  ·exact(hI _ hi).sub _ x.d M.told (h.node _ hi) (hD h1) hu
  ·unfold Nod.sub0;rw[if_pos (by simpa using hu)];exact h.node _ hi
 ·rw[if_neg h1];by_cases h2:x.k=2
  ·rw[if_pos h2];have hi:=hnode h2 rfl;refine h.set ?_ h.lets;split
   ·rename_i hu;exact(hI _ hi).lead (hA.ld h2) _ (h.node _ hi) hu
   ·exact h.node _ hi
  ·rw[if_neg h2];by_cases h3:x.k=3
   ·rw[if_pos h3];have hi:=hnode h3 rfl;by_cases hu:(M.node x.n.toNat).up=true
    ·have:=(hI _ hi).piece _ M.lets M.told (h.node _ hi) hu h.lets;rw[if_pos hu,if_pos hu,if_pos hu];exact h.set this.1 this.2
    ·rw[if_neg hu,if_neg hu,if_neg hu];exact h.set (h.node _ hi) h.lets
   ·rw[if_neg h3];by_cases h4:x.k=4∨x.k=5∨x.k=6
    ·rw[if_pos h4];unfold Meet.move;split
     ·exact h
     ·rename_i l hl
      have hm:=List.mem_of_getElem? hl;have hB:GInv Q P (if x.k≠6 then{ M with lets:=M.lets.eraseIdx (x.a.toNat%M.lets.length) }else M):=by
       split
       ·exact⟨h.node,fun m hm=>h.lets m (List.mem_of_mem_eraseIdx hm)⟩
       ·exact h
      simp only;split
      ·rename_i h5
       exact hB.come hI (hA.ca (by omega)) (h.lets l hm) (hM.lets l hm).dst
      ·exact hB
    ·rw[if_neg h4];by_cases h7:x.k=7
     ·rw[if_pos h7];unfold Meet.comeAll;exact GInv.comes hI (hA.ca (by omega)) _ ⟨h.node,fun l hl=>by cases hl⟩ fun m hm=>⟨h.lets m hm,(hM.lets m hm).dst⟩
     ·rw[if_neg h7];by_cases h8:x.k=8
      ·rw[if_pos h8];have hi:=hnode h8 rfl;refine h.set ?_ h.lets;split
       ·rename_i hu;exact(hI _ hi).crash (hA.cr h8) _ x.p (h.node _ hi) (hx.p (by rw[h8];rfl)).1 hu
       ·exact h.node _ hi
      ·rw[if_neg h8];by_cases h9:x.k=9
       ·rw[if_pos h9];have hi:=hnode h9 rfl;refine h.set ?_ h.lets;split
        ·exact h.node _ hi
        ·rename_i hu;exact(hI _ hi).start (hA.st h9) _ (h.node _ hi) (by simpa using hu)
       ·rw[if_neg h9];exact h
structure TInv(i:Nat)(D:List Int→Prop)(P:Nod→Prop)(R:List Tol→Prop):Prop where
 one:∀ p c ts,P p→p.up=true→p.agreed[p.done]?=some c→doE p.sto c=0→(p.asked c).isSome=true→R ts→R (ts++[⟨i,c.c,c.s,doC p.sto c,doA p.sto c⟩])
 sub:∀ p d ts,P p→D d→p.up=true→opE d (p.done:Int)=0→DY d (p.done:Int)∈p.agreed.take p.done→R ts→R (ts++[⟨i,(DY d (p.done:Int)).c,(DY d (p.done:Int)).s,doC p.sto (DY d (p.done:Int)),doA p.sto (DY d (p.done:Int))⟩])
theorem TInv.doP{A:Alw}{i:Nat}{D:List Int→Prop}{Q:Let→Prop}{P:Nod→Prop}{R:List Tol→Prop}(h:NInv A i D Q P)(t:TInv i D P R)(l:List Cmd)(p:Nod)(ts:List Tol)(hp:P p)(hu:p.up=true)(hl:p.agreed.drop p.done=l)(hr:R ts):R (doP i l p ts).2:=by
 induction l generalizing p ts with
 | nil=>exact hr
 | cons c l ih =>
  rw[Go.Proofs.YtaeckakjdagddadGreatDoor.doP];split
  ·exact hr
  ·rename_i he
   have hc:p.agreed[p.done]?=some c:=by
    have:=congrArg (·[0]?) hl;simpa using this
   have hk:=Jf { p with sto:=doS p.sto c,done:=p.done+1 } c;refine ih _ _ (h.one p c hp hu hc (Decidable.not_not.1 he)) (hk.1.trans hu) ?_ ?_
   ·rw[hk.2.1,hk.2.2.1];show p.agreed.drop (p.done+1)=l;rw[← List.drop_drop,hl];rfl
   ·split
    ·rename_i ha;exact t.one p c ts hp hu hc (Decidable.not_not.1 he) ha hr
    ·exact hr
theorem LV(M:Meet)(l:Let):(M.come l).told=M.told:=by unfold Meet.come;split<;>rfl
theorem Qi(l:List Let)(M:Meet):(l.foldl (fun M l=>M.come l) M).told=M.told:=by
 induction l generalizing M with
 | nil=>rfl
 | cons x l ih=>exact(ih _).trans (LV M x)
theorem TP(M:Meet)(k:Int)(a:Nat):(M.move k a).told=M.told:=by
 unfold Meet.move;split
 ·rfl
 ·simp only;split
  ·rw[LV];split<;>rfl
  ·split<;>rfl
theorem NR(M:Meet){x:Lac}(h1:x.k≠1)(h3:x.k≠3):(M.act x).told=M.told:=by
 unfold Meet.act;simp only;rw[if_neg h1];split
 ·rfl
 ·split
  ·exact TP _ _ _
  ·split
   ·exact Qi _ _
   ·split
    ·rfl
    ·split<;>rfl
theorem GInv.told{A:Alw}{D:Nat→List Int→Prop}{Q:Let→Prop}{P:Nat→Nod→Prop}{R:List Tol→Prop}(hI:∀ i,i<5→NInv A i (D i) Q (P i))(hT:∀ i,i<5→TInv i (D i) (P i) R){M:Meet}(h:GInv Q P M)(hr:R M.told){x:Lac}(hx:LacOk x)(hD:x.k=1→D x.n.toNat x.d):R (M.act x).told:=by
 by_cases h1:x.k=1
 ·have hi:x.n.toNat<5:=by have:=hx.n (by rw[h1];rfl);omega
  unfold Meet.act;simp only;rw[if_pos h1];show R (Nod.subm _ _ _ _).2;unfold Nod.subm Nod.sub0;split
  ·exact hr
  ·rename_i hu
   split
   ·exact hr
   ·rename_i he
    split
    ·rename_i hm
     exact(hT _ hi).sub _ _ _ (h.node _ hi) (hD h1) (by simpa using hu) (Decidable.not_not.1 he) hm hr
    ·exact hr
 ·by_cases h3:x.k=3
  ·have hi:x.n.toNat<5:=by have:=hx.n (by rw[h3];rfl);omega
   unfold Meet.act;simp only;rw[if_neg h1,if_neg (by omega),if_pos h3];show R (if _ then _ else _);split
   ·rename_i hu
    exact TInv.doP (hI _ hi) (hT _ hi) _ _ _ (h.node _ hi) hu rfl hr
   ·exact hr
  ·rw[NR M h1 h3];exact hr
theorem GInv.acts{A:Alw}{D:Nat→List Int→Prop}{Q:Let→Prop}{P:Nat→Nod→Prop}{R:List Tol→Prop}(hI:∀ i,i<5→NInv A i (D i) Q (P i))(hT:∀ i,i<5→TInv i (D i) (P i) R)(L:List Lac){n:Nat}{M:Meet}(hM:MOk n M)(hn:n+L.length≤1000000)(h:GInv Q P M)(hr:R M.told)(hx:∀ x∈L,LacOk x∧A.Ok x∧(x.k=1→D x.n.toNat x.d)):GInv Q P (M.acts L)∧R (M.acts L).told∧MOk (n+L.length) (M.acts L):=by
 induction L generalizing n M with
 | nil=>exact⟨h,hr,hM⟩
 | cons x L ih =>
  have h1:=hx x List.mem_cons_self;rw[List.length_cons]at hn
  have:=ih (hM.act (by omega) h1.1) (by omega) (h.act hI hM h1.1 h1.2.1 h1.2.2) (h.told hI hT hr h1.1 h1.2.2) fun y hy=>hx y (List.mem_cons_of_mem _ hy);rw[List.length_cons,show n+(L.length+1)=n+1+L.length by omega];exact this
theorem TInv.all(i:Nat)(D:List Int→Prop)(P:Nod→Prop):TInv i D P fun _=>True:=⟨fun _ _ _ _ _ _ _ _ _=>trivial,fun _ _ _ _ _ _ _ _ _=>trivial⟩
end
end Go.Proofs.YtaeckakjdagddadGreatDoor
