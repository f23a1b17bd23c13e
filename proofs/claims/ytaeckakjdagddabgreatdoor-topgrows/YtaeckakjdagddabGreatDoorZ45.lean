/- Part 45 of the walk. -/
import Derived.Test.YtaeckakjdagddabGreatDoorZ44
set_option maxRecDepth 100000
set_option maxHeartbeats 4000000
open Go.Proofs.Tryz
set_option linter.unusedVariables false
namespace Go.Proofs.YtaeckakjdagddabGreatDoor
section
open Go.RowKit
theorem Jv{g:Gh}{w:World}{ly tv:S3}{ys:Nat→S3}{M:Meet}(h:OutF g w ly tv ys M):OutW w M ly tv ys:=⟨h.logs.rd,fun j hj=>(h.log j hj).rd.rc,h.told.rd⟩
theorem cI{x:S3}{L:List Lac}{l:List (Lac × S3)}{w:World}(h:AcR w x L l)(ho:∀ a∈L,LacOk a)(hl:L.length≤100000)(hT:S8 w){M:Meet}(hM:AU.acts L=M) :
  Calls prog 10 #[x.v] w fun e w'=>∃ (ly tv:S3) (ys:Nat→S3),e=.returned (.tuple #[.agg (Cv M ly tv),iv 0])∧OutW w' M ly tv ys∧OutN w.heap.size M ly tv ys∧Bw w w':=by
 subst hM;refine(Zb (h.sk (by omega)) (fun i hi=>by rw[MR hi];exact ho _ (List.getElem_mem hi)) hl hT.1 hT.2.1 hT.2.2).mono ?_;rw[Uy];rintro e w' ⟨hb,ly,tv,ys,h1,h2,h3⟩;exact⟨ly,tv,ys,h1,h2,h3,hb⟩
theorem cD{x:S3}{L:List Lac}{l:List (Lac × S3)}{w:World}(h:AcR w x L l)(ho:∀ a∈L,LacOk a)(hl:L.length≤100000)(hT:S8 w){M:Meet}(hM:AU.acts L=M) :
  Calls prog 7 #[x.v] w fun e w'=>∃ (ly tv:S3) (ys:Nat→S3),e=.returned (.tuple #[.agg (Cv M ly tv),.bool true])∧OutW w' M ly tv ys∧OutN w.heap.size M ly tv ys∧Bw w w':=by
 refine tIn [] func7 trivial ?_;refine tR 8 [1,0] fun σ1 _ _=>?_;refine tF fun _ Cs=>?_;have hs2:=Cs.size;refine tC 1 (fun F C=>cI (h.below (CgQ.below C)) ho hl (tb5 hT C) hM) fun Nz=>?_;rintro _ _ ⟨ly,tv,ys,rfl,hW,hN,b3⟩;refine⟨_,Fa.ot ly tv ys M::_,rfl,b3,fun F=>⟨Nf hW hN Nz,F⟩,?_⟩;refine tR 14 [0,0,1,0,9,0,1,2,4,6,8] fun σ4 _ _=>?_;refine KF 20 (fun ee LL ΦΦ=>∃ (_:Unit),ee=[(2,pt (σ1 0) 0),(3,.bool ((ly.n:Int)==5))]∧LL=[⟨(σ1 0),.cells (Cv M ly tv) 33,.l,false⟩,⟨(σ4 0),.cells (Cv M ly tv) 33,.z,false⟩]∧ΦΦ=[Fa.ot ly tv ys M]) (fun J hJ=>?_) ?_
 ·refine It 5 9 ?_ ?_
  ·refine tR 7 [1,12,14,16,19,0,0,20] fun σ5 _ _=>?_;exact tD hJ [true,true] ⟨(),rfl,rfl,rfl⟩ (fun F=>⟨F.1,trivial⟩)
  ·refine tR 7 [0,0,11,1,12,14,16,20] fun σ6 _ _=>?_;exact tD hJ [true,true] ⟨(),rfl,rfl,rfl⟩ (fun F=>⟨F.1,trivial⟩)
 rintro _ _ _ ⟨_,rfl,rfl,rfl⟩ _ _ _;have hn:(((ly.n:Nat):Int)==5)=true:=by rw[hW.n5];rfl
 exact tX fun F C=>qE2 2 3 33 0 (σ1 0) (Cv M ly tv) (.bool ((ly.n:Int)==5)) fun _=>⟨ly,tv,ys,by rw[hn],Jv F.1,hN.mono hs2,CgQ.below C⟩
theorem El{W:World}{x:S3}{b off:Nat}(ha:x.a=some ⟨b,off,none⟩)(j:Nat)(hj:j<x.n):(Instr.indexAt 29 x.v (iv (j:Int))).run prog W=.ok (pt b (off+j)) W:=by
 obtain⟨xa,xn,xc⟩:=x;simp only at ha hj;subst ha;exact Lr (P:=prog) (e:=37) (z:=1) underlying29 (by kernel_rfl) (by kernel_rfl) hj _ (by rw[Nat.one_mul])
theorem AA{w:World}{ly:S3}{ys:Nat→S3}{b off j:Nat}(h:RdV w ly 1 [S3.v (ys 0),S3.v (ys 1),S3.v (ys 2),S3.v (ys 3),S3.v (ys 4)])(ha:ly.a=some ⟨b,off,none⟩)(hj:j<5):w.cell? ⟨b,off+j,none⟩=some (S3.v (ys j)):=by
 rcases h.ex with h1|⟨b',off',h1,h2,h3⟩
 ·have:=h.len;simp at this;omega
 ·rw[ha]at h1;cases h1
  refine h3 j _ ?_;rcases five hj with rfl|rfl|rfl|rfl|rfl<;>rfl
theorem ZM{g:Gh}{w:World}{x:S3}{l:List (Lac × S3)}(h:(Fa.ac x l).p g w){i:Nat}{p:Lac × S3}(hp:l[i]?=some p):∃ b off,x.a=some ⟨b,off,none⟩∧w.rangeAt b (off+5*i) (laV p.1 p.2.v)∧i<x.n:=by
 have hn:=(AcR.of h rfl).n;rw[List.length_map]at hn
 have hi:=(List.getElem?_eq_some_iff.1 hp).1;obtain⟨b,off,h1,_,h2⟩:=h.1.rd.spot (i:=i) (by omega);exact⟨b,off,h1,fun j u hj=>h2 j u (FD (f:=fun p:Lac × S3=>laV p.1 p.2.v) (fun _=>rfl) l hp hj),by omega⟩
theorem acS{g:Gh}{w:World}{x:S3}{l:List (Lac × S3)}(h:(Fa.ac x l).p g w){i b off:Nat}(hx:x.a=some ⟨b,off,none⟩){a:Lac}{y:S3}(hp:l[i]?=some (a,y)):w.rangeAt b (off+5*i) (laV a y.v):=by
 obtain⟨b',off',h1,h2,_⟩:=ZM h hp;rw[hx]at h1;cases h1;exact h2
theorem acK{g:Gh}{w:World}{x:S3}{l:List (Lac × S3)}(h:(Fa.ac x l).p g w){i b off:Nat}(hx:x.a=some ⟨b,off,none⟩){a:Lac}{y:S3}(hp:l[i]?=some (a,y)):w.cell? ⟨b,off+5*i,none⟩=some (iv a.k):=acS h hx hp 0 _ rfl
theorem Xw{w:World}{x:S3}{l:List Tol}(h:RdV w x 5 (l.flatMap Dj)):x.n=l.length:=by
 have:=h.len;rw[Dv (f:=Dj) (sz:=5) (fun _=>rfl)]at this
 omega
section
variable{P:Program}{fn:Func}{R:Ending→World→Prop}{w0:World}{Φ:List Fa}{g:Gh}{w:World}
theorem tW{s:Xs}(i:Nat)(v:Value){S:Sem Value}(hr:AllF g w Φ→Kn w0.heap.size g w s.L→S.run P w=.ok v w)(hk:GT P fn R w0 Φ (nxt s i v s.L).s g w)(hs:CN s i=some (S>>=fun v=>pure (.value v)):=by kernel_rfl)(hob:(nxt s i undef s.L).o.map Ob.l'=(nxt s i undef s.L).o.map Ob.r':=by kernel_rfl):GT P fn R w0 Φ s g w:=⟨fun F C=>Ac fun K=>qV i v (hr F K) (hk.ex F C) hs hob⟩
end
theorem fN{B:Nat}{g:Gh}{w:World}{L:List Sh}(h:Kn B g w L)(k b:Nat)(news:List Value)(e:TypeId)(t:Tg)(v:Bool)(hx:L[k]?=some ⟨b,.cells news.toArray e,t,v⟩){j:Nat}{u:Value}(hj:news[j]?=some u):w.cell? ⟨b,j,none⟩=some u:=by
 have:=C1 h k b news e t v hx j u hj;have he:(⟨b,0,none⟩:Addr).add j=⟨b,j,none⟩:=by unfold Addr.add;split<;>simp_all
 rwa [he]at this
theorem co{W:World}{b k n:Nat}(hn:n<5):(Instr.indexAt 28 (pt b k) (iv (n:Int))).run prog W=.ok (pt b (k+n)) W:=by
 rcases five hn with rfl|rfl|rfl|rfl|rfl<;>kernel_rfl
theorem ei{M:Meet}{ly tv:S3}{n:Nat}(hn:n<5){u:Bool}(hu:(M.node n).up=u):(Cv M ly tv).toList[1+n]?=some (.bool u):=by
 subst hu;rcases five hn with rfl|rfl|rfl|rfl|rfl<;>rfl
end
section
def Nod.ub(p:Nod):Bool × Nat:=(p.up,p.bad)
theorem K3(p:Nod)(b:Bal):(p.promise b).1.ub=p.ub:=by
 unfold Nod.promise;split
 ·rfl
 ·split
  ·rfl
  ·split<;>rfl
theorem Sz(p:Nod)(v:Vt):(p.vote v).1.ub=p.ub:=by
 unfold Nod.vote;split
 ·rfl
 ·split
  ·rfl
  ·split<;>rfl
theorem Od(p:Nod)(j:Nat)(v:Vt):(p.count j v).ub=p.ub:=by
 unfold Nod.count;split
 ·rfl
 ·split<;>rfl
theorem Mk(p:Nod)(to:Nat)(e:Int):(p.refuse to e).ub=p.ub:=by unfold Nod.refuse;split<;>rfl
theorem JR(p:Nod)(l:List Cmd):(p.enqueue l).ub=p.ub:=by unfold Nod.enqueue;split<;>rfl
theorem Zp(p:Nod)(l:Let):(p.take l).ub=p.ub:=by
 unfold Nod.take;split
 ·split
  ·exact Mk _ _ _
  ·exact K3 p l.bal
 ·simp only;split<;>rfl
 ·rfl
 ·split
  ·exact Mk _ _ _
  ·exact Sz p l.vote
 ·exact Od p _ _
 ·split<;>rfl
 ·simp only;split<;>exact JR p l.what
 ·rfl
theorem Za(p:Nod)(i:Nat)(q:Pend):(p.runP i q).ub=p.ub:=by
 cases q with
 | began b vs=>unfold Nod.runP;simp only;split<;>rfl
 | prop v=>exact Od p i v
 | _=>rfl
theorem Vk(i:Nat)(l:List Pend)(p:Nod)(ls:List Let):(doneP i l p ls).1.ub=p.ub:=by
 induction l generalizing p ls with
 | nil=>rfl
 | cons q l ih=>exact(ih _ _).trans (Za p i q)
theorem Un(p:Nod)(c:Cmd):(p.unwant c).ub=p.ub:=by unfold Nod.unwant;split<;>rfl
theorem aY(i:Nat)(l:List Cmd)(p:Nod)(ts:List Tol):(doP i l p ts).1.ub=p.ub:=by
 induction l generalizing p ts with
 | nil=>rfl
 | cons c l ih =>
  rw[doP];split
  ·rfl
  ·exact(ih _ _).trans (Un _ _)
theorem XM(p:Nod)(i:Nat):(p.askd i).1.ub=p.ub:=by
 unfold Nod.askd;split
 ·rfl
 ·split
  ·exact JR _ _
  ·rfl
theorem Ra(p:Nod):p.propose.ub=p.ub:=by
 unfold Nod.propose;split
 ·rfl
 ·split
  ·rfl
  ·split
   ·rfl
   ·exact Sz p _
theorem Xi(p:Nod)(i:Nat)(ls:List Let):(p.syncd i ls).1.ub=p.ub:=by
 unfold Nod.syncd;split
 ·rfl
 ·rw[Vk];unfold Nod.syn;split<;>rfl
theorem Ui(p:Nod)(i:Nat)(ls:List Let):(p.taught i ls).1.ub=p.ub:=by unfold Nod.taught;split<;>rfl
theorem Wu(p:Nod)(i:Nat)(ls:List Let)(ts:List Tol):(p.piece i ls ts).1.ub=p.ub:=by
 unfold Nod.piece;simp only;rw[Ui,Xi,Ra,XM,aY]
theorem Y3(p:Nod)(i:Nat):(p.lead i).ub=p.ub:=by
 unfold Nod.lead;simp only;split
 ·rfl
 ·exact K3 p _
theorem RD(M:Meet)(l:Let)(j:Nat):((M.come l).node j).ub=(M.node j).ub:=by
 unfold Meet.come;split
 ·show(upN M.node l.dst _ j).ub=_;unfold upN;split
  ·rename_i h;rw[h];exact Zp _ _
  ·rfl
 ·rfl
theorem UW(l:List Let)(M:Meet)(j:Nat):((l.foldl (fun M l=>M.come l) M).node j).ub=(M.node j).ub:=by
 induction l generalizing M with
 | nil=>rfl
 | cons x l ih=>exact(ih _).trans (RD M x j)
theorem Y9(M:Meet)(k:Int)(a:Nat)(j:Nat):((M.move k a).node j).ub=(M.node j).ub:=by
 unfold Meet.move;split
 ·rfl
 ·simp only;split
  ·rw[RD];split<;>rfl
  ·split<;>rfl
theorem He(M:Meet)(i:Nat)(p:Nod)(ls:List Let)(ts:List Tol)(j:Nat):(M.set i p ls ts).node j=if j=i then p else M.node j:=rfl
theorem aC(M:Meet){x:Lac}(h1:x.k≠1)(h8:x.k≠8)(h9:x.k≠9)(j:Nat):((M.act x).node j).ub=(M.node j).ub:=by
 unfold Meet.act;simp only;rw[if_neg h1];by_cases h2:x.k=2
 ·rw[if_pos h2,He];split
  ·rename_i e
   rw[e];split
   ·exact Y3 _ _
   ·rfl
  ·rfl
 ·rw[if_neg h2];by_cases h3:x.k=3
  ·rw[if_pos h3,He];split
   ·rename_i e
    rw[e];split
    ·exact Wu _ _ _ _
    ·rfl
   ·rfl
  ·rw[if_neg h3];by_cases h4:x.k=4∨x.k=5∨x.k=6
   ·rw[if_pos h4];exact Y9 _ _ _ _
   ·rw[if_neg h4];by_cases h7:x.k=7
    ·rw[if_pos h7];exact UW _ _ _
    ·rw[if_neg h7,if_neg h8,if_neg h9]
theorem cS(M:Meet){x:Lac}(h1:x.k=1)(j:Nat):((M.act x).node j).ub=if j=x.n.toNat∧(M.node j).up=true∧opE x.d ((M.node j).done:Int)≠0 then((M.node j).up,(M.node j).bad+1)else(M.node j).ub:=by
 unfold Meet.act;simp only;rw[if_pos h1,He];by_cases hj:j=x.n.toNat
 ·subst hj;rw[if_pos rfl];unfold Nod.subm Nod.sub0;by_cases hu:(M.node x.n.toNat).up=false
  ·rw[if_pos hu,if_neg (by rw[hu];simp)]
  ·rw[if_neg hu];have hu':(M.node x.n.toNat).up=true:=by simpa using hu
   by_cases he:opE x.d ((M.node x.n.toNat).done:Int)≠0
   ·rw[if_pos he,if_pos ⟨rfl,hu',he⟩];rfl
   ·rw[if_neg he,if_neg (c:=_∧_) (fun e=>he e.2.2)];split
    ·rfl
    ·show(Nod.want _ _).ub=_;unfold Nod.want;split<;>rfl
 ·rw[if_neg hj,if_neg (fun e=>hj e.1)]
theorem L3(M:Meet)(L:List Lac)(x:Lac):M.acts (L++[x])=(M.acts L).act x:=by unfold Meet.acts;rw[List.foldl_append];rfl
theorem Hx{M:Meet}{L:List Lac}{i:Nat}{x:Lac}(h:L[i]?=some x):M.acts (L.take (i+1))=(M.acts (L.take i)).act x:=by rw[List.take_add_one,h];exact L3 M (L.take i) x
theorem G3(L:List Lac)(h:∀ x∈L,LacOk x)(hl:L.length≤100000):MOk L.length (AU.acts L):=by
 suffices ∀ i,i≤L.length→MOk i (AU.acts (L.take i))by have h1:=this L.length (Nat.le_refl _);rwa [List.take_length]at h1
 intro i;induction i with
 | zero=>intro _;exact MOk.zero
 | succ i ih =>
  intro hi;have hx:L[i]?=some L[i]:=List.getElem?_eq_getElem (by omega);rw[Hx hx];exact(ih (by omega)).act (by omega) (h _ (List.getElem_mem _))
theorem Yk(g:Gr)(cr:Bool):LacOk (Ou g cr):=by
 have h1:=Be g.a 5 (by omega);have h2:=Be g.c 20 (by omega);have h3:=Be g.c 90 (by omega);have hl:(pkB g).length≤63:=by
  have:(pkP g).length=63:=Kv (Wv g);unfold pkB;split
  ·rw[List.length_take];omega
  ·omega
 rw[← RQ];unfold Ou acN
 repeat' split
 all_goals simp[bI,Fx,Hr,Hs];try omega
theorem WO{P:Lac→Prop}(h7:P (acN 7 0)){cr:Bool}(hg:∀ g,P (Ou g cr))(s:Nat)(l:List Gr):∀ x∈No cr s l,P x:=by
 induction l generalizing s with
 | nil=>intro x hx;cases hx
 | cons g l ih =>
  intro x hx;rcases List.mem_cons.1 hx with rfl|hx
  ·unfold WM;split
   ·exact h7
   ·exact hg g
  ·exact ih _ x hx
theorem cK(l:List Gr)(m:Nat)(cr:Bool):∀ x∈scr l m cr,LacOk x:=WO (by rw[← RQ];decide) (fun g=>Yk g cr) _ _
theorem WP(cr:Bool)(s:Nat)(l:List Gr):(No cr s l).length=l.length:=by
 induction l generalizing s with
 | nil=>rfl
 | cons g l ih=>rw[No,List.length_cons,ih,List.length_cons]
theorem Ze(l:List Gr)(m:Nat)(cr:Bool):(scr l m cr).length≤m:=by unfold scr;rw[WP,List.length_take];omega
end
section
open Go.RowKit
structure OT where
 M:Meet
 ly:S3
 tv:S3
 ys:Nat→S3
def oV(o:OT):List Value:=(Cv o.M o.ly o.tv).toList
def G1(g:Gh)(w:World)(l:List OT):Prop:=∀ o∈l,OutF g w o.ly o.tv o.ys o.M
theorem G1.ch{B:Nat}{T:List Tg}{g g':Gh}{w w':World}{l:List OT}(h:G1 g w l)(c:Cg B T g w g' w')(hz:Tg.z∉T):G1 g' w' l:=fun o ho=>(h o ho).ch c hz
theorem G1.snoc{g:Gh}{w:World}{l:List OT}(h:G1 g w l){o:OT}(k:OutF g w o.ly o.tv o.ys o.M):G1 g w (l++[o]):=fun p hp=>(List.mem_append.1 hp).elim (h p) fun e=>by rw[List.mem_singleton.1 e];exact k
def Fa.os(l:List OT):Fa:=⟨none,fun g w=>G1 g w l,fun hz _ c h=>h.ch c hz⟩
def Fa.ol(x:S3)(l:List OT):Fa:=⟨none,fun g w=>FzV g w x 13 (l.flatMap oV)∧G1 g w l,fun hz _ c h=>⟨h.1.ch c hz,h.2.ch c hz⟩⟩
theorem eD{W:World}(x:S3)(k:Nat)(hk:k≤x.c)(ha:x.a=none∨∃ b off,x.a=some ⟨b,off,none⟩):(Instr.sliceAt 23 x.v none (some (iv (k:Int))) (some (iv (k:Int)))).run prog W=.ok (S3.v ⟨x.a,k,k⟩) W:=by
 obtain⟨xa,xn,xc⟩:=x;have un:prog.underlying 23=some (.slice (prog.elem 23)):=by kernel_rfl
 have sz:(Go.sizeOf (prog.elem 23)).run prog W=.ok 5 W:=by kernel_rfl
 rw[run_sliceAt_slice _ _ _ _ _ _ un,run_slice_hm (P:=prog) (w:=W) _ _ _ _ un .i64 .i64 (k:Int) (k:Int) (by omega) (Int.le_refl _) (by show(k:Int)≤((xc:Nat):Int);simp only at hk;omega),sz];rcases ha with ha|⟨b,off,ha⟩
 ·simp only at ha;subst ha;simp[Result.andThen,sliced]
 ·simp only at ha;subst ha;simp[Result.andThen,sliced,Addr.add]
theorem AcR.pre{w:World}{x:S3}{L:List Lac}{l:List (Lac × S3)}(h:AcR w x L l){k:Nat}(hk:k≤L.length):AcR w ⟨x.a,k,k⟩ (L.take k) (l.take k):=by
 have hn:=h.n;have hll:l.length=L.length:=by rw[← h.e,List.length_map]
 refine⟨by rw[List.map_take,h.e],⟨by rw[R4,List.length_take,Nat.min_eq_left (by omega)],Nat.le_refl _,fun ha=>?_,?_⟩,fun p hp=>h.d p (List.mem_of_mem_take hp)⟩
 ·have h1:=h.r.nul ha;have h2:=h.r.cap;show k=0;omega
 ·rcases h.r.ex with h1|⟨b,off,h1,h2,h3⟩
  ·exact .inl (by show k=0;omega)
  ·refine .inr ⟨b,off,h1,h2,fun j u hj=>h3 j u ?_⟩;have:acV l=acV (l.take k)++acV (l.drop k):=by rw[← XF,List.take_append_drop]
   rw[this];exact List.getElem?_append_left (List.getElem?_eq_some_iff.1 hj).1▸hj
theorem OU{x:S3}{L:List Lac}{l:List (Lac × S3)}{w:World}(h:AcR w x L l)(hx0:x.a=none∨∃ b off,x.a=some ⟨b,off,none⟩)(ho:∀ a∈L,LacOk a)(hl:L.length≤1000)(hT:S8 w) :
  Calls prog 5 #[x.v] w fun e w'=>∃ (y:S3) (Q:List OT),e=.returned (.tuple #[y.v,.bool true])∧Q.map (·.M)=(List.range (L.length+1)).map (fun k=>AU.acts (L.take k))∧OwN w.heap.size w' 33 13 y (Q.flatMap oV)∧(∀ o∈Q,OutW w' o.M o.ly o.tv o.ys∧OutN w.heap.size o.M o.ly o.tv o.ys)∧Bw w w':=by
 have hxn:=h.n;have hxc:=h.r.cap;refine tIn [Fa.ac x l] func5 ⟨⟨h.r.fz,fun p hp=>⟨h.d p hp,fun _ _ _=>rfl⟩⟩,trivial⟩ ?_;refine tR 15 [] fun σ1 _ _=>?_;refine IU 29 [(0,S3.v x),(4,sn),(5,iv 0)] [] [] [Fa.ac x l,Fa.ow 0 33 13 s30 (([]:List OT).flatMap oV),Fa.os []] (fun kk ee LL ΦΦ=>∃ (k:Nat) (y:S3) (Q:List OT),kk=L.length+1-k∧ee=[(0,S3.v x),(4,S3.v y),(5,iv (k:Int))]∧LL=[]∧ΦΦ=[Fa.ac x l,Fa.ow 0 33 13 y (Q.flatMap oV),Fa.os Q]∧k≤L.length+1∧y.n=k∧Q.map (·.M)=(List.range k).map (fun k=>AU.acts (L.take k))∧(∀ o∈Q,OutN w.heap.size o.M o.ly o.tv o.ys)) (L.length+1) ⟨0,s30,[],rfl,rfl,rfl,rfl,by omega,rfl,rfl,fun o ho=>by cases ho⟩ (fun F=>⟨F.1,OwnS.nil _ _ _ _ _ _,(fun o ho=>by cases ho),trivial⟩) ?_;rintro k _ _ _ ⟨k,y,Q,rfl,rfl,rfl,rfl,hk,hyn,hQ,hN⟩ _ _ _ J hJ;refine tR 8 [] fun σ2 _ _=>?_;by_cases h1:k≤L.length
 ·refine tI ((decide ((k:Int)≤(x.n:Int)))) true (decide_eq_true (by omega)) ?_;refine tR 8 [] fun σ3 _ _=>?_;refine tV 3 (S3.v ⟨x.a,k,k⟩) (fun F C=>(eD x k (by omega) hx0)) ?_;obtain⟨M,hM⟩:∃ M,AU.acts (L.take k)=M:=⟨_,rfl⟩;refine tF fun _ Cs=>?_;have hs5:=Cs.size;refine tC 4 (fun F C=>cD ((AcR.of F.1 h.e).pre (by omega)) (fun a ha=>ho a (List.mem_of_mem_take ha)) (by rw[List.length_take];omega) (tb5 hT C) hM) fun Nz=>?_;rintro _ _ ⟨ly,tv,ys,rfl,hW,hO,b6⟩;refine⟨_,Fa.ot ly tv ys M::_,rfl,b6,fun F=>⟨Nf hW hO Nz,F⟩,?_⟩;refine tR 19 [0,0,0,0,0,0,0] fun σ7 _ _=>?_;refine Xk 3 0 (x:=y) 25 25 33 13 104 (.agg Wm) ⟨(σ7 1),0,none⟩ 1 1 (oV (OT.mk M ly tv ys)) (fun F=>F.2.2.1) [Fa.ac x l,Fa.os (Q++[OT.mk M ly tv ys])] (fun F=>⟨F.2.1,G1.snoc F.2.2.2.1 (o:=OT.mk M ly tv ys) F.1,trivial⟩) rfl (by simp[TQ]) rfl (by simp[oV,Cv,Value.oneCell']) (fun F K=>C1 K 1 (σ7 1) (oV (OT.mk M ly tv ys)) 33 .z true (by kernel_rfl)) (by unfold maxLen;omega) (by omega) fun y8 _ _ n8=>?_;refine tR 5 [] fun σ9 _ _=>?_;refine tV 1 (iv ((k:Int)+1)) (fun F C=>(AL (x:=(.tmp 12)) (y:=(.const (iv 1))) (k:Int) 1 underlying3 (by omega))) ?_;refine tR 2 [] fun σ10 _ _=>?_;exact tB hJ (L.length+1-(k+1)) (by omega) [false,false] ⟨k+1,y8,Q++[OT.mk M ly tv ys],rfl,rfl,rfl,rfl,by omega,by omega,(by rw[List.map_append,hQ,List.range_succ,List.map_append];simp[hM]),fun o ho=>(List.mem_append.1 ho).elim (hN o) fun e=>by rw[List.mem_singleton.1 e];exact hO.mono hs5⟩ (fun F=>⟨F.2.1,(by rw[List.flatMap_append];simpa using F.1),F.2.2.1,trivial⟩)
 ·refine tI ((decide ((k:Int)≤(x.n:Int)))) false (decide_eq_false (by omega)) ?_;refine tR 7 [] fun σ11 _ _=>?_;obtain rfl:k=L.length+1:=by omega
  exact tX fun F C=>qE (.tuple #[S3.v y,.bool true]) fun _=>⟨y,Q,rfl,hQ,F.2.1.own C,fun o ho=>⟨Jv (F.2.2.1 o ho),hN o ho⟩,CgQ.below C⟩
end
end Go.Proofs.YtaeckakjdagddabGreatDoor
