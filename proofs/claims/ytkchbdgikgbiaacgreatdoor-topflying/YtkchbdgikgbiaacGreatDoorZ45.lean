/- Part 45 of the walk. -/
import Derived.Test.YtkchbdgikgbiaacGreatDoorZ44
set_option maxRecDepth 100000
set_option maxHeartbeats 4000000
open Go.Proofs.Tryz
set_option linter.unusedVariables false
namespace Go.Proofs.YtkchbdgikgbiaacGreatDoor
section
open Go.RowKit
theorem Rv{g:Gh}{w:World}{ly tv:S3}{ys:Nat→S3}{M:Meet}(h:OutF g w ly tv ys M):OutW w M ly tv ys:=⟨h.logs.rd,fun j hj=>(h.log j hj).rd.rc,h.told.rd⟩
theorem aw{x:S3}{L:List Lac}{l:List (Lac × S3)}{w:World}(h:AcR w x L l)(ho:∀ a∈L,LacOk a)(hl:L.length≤100000)(hT:RI w){M:Meet}(hM:Cj.acts L=M) :
  Calls prog 26 #[x.v] w fun e w'=>∃ (ly tv:S3) (ys:Nat→S3),e=.returned (.tuple #[.agg (JX M ly tv),iv 0])∧OutW w' M ly tv ys∧OutN w.heap.size M ly tv ys∧Bw w w':=by
 subst hM;refine(XZ (h.sk (by omega)) (fun i hi=>by rw[Mj hi];exact ho _ (List.getElem_mem hi)) hl hT.1 hT.2.1 hT.2.2).mono ?_;rw[T8];rintro e w' ⟨hb,ly,tv,ys,h1,h2,h3⟩;exact⟨ly,tv,ys,h1,h2,h3,hb⟩
theorem al{x:S3}{L:List Lac}{l:List (Lac × S3)}{w:World}(h:AcR w x L l)(ho:∀ a∈L,LacOk a)(hl:L.length≤100000)(hT:RI w){M:Meet}(hM:Cj.acts L=M) :
  Calls prog 13 #[x.v] w fun e w'=>∃ (ly tv:S3) (ys:Nat→S3),e=.returned (.tuple #[.agg (JX M ly tv),.bool true])∧OutW w' M ly tv ys∧OutN w.heap.size M ly tv ys∧Bw w w':=by
 refine tIn [] func13 trivial ?_;refine tR 8 [1,0] fun σ1 _ _=>?_;refine tF fun _ Cs=>?_;have hs2:=Cs.size;refine tC 1 (fun F C=>aw (h.below (CgQ.below C)) ho hl (tb5 hT C) hM) fun Nz=>?_;rintro _ _ ⟨ly,tv,ys,rfl,hW,hN,b3⟩;refine⟨_,Fa.ot ly tv ys M::_,rfl,b3,fun F=>⟨Mu hW hN Nz,F⟩,?_⟩;refine tR 14 [0,0,1,0,9,0,1,2,4,6,8] fun σ4 _ _=>?_;refine QA 20 (fun ee LL ΦΦ=>∃ (_:Unit),ee=[(2,pt (σ1 0) 0),(3,.bool ((ly.n:Int)==5))]∧LL=[⟨(σ1 0),.cells (JX M ly tv) 33,.l,false⟩,⟨(σ4 0),.cells (JX M ly tv) 33,.z,false⟩]∧ΦΦ=[Fa.ot ly tv ys M]) (fun J hJ=>?_) ?_
 ·refine Tl 5 9 ?_ ?_
  ·refine tR 7 [1,12,14,16,19,0,0,20] fun σ5 _ _=>?_;exact tD hJ [true,true] ⟨(),rfl,rfl,rfl⟩ (fun F=>⟨F.1,trivial⟩)
  ·refine tR 7 [0,0,11,1,12,14,16,20] fun σ6 _ _=>?_;exact tD hJ [true,true] ⟨(),rfl,rfl,rfl⟩ (fun F=>⟨F.1,trivial⟩)
 rintro _ _ _ ⟨_,rfl,rfl,rfl⟩ _ _ _;have hn:(((ly.n:Nat):Int)==5)=true:=by rw[hW.n5];rfl
 exact tX fun F C=>qE2 2 3 33 0 (σ1 0) (JX M ly tv) (.bool ((ly.n:Int)==5)) fun _=>⟨ly,tv,ys,by rw[hn],Rv F.1,hN.mono hs2,CgQ.below C⟩
theorem Y8{g:Gh}{w:World}{x:S3}{l:List (Lac × S3)}(h:(Fa.ac x l).p g w){i:Nat}{p:Lac × S3}(hp:l[i]?=some p):∃ b off,x.a=some ⟨b,off,none⟩∧w.rangeAt b (off+5*i) (laV p.1 p.2.v)∧i<x.n:=by
 have hn:=(AcR.of h rfl).n;rw[List.length_map]at hn
 have hi:=(List.getElem?_eq_some_iff.1 hp).1;obtain⟨b,off,h1,_,h2⟩:=h.1.rd.spot (i:=i) (by omega);exact⟨b,off,h1,fun j u hj=>h2 j u (G7 (f:=fun p:Lac × S3=>laV p.1 p.2.v) (fun _=>rfl) l hp hj),by omega⟩
theorem acS{g:Gh}{w:World}{x:S3}{l:List (Lac × S3)}(h:(Fa.ac x l).p g w){i b off:Nat}(hx:x.a=some ⟨b,off,none⟩){a:Lac}{y:S3}(hp:l[i]?=some (a,y)):w.rangeAt b (off+5*i) (laV a y.v):=by
 obtain⟨b',off',h1,h2,_⟩:=Y8 h hp;rw[hx]at h1;cases h1;exact h2
theorem acK{g:Gh}{w:World}{x:S3}{l:List (Lac × S3)}(h:(Fa.ac x l).p g w){i b off:Nat}(hx:x.a=some ⟨b,off,none⟩){a:Lac}{y:S3}(hp:l[i]?=some (a,y)):w.cell? ⟨b,off+5*i,none⟩=some (iv a.k):=acS h hx hp 0 _ rfl
end
section
theorem RJ(M:Meet)(L:List Lac)(x:Lac):M.acts (L++[x])=(M.acts L).act x:=by unfold Meet.acts;rw[List.foldl_append];rfl
theorem KZ{M:Meet}{L:List Lac}{i:Nat}{x:Lac}(h:L[i]?=some x):M.acts (L.take (i+1))=(M.acts (L.take i)).act x:=by rw[List.take_add_one,h];exact RJ M (L.take i) x
theorem MQ(L:List Lac)(h:∀ x∈L,LacOk x)(hl:L.length≤100000):MOk L.length (Cj.acts L):=by
 suffices ∀ i,i≤L.length→MOk i (Cj.acts (L.take i))by have h1:=this L.length (Nat.le_refl _);rwa [List.take_length]at h1
 intro i;induction i with
 | zero=>intro _;exact MOk.zero
 | succ i ih =>
  intro hi;have hx:L[i]?=some L[i]:=List.getElem?_eq_getElem (by omega);rw[KZ hx];exact(ih (by omega)).act (by omega) (h _ (List.getElem_mem _))
theorem Xk(g:Gr)(cr:Bool):LacOk (NA g cr):=by
 have h1:=Ba g.a 5 (by omega);have h2:=Ba g.c 20 (by omega);have h3:=Ba g.c 90 (by omega);have hl:(pkB g).length≤63:=by
  have:(pkP g).length=63:=JZ (Vz g);unfold pkB;split
  ·rw[List.length_take];omega
  ·omega
 rw[← Rk];unfold NA acN
 repeat' split
 all_goals simp[ZD,Gs,Hf,Hg];try omega
theorem VL{P:Lac→Prop}(h7:P (acN 7 0)){cr:Bool}(hg:∀ g,P (NA g cr))(s:Nat)(l:List Gr):∀ x∈MA cr s l,P x:=by
 induction l generalizing s with
 | nil=>intro x hx;cases hx
 | cons g l ih =>
  intro x hx;rcases List.mem_cons.1 hx with rfl|hx
  ·unfold VK;split
   ·exact h7
   ·exact hg g
  ·exact ih _ x hx
theorem aA(l:List Gr)(m:Nat)(cr:Bool):∀ x∈scr l m cr,LacOk x:=VL (by rw[← Rk];decide) (fun g=>Xk g cr) _ _
theorem VM(cr:Bool)(s:Nat)(l:List Gr):(MA cr s l).length=l.length:=by
 induction l generalizing s with
 | nil=>rfl
 | cons g l ih=>rw[MA,List.length_cons,ih,List.length_cons]
theorem Yc(l:List Gr)(m:Nat)(cr:Bool):(scr l m cr).length≤m:=by unfold scr;rw[VM,List.length_take];omega
end
section
open Go.RowKit
structure OT where
 M:Meet
 ly:S3
 tv:S3
 ys:Nat→S3
def oV(o:OT):List Value:=(JX o.M o.ly o.tv).toList
def Gu(g:Gh)(w:World)(l:List OT):Prop:=∀ o∈l,OutF g w o.ly o.tv o.ys o.M
theorem Gu.ch{B:Nat}{T:List Tg}{g g':Gh}{w w':World}{l:List OT}(h:Gu g w l)(c:Cg B T g w g' w')(hz:Tg.z∉T):Gu g' w' l:=fun o ho=>(h o ho).ch c hz
theorem Gu.snoc{g:Gh}{w:World}{l:List OT}(h:Gu g w l){o:OT}(k:OutF g w o.ly o.tv o.ys o.M):Gu g w (l++[o]):=fun p hp=>(List.mem_append.1 hp).elim (h p) fun e=>by rw[List.mem_singleton.1 e];exact k
def Fa.os(l:List OT):Fa:=⟨none,fun g w=>Gu g w l,fun hz _ c h=>h.ch c hz⟩
def Fa.ol(x:S3)(l:List OT):Fa:=⟨none,fun g w=>FzV g w x 13 (l.flatMap oV)∧Gu g w l,fun hz _ c h=>⟨h.1.ch c hz,h.2.ch c hz⟩⟩
theorem cM{W:World}(x:S3)(k:Nat)(hk:k≤x.c)(ha:x.a=none∨∃ b off,x.a=some ⟨b,off,none⟩):(Instr.sliceAt 23 x.v none (some (iv (k:Int))) (some (iv (k:Int)))).run prog W=.ok (S3.v ⟨x.a,k,k⟩) W:=by
 obtain⟨xa,xn,xc⟩:=x;have un:prog.underlying 23=some (.slice (prog.elem 23)):=by kernel_rfl
 have sz:(Go.sizeOf (prog.elem 23)).run prog W=.ok 5 W:=by kernel_rfl
 rw[run_sliceAt_slice _ _ _ _ _ _ un,run_slice_hm (P:=prog) (w:=W) _ _ _ _ un .i64 .i64 (k:Int) (k:Int) (by omega) (Int.le_refl _) (by show(k:Int)≤((xc:Nat):Int);simp only at hk;omega),sz];rcases ha with ha|⟨b,off,ha⟩
 ·simp only at ha;subst ha;simp[Result.andThen,sliced]
 ·simp only at ha;subst ha;simp[Result.andThen,sliced,Addr.add]
theorem AcR.pre{w:World}{x:S3}{L:List Lac}{l:List (Lac × S3)}(h:AcR w x L l){k:Nat}(hk:k≤L.length):AcR w ⟨x.a,k,k⟩ (L.take k) (l.take k):=by
 have hn:=h.n;have hll:l.length=L.length:=by rw[← h.e,List.length_map]
 refine⟨by rw[List.map_take,h.e],⟨by rw[QO,List.length_take,Nat.min_eq_left (by omega)],Nat.le_refl _,fun ha=>?_,?_⟩,fun p hp=>h.d p (List.mem_of_mem_take hp)⟩
 ·have h1:=h.r.nul ha;have h2:=h.r.cap;show k=0;omega
 ·rcases h.r.ex with h1|⟨b,off,h1,h2,h3⟩
  ·exact .inl (by show k=0;omega)
  ·refine .inr ⟨b,off,h1,h2,fun j u hj=>h3 j u ?_⟩;have:acV l=acV (l.take k)++acV (l.drop k):=by rw[← WG,List.take_append_drop]
   rw[this];exact List.getElem?_append_left (List.getElem?_eq_some_iff.1 hj).1▸hj
theorem Oo{x:S3}{L:List Lac}{l:List (Lac × S3)}{w:World}(h:AcR w x L l)(hx0:x.a=none∨∃ b off,x.a=some ⟨b,off,none⟩)(ho:∀ a∈L,LacOk a)(hl:L.length≤1000)(hT:RI w) :
  Calls prog 10 #[x.v] w fun e w'=>∃ (y:S3) (Q:List OT),e=.returned (.tuple #[y.v,.bool true])∧Q.map (·.M)=(List.range (L.length+1)).map (fun k=>Cj.acts (L.take k))∧OwN w.heap.size w' 33 13 y (Q.flatMap oV)∧(∀ o∈Q,OutW w' o.M o.ly o.tv o.ys∧OutN w.heap.size o.M o.ly o.tv o.ys)∧Bw w w':=by
 have hxn:=h.n;have hxc:=h.r.cap;refine tIn [Fa.ac x l] func10 ⟨⟨h.r.fz,fun p hp=>⟨h.d p hp,fun _ _ _=>rfl⟩⟩,trivial⟩ ?_;refine tR 15 [] fun σ1 _ _=>?_;refine LJ 29 [(0,S3.v x),(4,sn),(5,iv 0)] [] [] [Fa.ac x l,Fa.ow 0 33 13 s30 (([]:List OT).flatMap oV),Fa.os []] (fun kk ee LL ΦΦ=>∃ (k:Nat) (y:S3) (Q:List OT),kk=L.length+1-k∧ee=[(0,S3.v x),(4,S3.v y),(5,iv (k:Int))]∧LL=[]∧ΦΦ=[Fa.ac x l,Fa.ow 0 33 13 y (Q.flatMap oV),Fa.os Q]∧k≤L.length+1∧y.n=k∧Q.map (·.M)=(List.range k).map (fun k=>Cj.acts (L.take k))∧(∀ o∈Q,OutN w.heap.size o.M o.ly o.tv o.ys)) (L.length+1) ⟨0,s30,[],rfl,rfl,rfl,rfl,by omega,rfl,rfl,fun o ho=>by cases ho⟩ (fun F=>⟨F.1,OwnS.nil _ _ _ _ _ _,(fun o ho=>by cases ho),trivial⟩) ?_;rintro k _ _ _ ⟨k,y,Q,rfl,rfl,rfl,rfl,hk,hyn,hQ,hN⟩ _ _ _ J hJ;refine tR 8 [] fun σ2 _ _=>?_;by_cases h1:k≤L.length
 ·refine tI ((decide ((k:Int)≤(x.n:Int)))) true (decide_eq_true (by omega)) ?_;refine tR 8 [] fun σ3 _ _=>?_;refine tV 3 (S3.v ⟨x.a,k,k⟩) (fun F C=>(cM x k (by omega) hx0)) ?_;obtain⟨M,hM⟩:∃ M,Cj.acts (L.take k)=M:=⟨_,rfl⟩;refine tF fun _ Cs=>?_;have hs5:=Cs.size;refine tC 4 (fun F C=>al ((AcR.of F.1 h.e).pre (by omega)) (fun a ha=>ho a (List.mem_of_mem_take ha)) (by rw[List.length_take];omega) (tb5 hT C) hM) fun Nz=>?_;rintro _ _ ⟨ly,tv,ys,rfl,hW,hO,b6⟩;refine⟨_,Fa.ot ly tv ys M::_,rfl,b6,fun F=>⟨Mu hW hO Nz,F⟩,?_⟩;refine tR 19 [0,0,0,0,0,0,0] fun σ7 _ _=>?_;refine Wg 3 0 (x:=y) 25 25 33 13 104 (.agg Vq) ⟨(σ7 1),0,none⟩ 1 1 (oV (OT.mk M ly tv ys)) (fun F=>F.2.2.1) [Fa.ac x l,Fa.os (Q++[OT.mk M ly tv ys])] (fun F=>⟨F.2.1,Gu.snoc F.2.2.2.1 (o:=OT.mk M ly tv ys) F.1,trivial⟩) rfl (by simp[TQ]) rfl (by simp[oV,JX,Value.oneCell']) (fun F K=>CE K 1 (σ7 1) (oV (OT.mk M ly tv ys)) 33 .z true (by kernel_rfl)) (by unfold maxLen;omega) (by omega) fun y8 _ _ n8=>?_;refine tR 5 [] fun σ9 _ _=>?_;refine tV 1 (iv ((k:Int)+1)) (fun F C=>(AN (x:=(.tmp 12)) (y:=(.const (iv 1))) (k:Int) 1 underlying3 (by omega))) ?_;refine tR 2 [] fun σ10 _ _=>?_;exact tB hJ (L.length+1-(k+1)) (by omega) [false,false] ⟨k+1,y8,Q++[OT.mk M ly tv ys],rfl,rfl,rfl,rfl,by omega,by omega,(by rw[List.map_append,hQ,List.range_succ,List.map_append];simp[hM]),fun o ho=>(List.mem_append.1 ho).elim (hN o) fun e=>by rw[List.mem_singleton.1 e];exact hO.mono hs5⟩ (fun F=>⟨F.2.1,(by rw[List.flatMap_append];simpa using F.1),F.2.2.1,trivial⟩)
 ·refine tI ((decide ((k:Int)≤(x.n:Int)))) false (decide_eq_false (by omega)) ?_;refine tR 7 [] fun σ11 _ _=>?_;obtain rfl:k=L.length+1:=by omega
  exact tX fun F C=>qE (.tuple #[S3.v y,.bool true]) fun _=>⟨y,Q,rfl,hQ,F.2.1.own C,fun o ho=>⟨Rv (F.2.2.1 o ho),hN o ho⟩,CgQ.below C⟩
end
section
theorem Lj(M:Meet)(l:Let):(M.come l).lets=M.lets:=by unfold Meet.come;split<;>rfl
theorem Ps(l:List Let)(M:Meet):(l.foldl (fun M l=>M.come l) M).lets=M.lets:=by
 induction l generalizing M with
 | nil=>rfl
 | cons x l ih=>exact(ih _).trans (Lj M x)
theorem SE(M:Meet)(k:Int)(a:Nat):(M.move k a).lets.length=if k≠6 then M.lets.length-1 else M.lets.length:=by
 unfold Meet.move;split
 ·rename_i h
  have h0:M.lets.length=0:=by
   rcases Nat.eq_zero_or_pos M.lets.length with h0|h0
   ·exact h0
   ·rw[List.getElem?_eq_getElem (Nat.mod_lt _ h0)]at h;cases h
  rw[h0];split<;>rfl
 ·rename_i l h
  have hi:=(List.getElem?_eq_some_iff.1 h).1;have hA:(if k≠6 then{ M with lets:=M.lets.eraseIdx (a%M.lets.length) }else M).lets.length=if k≠6 then M.lets.length-1 else M.lets.length:=by
   split
   ·exact List.length_eraseIdx_of_lt hi
   ·rfl
  simp only;split
  ·rw[Lj];exact hA
  ·exact hA
theorem Px(i:Nat)(l:List Pend)(p:Nod)(ls:List Let):ls.length≤(Ci i l p ls).2.length:=by
 induction l generalizing p ls with
 | nil=>exact Nat.le_refl _
 | cons q l ih =>
  have:=ih (p.runP i q) (ls++p.sentP i q);rw[List.length_append]at this
  exact Nat.le_trans (Nat.le_add_right _ _) this
theorem Qr(p:Nod)(i:Nat)(ls:List Let)(ts:List Tol):ls.length≤(p.piece i ls ts).2.1.length:=by
 unfold Nod.piece;simp only;generalize (doP i (p.agreed.drop p.done) p ts).1.askd i=b;generalize hk:ls++b.2=k;have h1:ls.length≤k.length:=by rw[← hk,List.length_append];omega
 have h2:k.length≤(b.1.propose.syncd i k).2.length:=by
  unfold Nod.syncd;split
  ·exact Nat.le_refl _
  ·exact Px i _ _ _
 have h3:(b.1.propose.syncd i k).2.length≤((b.1.propose.syncd i k).1.taught i (b.1.propose.syncd i k).2).2.length:=by
  unfold Nod.taught;split
  ·rw[List.length_append];omega
  ·exact Nat.le_refl _
 omega
def Ec(k:Int)(a b:Nat):Nat:=if k=4∨k=5 then a-1 else if k=6∨k=1∨k=2∨k=8∨k=9 then a else if k=7 then 0 else if k=3 then max a b else b
theorem WI(M:Meet)(x:Lac):Ec x.k M.lets.length (M.act x).lets.length=(M.act x).lets.length:=by
 unfold Meet.act;simp only;by_cases h1:x.k=1
 ·rw[if_pos h1];unfold Ec;rw[if_neg (by omega),if_pos (by omega)];rfl
 ·rw[if_neg h1];by_cases h2:x.k=2
  ·rw[if_pos h2];unfold Ec;rw[if_neg (by omega),if_pos (by omega)];rfl
  ·rw[if_neg h2];by_cases h3:x.k=3
   ·rw[if_pos h3];unfold Ec;rw[if_neg (by omega),if_neg (by omega),if_neg (by omega),if_pos h3];show max M.lets.length (if _ then _ else M.lets).length=(if _ then _ else M.lets).length;split
    ·exact Nat.max_eq_right (Qr _ _ _ _)
    ·exact Nat.max_self _
   ·rw[if_neg h3];by_cases h4:x.k=4∨x.k=5∨x.k=6
    ·rw[if_pos h4,SE];unfold Ec;by_cases h6:x.k=6
     ·rw[if_neg (by omega),if_pos (by omega),if_neg (by omega)]
     ·rw[if_pos (by omega),if_pos h6]
    ·rw[if_neg h4];by_cases h7:x.k=7
     ·rw[if_pos h7];unfold Ec;rw[if_neg (by omega),if_neg (by omega),if_pos h7];unfold Meet.comeAll;rw[Ps];rfl
     ·rw[if_neg h7];by_cases h8:x.k=8
      ·rw[if_pos h8];unfold Ec;rw[if_neg (by omega),if_pos (by omega)];rfl
      ·rw[if_neg h8];by_cases h9:x.k=9
       ·rw[if_pos h9];unfold Ec;rw[if_neg (by omega),if_pos (by omega)];rfl
       ·rw[if_neg h9];unfold Ec;rw[if_neg (by omega),if_neg (by omega),if_neg h7,if_neg h3]
end
section
open Go.RowKit
theorem VA{W:World}{a b:Int}{c:Nat}(h:max a b=(c:Int)):(Builtin.max_ #[3,3] 3 #[iv a,iv b]).run prog W=.ok (iv (c:Int)) W:=by rw[ZX,h]
theorem V7{W:World}{x:S3}{b off:Nat}(ha:x.a=some ⟨b,off,none⟩)(k:Nat)(hk:k<x.n){j:Int}(hj:j=(k:Int)):(Instr.indexAt 25 x.v (iv j)).run prog W=.ok (pt b (off+13*k)) W:=by
 subst hj;obtain⟨xa,xn,xc⟩:=x;simp only at ha hk;subst ha;exact Oy (P:=prog) (e:=33) (z:=13) underlying25 (by kernel_rfl) (by kernel_rfl) hk _ rfl
theorem co{g:Gh}{w:World}{x:S3}{l:List OT}(h:(Fa.ol x l).p g w):x.n=l.length:=by
 have:=h.1.rd.len;rw[Eb (f:=oV) (sz:=13) (fun _=>rfl)]at this
 omega
theorem Vk{g:Gh}{w:World}{x:S3}{l:List OT}(h:(Fa.ol x l).p g w){i b off:Nat}(hx:x.a=some ⟨b,off,none⟩){o:OT}(ho:l[i]?=some o){j:Nat}{u:Value}(hu:(oV o)[j]?=some u):w.cell? ⟨b,off+13*i+j,none⟩=some u:=by
 have hn:=co h;have hi:=(List.getElem?_eq_some_iff.1 ho).1;obtain⟨b',off',h1,_,h2⟩:=h.1.rd.spot (i:=i) (by omega);rw[hx]at h1;cases h1
 exact h2 j u (G7 (f:=oV) (sz:=13) (fun _=>rfl) l ho hu)
theorem Mv{Q:List OT}{L:List Lac}(h:Q.map (·.M)=(List.range (L.length+1)).map fun k=>Cj.acts (L.take k)){i:Nat}(hi:i≤L.length):∃ o,Q[i]?=some o∧o.M=Cj.acts (L.take i):=by
 have h1:=congrArg (·[i]?) h;simp only[List.getElem?_map,List.getElem?_range (show i<L.length+1 by omega),Option.map_some]at h1;cases hq:Q[i]? with
 | none=>rw[hq]at h1;cases h1
 | some o=>rw[hq]at h1;exact⟨o,rfl,by simpa using h1⟩
theorem Kv{l:S3}{G:List Gr}{w:World}(h:RdV w l 5 (grL G))(hG:∀ g∈G,GrOk g)(hT:RI w) :
  Calls prog 3 #[l.v] w fun e w'=>e=.returned (.bool true)∧Bw w w':=by
 obtain⟨L,hL⟩:∃ L,scr G 60 true=L:=⟨_,rfl⟩;have hok:=aA G 60 true;have hln:=Yc G 60 true;rw[hL]at hok hln
 refine tIn [] func3 trivial ?_;refine tR 7 [] fun σ1 _ _=>?_;refine tC 1 (fun F C=>Td (most:=60) (cr:=true) (h.below (CgQ.below C)) hG (by decide) (tbA hT.1 C)) fun Nz=>?_;rintro _ _ ⟨s,P,rfl,hP,hN,b2⟩;refine⟨_,Fa.ac s P::_,rfl,b2,fun F=>⟨hN.ac Nz,F⟩,?_⟩;rw[hL]at hP
 have hPl:P.length=L.length:=by rw[← hP,List.length_map]
 refine tF fun F _=>?_;have hsn:=(AcR.of F.1 hP).n;refine tR 5 [] fun σ3 _ _=>?_;refine tC 1 (fun F C=>Oo (AcR.of F.1 hP) (by rcases hN.o.ex with⟨h,_⟩|⟨b,cur,_,h,_⟩;exact .inl h;exact .inr ⟨b,0,h⟩) hok (by omega) (tb5 hT C)) fun Nz=>?_;rintro _ _ ⟨y,Q,rfl,hQ,hy,hO,b4⟩;refine⟨_,Fa.ol y Q::_,rfl,b4,fun F=>⟨⟨hy.fz Nz,fun o ho=>Mu (hO o ho).1 (hO o ho).2 Nz⟩,F⟩,?_⟩;refine tF fun F _=>?_;have hyn:y.n=L.length+1:=by rw[co F.1];have:=congrArg List.length hQ;simpa using this
 obtain⟨b0,off0,hy0,_⟩:=F.1.1.rd.spot (i:=0) (by omega);refine tR 12 [] fun σ5 _ _=>?_;refine LJ 72 [(3,S3.v s),(4,S3.v y),(5,.bool true),(6,iv 0)] [] [] [Fa.ac s P,Fa.ol y Q] (fun kk ee LL ΦΦ=>∃ (i:Nat),kk=L.length-i∧ee=[(3,S3.v s),(4,S3.v y),(5,.bool true),(6,iv (i:Int))]∧LL=[]∧ΦΦ=[Fa.ac s P,Fa.ol y Q]∧i≤L.length) (L.length) ⟨0,rfl,rfl,rfl,rfl,by omega⟩ (fun F=>⟨F.2.1,F.1,trivial⟩) ?_;rintro k _ _ _ ⟨i,rfl,rfl,rfl,rfl,hi⟩ _ _ _ J hJ;refine tR 4 [] fun σ6 _ _=>?_;refine tV 1 (iv ((i:Int)+1)) (fun F C=>(AN (x:=(.tmp 17)) (y:=(.const (iv 1))) (i:Int) 1 underlying3 (by omega))) ?_;refine tR 4 [] fun σ7 _ _=>?_;by_cases h1:i<L.length
 ·refine tI ((decide (((i:Int)+1)<(y.n:Int)))) true (decide_eq_true (by omega)) ?_;obtain⟨⟨a,yd⟩,ha⟩:∃ a,P[i]?=some a:=⟨_,List.getElem?_eq_getElem (by omega)⟩;have haL:L[i]?=some a:=by rw[← hP,List.getElem?_map,ha];rfl
  obtain⟨o,ho,hoM⟩:=Mv hQ (i:=i) (by omega);obtain⟨o2,ho2,hoM2⟩:=Mv hQ (i:=i+1) (by omega);have hfl:=WI (Cj.acts (L.take i)) a;rw[← KZ haL,← hoM,← hoM2]at hfl
  have hA:=(MQ (L.take i) (fun x hx=>hok x (List.mem_of_mem_take hx)) (by rw[List.length_take];omega)).wt;rw[List.length_take,← hoM]at hA
  have hB:=(MQ (L.take (i+1)) (fun x hx=>hok x (List.mem_of_mem_take hx)) (by rw[List.length_take];omega)).wt;rw[List.length_take,← hoM2]at hB
  refine tF fun F _=>?_;obtain⟨b,off,hxa,_,hin⟩:=Y8 F.1 ha;refine tR 7 [] fun σ8 _ _=>?_;refine tV 2 (pt b0 (off0+13*i)) (fun F C=>(V7 hy0 i (by omega) rfl)) ?_;refine tR 1 [] fun σ9 _ _=>?_;refine tV 4 (iv (o.M.lets.length:Int)) (fun F C=>(CI underlying3 rfl (Vk F.2.1 hy0 ho (j:=0) rfl))) ?_;refine tR 6 [] fun σ10 _ _=>?_;refine tV 2 (iv ((i:Int)+1)) (fun F C=>(AN (x:=(.tmp 30)) (y:=(.const (iv 1))) (i:Int) 1 underlying3 (by omega))) ?_;refine tV 3 (pt b0 (off0+13*(i+1))) (fun F C=>(V7 hy0 (i+1) (by omega) rfl)) ?_;refine tR 1 [] fun σ12 _ _=>?_;refine tV 5 (iv (o2.M.lets.length:Int)) (fun F C=>(CI underlying3 rfl (Vk F.2.1 hy0 ho2 (j:=0) rfl))) ?_;generalize o.M.lets.length=A at hfl hA ⊢;generalize o2.M.lets.length=B at hfl hB ⊢;refine tR 12 [] fun σ13 _ _=>?_;refine tV 2 (pt b (off+5*i)) (fun F C=>(V6 (c:=s.c) hxa i hin)) ?_;refine tR 1 [] fun σ14 _ _=>?_;refine tV 4 (iv a.k) (fun F C=>(CI underlying3 rfl (acK F.1 hxa ha))) ?_;refine tR 1 [] fun σ15 _ _=>?_;refine QA 72 (fun ee LL ΦΦ=>∃ (x:Nat),ee=[(3,S3.v s),(4,S3.v y),(5,.bool true),(6,iv (i:Int)),(8,iv (B:Int)),(9,iv (x:Int))]∧LL=[]∧ΦΦ=[Fa.ac s P,Fa.ol y Q]∧x=Ec a.k A B) (fun J hJ=>?_) ?_
  ·refine tR 7 [] fun σ16 _ _=>?_;by_cases k4:a.k=4
   ·refine tI ((a.k==4)) true (by simpa using k4) ?_;refine tR 1 [] fun σ17 _ _=>?_;refine tI ((a.k==4)) true (by simpa using k4) ?_;refine tR 2 [] fun σ18 _ _=>?_;refine tV 1 (iv ((A:Int)-1)) (fun F C=>(XS (x:=(.tmp 44)) (y:=(.const (iv 1))) (A:Int) 1 underlying3 (by omega))) ?_;refine tV 2 (iv ((A-1:Nat):Int)) (fun F C=>(VA (a:=(A:Int)-1) (b:=0) (by omega))) ?_;refine tR 3 [] fun σ20 _ _=>?_;exact tD hJ [] ⟨(A-1),rfl,rfl,rfl,(by unfold Ec;repeat first|rw[if_pos (by omega)]|rw[if_neg (by omega)])⟩ (fun F=>⟨F.1,F.2.1,trivial⟩)
   ·refine tI ((a.k==4)) false (by simpa using k4) ?_;refine tR 4 [] fun σ21 _ _=>?_;by_cases k5:a.k=5
    ·refine tI ((a.k==5)) true (by simpa using k5) ?_;refine tR 2 [] fun σ22 _ _=>?_;refine tV 1 (iv ((A:Int)-1)) (fun F C=>(XS (x:=(.tmp 44)) (y:=(.const (iv 1))) (A:Int) 1 underlying3 (by omega))) ?_;refine tV 2 (iv ((A-1:Nat):Int)) (fun F C=>(VA (a:=(A:Int)-1) (b:=0) (by omega))) ?_;refine tR 3 [] fun σ24 _ _=>?_;exact tD hJ [] ⟨(A-1),rfl,rfl,rfl,(by unfold Ec;repeat first|rw[if_pos (by omega)]|rw[if_neg (by omega)])⟩ (fun F=>⟨F.1,F.2.1,trivial⟩)
    ·refine tI ((a.k==5)) false (by simpa using k5) ?_;refine tR 6 [] fun σ25 _ _=>?_;by_cases k6:a.k=6
     ·refine tI ((a.k==6)) true (by simpa using k6) ?_;refine tR 1 [] fun σ26 _ _=>?_;refine tI ((a.k==6)) true (by simpa using k6) ?_;refine tR 5 [] fun σ27 _ _=>?_;exact tD hJ [] ⟨A,rfl,rfl,rfl,(by unfold Ec;repeat first|rw[if_pos (by omega)]|rw[if_neg (by omega)])⟩ (fun F=>⟨F.1,F.2.1,trivial⟩)
     ·refine tI ((a.k==6)) false (by simpa using k6) ?_;refine tR 5 [] fun σ28 _ _=>?_;by_cases k1:a.k=1
      ·refine tI ((a.k==1)) true (by simpa using k1) ?_;refine tR 1 [] fun σ29 _ _=>?_;refine tI ((a.k==1)) true (by simpa using k1) ?_;refine tR 5 [] fun σ30 _ _=>?_;exact tD hJ [] ⟨A,rfl,rfl,rfl,(by unfold Ec;repeat first|rw[if_pos (by omega)]|rw[if_neg (by omega)])⟩ (fun F=>⟨F.1,F.2.1,trivial⟩)
      ·refine tI ((a.k==1)) false (by simpa using k1) ?_;refine tR 5 [] fun σ31 _ _=>?_;by_cases k2:a.k=2
       ·refine tI ((a.k==2)) true (by simpa using k2) ?_;refine tR 1 [] fun σ32 _ _=>?_;refine tI ((a.k==2)) true (by simpa using k2) ?_;refine tR 5 [] fun σ33 _ _=>?_;exact tD hJ [] ⟨A,rfl,rfl,rfl,(by unfold Ec;repeat first|rw[if_pos (by omega)]|rw[if_neg (by omega)])⟩ (fun F=>⟨F.1,F.2.1,trivial⟩)
       ·refine tI ((a.k==2)) false (by simpa using k2) ?_;refine tR 5 [] fun σ34 _ _=>?_;by_cases k8:a.k=8
        ·refine tI ((a.k==8)) true (by simpa using k8) ?_;refine tR 1 [] fun σ35 _ _=>?_;refine tI ((a.k==8)) true (by simpa using k8) ?_;refine tR 5 [] fun σ36 _ _=>?_;exact tD hJ [] ⟨A,rfl,rfl,rfl,(by unfold Ec;repeat first|rw[if_pos (by omega)]|rw[if_neg (by omega)])⟩ (fun F=>⟨F.1,F.2.1,trivial⟩)
        ·refine tI ((a.k==8)) false (by simpa using k8) ?_;refine tR 4 [] fun σ37 _ _=>?_;by_cases k9:a.k=9
         ·refine tI ((a.k==9)) true (by simpa using k9) ?_;refine tR 5 [] fun σ38 _ _=>?_;exact tD hJ [] ⟨A,rfl,rfl,rfl,(by unfold Ec;repeat first|rw[if_pos (by omega)]|rw[if_neg (by omega)])⟩ (fun F=>⟨F.1,F.2.1,trivial⟩)
         ·refine tI ((a.k==9)) false (by simpa using k9) ?_;refine tR 5 [] fun σ39 _ _=>?_;by_cases k7:a.k=7
          ·refine tI ((a.k==7)) true (by simpa using k7) ?_;refine tR 4 [] fun σ40 _ _=>?_;exact tD hJ [] ⟨0,rfl,rfl,rfl,(by unfold Ec;repeat first|rw[if_pos (by omega)]|rw[if_neg (by omega)])⟩ (fun F=>⟨F.1,F.2.1,trivial⟩)
          ·refine tI ((a.k==7)) false (by simpa using k7) ?_;refine tR 5 [] fun σ41 _ _=>?_;by_cases k3:a.k=3
           ·refine tI ((a.k==3)) true (by simpa using k3) ?_;refine tR 3 [] fun σ42 _ _=>?_;refine tV 2 (iv ((max A B:Nat):Int)) (fun F C=>(VA (a:=(A:Int)) (b:=(B:Int)) (by omega))) ?_;refine tR 3 [] fun σ43 _ _=>?_;exact tD hJ [] ⟨(max A B),rfl,rfl,rfl,(by unfold Ec;repeat first|rw[if_pos (by omega)]|rw[if_neg (by omega)])⟩ (fun F=>⟨F.1,F.2.1,trivial⟩)
           ·refine tI ((a.k==3)) false (by simpa using k3) ?_;refine tR 2 [] fun σ44 _ _=>?_;exact tD hJ [] ⟨B,rfl,rfl,rfl,(by unfold Ec;repeat first|rw[if_pos (by omega)]|rw[if_neg (by omega)])⟩ (fun F=>⟨F.1,F.2.1,trivial⟩)
  rintro _ _ _ ⟨x,rfl,rfl,rfl,hx⟩ _ _ _;rw[hfl]at hx
  refine tR 6 [] fun σ45 _ _=>?_;refine tI (((B:Int) != (x:Int))) false (by rw[hx];simp) ?_;refine tR 4 [] fun σ46 _ _=>?_;refine tV 1 (iv ((i:Int)+1)) (fun F C=>(AN (x:=(.tmp 22)) (y:=(.const (iv 1))) (i:Int) 1 underlying3 (by omega))) ?_;refine tR 2 [] fun σ47 _ _=>?_;exact tB hJ (L.length-(i+1)) (by omega) [] ⟨i+1,rfl,rfl,rfl,rfl,by omega⟩ (fun F=>⟨F.1,F.2.1,trivial⟩)
 ·refine tI ((decide (((i:Int)+1)<(y.n:Int)))) false (decide_eq_false (by omega)) ?_;obtain⟨o,ho,hoM⟩:=Mv hQ (i:=0) (by omega);refine tR 6 [] fun σ48 _ _=>?_;refine tV 3 (pt b0 (off0+13*0)) (fun F C=>(V7 hy0 0 (by omega) rfl)) ?_;refine tR 2 [] fun σ49 _ _=>?_;refine tV 6 (.bool true) (fun F C=>(CI underlying4 rfl (Vk F.2.1 hy0 ho (j:=1) (by show some (Value.bool (o.M.node 0).up)=_;rw[hoM];rfl)))) ?_;refine tR 3 [] fun σ50 _ _=>?_;exact tE (.bool true) fun _ B=>⟨rfl,B⟩
end
end Go.Proofs.YtkchbdgikgbiaacGreatDoor
