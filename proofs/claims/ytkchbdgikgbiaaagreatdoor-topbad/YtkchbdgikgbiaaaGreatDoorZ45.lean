/- Part 45 of the walk: what the functions of the program do, one by one. -/
import Derived.ChangeKeysEq
import Derived.Test.YtkchbdgikgbiaaaGreatDoorZ44
set_option maxRecDepth 100000
set_option maxHeartbeats 4000000
open Go.Proofs.Tryz
set_option linter.unusedVariables false
namespace Go.Proofs.YtkchbdgikgbiaaaGreatDoor
open Go.RowKit
theorem Y0{g:Gh}{w:World}{ly tv:S3}{ys:Nat→S3}{M:Meet}(h:OutF g w ly tv ys M):OutW w M ly tv ys:=⟨h.logs.rd,fun j hj=>(h.log j hj).rd.rc,h.told.rd⟩
theorem bQ{x:S3}{L:List Lac}{l:List (Lac × S3)}{w:World}(h:AcR w x L l)(ho:∀ a∈L,LacOk a)(hl:L.length≤100000)(hT:Ul w){M:Meet}(hM:CE.acts L=M) :
  Calls prog 21 #[x.v] w fun e w'=>∃ (ly tv:S3) (ys:Nat→S3),e=.returned (.tuple #[.agg (Fw M ly tv),iv 0])∧OutW w' M ly tv ys∧OutN w.heap.size M ly tv ys∧Bw w w':=by
 subst hM;refine(YJ (h.sk (by omega)) (fun i hi=>by rw[MH hi];exact ho _ (List.getElem_mem hi)) hl hT.1 hT.2.1 hT.2.2).mono ?_;rw[Uo];rintro e w' ⟨hb,ly,tv,ys,h1,h2,h3⟩;exact⟨ly,tv,ys,h1,h2,h3,hb⟩
theorem bL{x:S3}{L:List Lac}{l:List (Lac × S3)}{w:World}(h:AcR w x L l)(ho:∀ a∈L,LacOk a)(hl:L.length≤100000)(hT:Ul w){M:Meet}(hM:CE.acts L=M) :
  Calls prog 12 #[x.v] w fun e w'=>∃ (ly tv:S3) (ys:Nat→S3),e=.returned (.tuple #[.agg (Fw M ly tv),.bool true])∧OutW w' M ly tv ys∧OutN w.heap.size M ly tv ys∧Bw w w':=by
 refine tIn [] func12 trivial ?_;refine tR 8 [1,0] fun σ1 _ _=>?_;refine tF fun _ Cs=>?_;have hs2:=Cs.size;refine tC 1 (fun F C=>bQ (h.below (CgQ.below C)) ho hl (tb5 hT C) hM) fun Nz=>?_;rintro _ _ ⟨ly,tv,ys,rfl,hW,hN,b3⟩;refine⟨_,Fa.ot ly tv ys M::_,rfl,b3,fun F=>⟨RT hW hN Nz,F⟩,?_⟩;refine tR 14 [0,0,1,0,9,0,1,2,4,6,8] fun σ4 _ _=>?_;refine TJ 20 (fun ee LL ΦΦ=>∃ (_:Unit),ee=[(2,pt (σ1 0) 0),(3,.bool ((ly.n:Int)==5))]∧LL=[⟨(σ1 0),.cells (Fw M ly tv) 34,.l,false⟩,⟨(σ4 0),.cells (Fw M ly tv) 34,.z,false⟩]∧ΦΦ=[Fa.ot ly tv ys M]) (fun J hJ=>?_) ?_
 ·refine TL 5 9 ?_ ?_
  ·refine tR 7 [1,12,14,16,19,0,0,20] fun σ5 _ _=>?_;exact tD hJ [true,true] ⟨(),rfl,rfl,rfl⟩ (fun F=>⟨F.1,trivial⟩)
  ·refine tR 7 [0,0,11,1,12,14,16,20] fun σ6 _ _=>?_;exact tD hJ [true,true] ⟨(),rfl,rfl,rfl⟩ (fun F=>⟨F.1,trivial⟩)
 rintro _ _ _ ⟨_,rfl,rfl,rfl⟩ _ _ _;have hn:(((ly.n:Nat):Int)==5)=true:=by rw[hW.n5];rfl
 exact tX fun F C=>qE2 2 3 34 0 (σ1 0) (Fw M ly tv) (.bool ((ly.n:Int)==5)) fun _=>⟨ly,tv,ys,by rw[hn],Y0 F.1,hN.mono hs2,CgQ.below C⟩
end Go.Proofs.YtkchbdgikgbiaaaGreatDoor
namespace Go.Proofs.YtkchbdgikgbiaaaGreatDoor
def Nod.ub(p:Nod):Bool × Nat:=(p.up,p.bad)
theorem Ky(p:Nod)(b:Bal):(p.promise b).1.ub=p.ub:=by
 unfold Nod.promise;split
 ·rfl
 ·split
  ·rfl
  ·split<;>rfl
theorem So(p:Nod)(v:Vt):(p.vote v).1.ub=p.ub:=by
 unfold Nod.vote;split
 ·rfl
 ·split
  ·rfl
  ·split<;>rfl
theorem NQ(p:Nod)(j:Nat)(v:Vt):(p.count j v).ub=p.ub:=by
 unfold Nod.count;split
 ·rfl
 ·split<;>rfl
theorem Mh(p:Nod)(to:Nat)(e:Int):(p.refuse to e).ub=p.ub:=by unfold Nod.refuse;split<;>rfl
theorem JQ(p:Nod)(l:List Cmd):(p.enqueue l).ub=p.ub:=by unfold Nod.enqueue;split<;>rfl
theorem YY(p:Nod)(l:Let):(p.take l).ub=p.ub:=by
 unfold Nod.take;split
 ·split
  ·exact Mh _ _ _
  ·exact Ky p l.bal
 ·simp only;split<;>rfl
 ·rfl
 ·split
  ·exact Mh _ _ _
  ·exact So p l.vote
 ·exact NQ p _ _
 ·split<;>rfl
 ·simp only;split<;>exact JQ p l.what
 ·rfl
theorem YI(p:Nod)(i:Nat)(q:Pend):(p.runP i q).ub=p.ub:=by
 cases q with
 | began b vs=>unfold Nod.runP;simp only;split<;>rfl
 | prop v=>exact NQ p i v
 | _=>rfl
theorem UX(i:Nat)(l:List Pend)(p:Nod)(ls:List Let):(Cp i l p ls).1.ub=p.ub:=by
 induction l generalizing p ls with
 | nil=>rfl
 | cons q l ih=>exact(ih _ _).trans (YI p i q)
theorem Ue(p:Nod)(c:Cmd):(p.unwant c).ub=p.ub:=by unfold Nod.unwant;split<;>rfl
theorem aD(i:Nat)(l:List Cmd)(p:Nod)(ts:List Tol):(doP i l p ts).1.ub=p.ub:=by
 induction l generalizing p ts with
 | nil=>rfl
 | cons c l ih =>
  rw[doP];split
  ·rfl
  ·exact(ih _ _).trans (Ue _ _)
theorem X3(p:Nod)(i:Nat):(p.askd i).1.ub=p.ub:=by
 unfold Nod.askd;split
 ·rfl
 ·split
  ·exact JQ _ _
  ·rfl
theorem QQ(p:Nod):p.propose.ub=p.ub:=by
 unfold Nod.propose;split
 ·rfl
 ·split
  ·rfl
  ·split
   ·rfl
   ·exact So p _
theorem WR(p:Nod)(i:Nat)(ls:List Let):(p.syncd i ls).1.ub=p.ub:=by
 unfold Nod.syncd;split
 ·rfl
 ·rw[UX];unfold Nod.syn;split<;>rfl
theorem Ua(p:Nod)(i:Nat)(ls:List Let):(p.taught i ls).1.ub=p.ub:=by unfold Nod.taught;split<;>rfl
theorem Wg(p:Nod)(i:Nat)(ls:List Let)(ts:List Tol):(p.piece i ls ts).1.ub=p.ub:=by
 unfold Nod.piece;simp only;rw[Ua,WR,QQ,X3,aD]
theorem Yj(p:Nod)(i:Nat):(p.lead i).ub=p.ub:=by
 unfold Nod.lead;simp only;split
 ·rfl
 ·exact Ky p _
theorem R5(M:Meet)(l:Let)(j:Nat):((M.come l).node j).ub=(M.node j).ub:=by
 unfold Meet.come;split
 ·show(upN M.node l.dst _ j).ub=_;unfold upN;split
  ·rename_i h;rw[h];exact YY _ _
  ·rfl
 ·rfl
theorem UL(l:List Let)(M:Meet)(j:Nat):((l.foldl (fun M l=>M.come l) M).node j).ub=(M.node j).ub:=by
 induction l generalizing M with
 | nil=>rfl
 | cons x l ih=>exact(ih _).trans (R5 M x j)
theorem Yo(M:Meet)(k:Int)(a:Nat)(j:Nat):((M.move k a).node j).ub=(M.node j).ub:=by
 unfold Meet.move;split
 ·rfl
 ·simp only;split
  ·rw[R5];split<;>rfl
  ·split<;>rfl
theorem KC(M:Meet)(i:Nat)(p:Nod)(ls:List Let)(ts:List Tol)(j:Nat):(M.set i p ls ts).node j=if j=i then p else M.node j:=rfl
theorem ZP(M:Meet){x:Lac}(h1:x.k≠1)(h8:x.k≠8)(h9:x.k≠9)(j:Nat):((M.act x).node j).ub=(M.node j).ub:=by
 unfold Meet.act;simp only;rw[if_neg h1];by_cases h2:x.k=2
 ·rw[if_pos h2,KC];split
  ·rename_i e
   rw[e];split
   ·exact Yj _ _
   ·rfl
  ·rfl
 ·rw[if_neg h2];by_cases h3:x.k=3
  ·rw[if_pos h3,KC];split
   ·rename_i e
    rw[e];split
    ·exact Wg _ _ _ _
    ·rfl
   ·rfl
  ·rw[if_neg h3];by_cases h4:x.k=4∨x.k=5∨x.k=6
   ·rw[if_pos h4];exact Yo _ _ _ _
   ·rw[if_neg h4];by_cases h7:x.k=7
    ·rw[if_pos h7];exact UL _ _ _
    ·rw[if_neg h7,if_neg h8,if_neg h9]
theorem co(M:Meet){x:Lac}(h1:x.k=1)(j:Nat):((M.act x).node j).ub=if j=x.n.toNat∧(M.node j).up=true∧opE x.d ((M.node j).done:Int)≠0 then((M.node j).up,(M.node j).bad+1)else(M.node j).ub:=by
 unfold Meet.act;simp only;rw[if_pos h1,KC];by_cases hj:j=x.n.toNat
 ·subst hj;rw[if_pos rfl];unfold Nod.subm Nod.sub0;by_cases hu:(M.node x.n.toNat).up=false
  ·rw[if_pos hu,if_neg (by rw[hu];simp)]
  ·rw[if_neg hu];have hu':(M.node x.n.toNat).up=true:=by simpa using hu
   by_cases he:opE x.d ((M.node x.n.toNat).done:Int)≠0
   ·rw[if_pos he,if_pos ⟨rfl,hu',he⟩];rfl
   ·rw[if_neg he,if_neg (c:=_∧_) (fun e=>he e.2.2)];split
    ·rfl
    ·show(Nod.want _ _).ub=_;unfold Nod.want;split<;>rfl
 ·rw[if_neg hj,if_neg (fun e=>hj e.1)]
theorem Us{tc tr k c s m v now:Int}(h0:0≤now)(h1:now≤60):CZ tc tr 60 k c s m v now=CZ tc tr 60 k c s m v 0:=by
 unfold CZ;rw[if_neg (c:=¬ (0≤now∧now≤60)) (fun e=>e ⟨h0,h1⟩),if_neg (c:=¬ ((0:Int)≤0∧(0:Int)≤60)) (by decide)]
theorem Tt{l:List Int}(hl:l.length=30)(hb:∀ x∈l,0≤x∧x<256):unE l≠0:=by
 unfold unE;by_cases h:Hd l≠0
 ·rw[if_pos h];exact h
 ·rw[if_neg h,if_pos]
  ·decide
  ·have h0:Hd l=0:=Decidable.not_not.1 h;have h1:=h0;unfold Hd at h1;split at h1
   ·cases h1
   ·split at h1
    ·cases h1
    ·have:=(T6 h1 (fun x hx=>hb x (List.mem_of_mem_drop hx))).2.1;unfold Jm;rw[if_pos h0];rw[List.length_drop]at this
     omega
theorem Y6(g:Gr){now:Int}(h0:0≤now)(h1:now≤60):opE (pkB g) now=opE (pkB g) 0:=by
 unfold pkB;split
 ·have hl:(pkP g).length=63:=Gy (Hg g);have:=Tt (l:=(pkP g).take 30) (by rw[List.length_take];omega) (fun x hx=>by
   have hx:=List.mem_of_mem_take hx;unfold pkP at hx;rw[Ku (Hg g)]at hx
   have hC:=(Co (Ex (Hg g)).2.2).2;unfold InC at hC;rcases List.mem_cons.1 hx with rfl|hx
   ·omega
   ·exact Mf _ _ (Kv (Ex (Hg g)).2.1) x hx)
  unfold opE;rw[if_pos this,if_pos this]
 ·unfold pkP;rw[(RU (Hg g) now).1,(RU (Hg g) 0).1];exact Us h0 h1
theorem Sw(M:Meet)(L:List Lac)(x:Lac):M.acts (L++[x])=(M.acts L).act x:=by unfold Meet.acts;rw[List.foldl_append];rfl
theorem Ly{M:Meet}{L:List Lac}{i:Nat}{x:Lac}(h:L[i]?=some x):M.acts (L.take (i+1))=(M.acts (L.take i)).act x:=by rw[List.take_add_one,h];exact Sw M (L.take i) x
theorem Uq(L:List Lac)(h:∀ x∈L,LacOk x)(hl:L.length≤100000):MOk L.length (CE.acts L):=by
 suffices ∀ i,i≤L.length→MOk i (CE.acts (L.take i))by have h1:=this L.length (Nat.le_refl _);rwa [List.take_length]at h1
 intro i;induction i with
 | zero=>intro _;exact MOk.zero
 | succ i ih =>
  intro hi;have hx:L[i]?=some L[i]:=List.getElem?_eq_getElem (by omega);rw[Ly hx];exact(ih (by omega)).act (by omega) (h _ (List.getElem_mem _))
def Nx(j:Nat)(x:Lac):Bool:=decide (x.k=1∧x.n.toNat=j∧opE x.d 0≠0)
def AK(L:List Lac)(j:Nat):Nat:=(L.filter (Nx j)).length
theorem FG{L:List Lac}{i:Nat}{x:Lac}(h:L[i]?=some x)(j:Nat):AK (L.take (i+1)) j=AK (L.take i) j+if Nx j x then 1 else 0:=by
 unfold AK;rw[List.take_add_one,h,List.filter_append,List.length_append];cases hb:Nx j x<;>simp[hb]
theorem Uz{L:List Lac}(ho:∀ x∈L,LacOk x)(hl:L.length≤100000)(hk:∀ x∈L,x.k≠8∧x.k≠9)(ht:∀ x∈L,x.k=1→∀ now,0≤now→now≤40→opE x.d now=opE x.d 0){i:Nat}(hi:i≤L.length){j:Nat}(hj:j<5):((CE.acts (L.take i)).node j).ub=(true,AK (L.take i) j):=by
 induction i with
 | zero=>rfl
 | succ i ih =>
  have hx:L[i]?=some L[i]:=List.getElem?_eq_getElem (by omega);have hm:L[i]∈L:=List.getElem_mem _;have hI:=ih (by omega);rw[Ly hx,FG hx];by_cases h1:L[i].k=1
  ·have hM:=Uq (L.take i) (fun x hx=>ho x (List.mem_of_mem_take hx)) (by rw[List.length_take];omega);have hN:=hM.node j hj;have hu:((CE.acts (L.take i)).node j).up=true:=congrArg Prod.fst hI;have hb:((CE.acts (L.take i)).node j).bad=AK (L.take i) j:=congrArg Prod.snd hI;rw[co _ h1,hI,hu,hb];have he:=ht _ hm h1 (((CE.acts (L.take i)).node j).done:Int) (by omega) (by have:=hN.dn;have:=hN.ag;omega);rw[he];unfold Nx;by_cases hc:j=L[i].n.toNat∧opE L[i].d 0≠0
   ·rw[if_pos ⟨hc.1,rfl,hc.2⟩,if_pos (by simpa using⟨h1,hc.1.symm,hc.2⟩)]
   ·rw[if_neg (fun e=>hc ⟨e.1,e.2.2⟩),if_neg (fun e=>hc ⟨(of_decide_eq_true e).2.1.symm,(of_decide_eq_true e).2.2⟩)];rfl
  ·rw[ZP _ h1 (hk _ hm).1 (hk _ hm).2,hI,if_neg (by unfold Nx;simp[h1])];rfl
theorem XQ(g:Gr)(cr:Bool):LacOk (Li g cr):=by
 have h1:=Bb g.a 5 (by omega);have h2:=Bb g.c 20 (by omega);have h3:=Bb g.c 90 (by omega);have hl:(pkB g).length≤63:=by
  have:(pkP g).length=63:=Gy (Hg g);unfold pkB;split
  ·rw[List.length_take];omega
  ·omega
 rw[← RJ];unfold Li acN
 repeat' split
 all_goals simp[aU,GB,Hy,Hz];try omega
theorem KA{P:Lac→Prop}(h7:P (acN 7 0)){cr:Bool}(hg:∀ g,P (Li g cr))(s:Nat)(l:List Gr):∀ x∈Nc cr s l,P x:=by
 induction l generalizing s with
 | nil=>intro x hx;cases hx
 | cons g l ih =>
  intro x hx;rcases List.mem_cons.1 hx with rfl|hx
  ·unfold Wx;split
   ·exact h7
   ·exact hg g
  ·exact ih _ x hx
theorem bS(l:List Gr)(m:Nat)(cr:Bool):∀ x∈scr l m cr,LacOk x:=KA (by rw[← RJ];decide) (fun g=>XQ g cr) _ _
theorem Wy(cr:Bool)(s:Nat)(l:List Gr):(Nc cr s l).length=l.length:=by
 induction l generalizing s with
 | nil=>rfl
 | cons g l ih=>rw[Nc,List.length_cons,ih,List.length_cons]
theorem YM(l:List Gr)(m:Nat)(cr:Bool):(scr l m cr).length≤m:=by unfold scr;rw[Wy,List.length_take];omega
theorem W6(l:List Gr)(m:Nat):∀ x∈scr l m false,x.k≠8∧x.k≠9:=KA (P:=fun x=>x.k≠8∧x.k≠9) (by decide) (fun g=>by
 unfold Li acN
 repeat' split
 all_goals simp_all) _ _
theorem bU(l:List Gr)(m:Nat)(cr:Bool):∀ x∈scr l m cr,x.k=1→∃ g,x.d=pkB g:=KA (P:=fun x=>x.k=1→∃ g,x.d=pkB g) (by intro h;cases h) (fun g=>by
 unfold Li acN
 repeat' split
 all_goals first
  | exact fun _=>⟨g,rfl⟩
  | exact fun h=>absurd h (by simp)) _ _
end Go.Proofs.YtkchbdgikgbiaaaGreatDoor
namespace Go.Proofs.YtkchbdgikgbiaaaGreatDoor
open Go.RowKit
theorem eG{w:World}{x:S3}{L:List Lac}{l:List (Lac × S3)}{b off i:Nat}{a:Lac}(h:AcR w x L l)(hx:x.a=some ⟨b,off,none⟩)(ha:L[i]?=some a):w.cell? ⟨b,off+5*i,none⟩=some (iv a.k):=by
 obtain⟨b',off',y,h1,h2,_,_⟩:=h.spot ha;rw[hx]at h1
 cases h1;exact h2 0 _ rfl
theorem Ke{P:Program}{w:World}{d c:Nat}{e:TypeId}{xs:Array Value}:∀ l:List Nat,(∀ i∈l,∃ v,(part e xs (i*c)).run P w=.ok v w∧(Op.equalIn d e v v).run P w=.ok true w)→(Op.eqItems d e c xs xs l).run P w=.ok true w
 | [],_=>by simp[Op.eqItems]
 | i::l,h=>by
  obtain⟨v,h1,h2⟩:=h i (List.mem_cons_self ..);have ih:=Ke l (fun j hj=>h j (List.mem_cons_of_mem _ hj));simp[Op.eqItems,Sem.run_bind,h1,h2,ih,Result.andThen_ok]
theorem in5{i:Nat}(h:i∈List.range 5):i=0∨i=1∨i=2∨i=3∨i=4:=by have:=List.mem_range.1 h;omega
theorem eO(a b c d e:Int)(n:Nat)(w:World):(Op.equalIn (n+2) 31 (.agg #[iv a,iv b,iv c,iv d,iv e]) (.agg #[iv a,iv b,iv c,iv d,iv e])).run prog w=.ok true w:=by
 rw[run_equalIn_array (P:=prog) w (n+1) (t:=31) (e:=3) (n:=5) _ _ underlying31 (show prog.info? 3=some _ from rfl)];rw[show prog.cellsOf 3=1 by kernel_rfl];have hi:∀ z:Int,(Op.equalIn (n+1) 3 (iv z) (iv z)).run prog w=.ok true w:=fun z=>by rw[run_equalIn_int w n 3 .i64 .i64 _ _ underlying3];simp
 refine Ke _ (fun i h=>?_);rcases in5 h with rfl|rfl|rfl|rfl|rfl
 ·exact⟨iv a,by kernel_rfl,hi _⟩
 ·exact⟨iv b,by kernel_rfl,hi _⟩
 ·exact⟨iv c,by kernel_rfl,hi _⟩
 ·exact⟨iv d,by kernel_rfl,hi _⟩
 ·exact⟨iv e,by kernel_rfl,hi _⟩
theorem eT{W:World}{x y:Operand}{a b c d e a' b' c' d' e':Int}(h1:a=a')(h2:b=b')(h3:c=c')(h4:d=d')(h5:e=e'):(do Go.eqGuard .eql 31 x y (.agg #[iv a,iv b,iv c,iv d,iv e]) (.agg #[iv a',iv b',iv c',iv d',iv e']);Go.binOp .eql 31 (.agg #[iv a,iv b,iv c,iv d,iv e]) (.agg #[iv a',iv b',iv c',iv d',iv e']):Sem Value).run prog W=.ok (.bool true) W:=by
 subst h1 h2 h3 h4 h5;have hg:(Go.eqGuard .eql 31 x y (.agg #[iv a,iv b,iv c,iv d,iv e]) (.agg #[iv a,iv b,iv c,iv d,iv e])).run prog W=.ok () W:=by kernel_rfl
 rw[Sem.run_bind,hg,Result.andThen_ok,run_eql_struct,eO a b c d e 9998 W];rfl
theorem eH{w:World}{x:S3}{L:List Lac}{l:List (Lac × S3)}{b off i:Nat}{a:Lac}(h:AcR w x L l)(hx:x.a=some ⟨b,off,none⟩)(ha:L[i]?=some a):w.cell? ⟨b,off+5*i+1,none⟩=some (iv a.n):=by
 obtain⟨b',off',y,h1,h2,_,_⟩:=h.spot ha;rw[hx]at h1
 cases h1;exact h2 1 _ rfl
theorem Yw{v:S3}{l:List Int}{now:Int}{w:World}(h:Sl w v.v l)(hT:Tabs w){c:Cmd}(hc:OA l now=c){E:Int}(hE:opE l now=E) :
  Calls prog 16 #[v.v,iv now] w fun e w'=>e=.returned (.tuple #[.agg #[iv c.k,iv c.c,iv c.s,iv c.n,iv c.v],iv E])∧Bw w w':=by
 subst hc hE;have:=LT v.v l now w h hT.t hT.q hT.n;rw[VT]at this
 exact this
theorem GD(L:List Lac)(j:Nat):AK L j≤L.length:=List.length_filter_le _ _
theorem Pu{l:S3}{G:List Gr}{w:World}(h:RdV w l 5 (grL G))(hG:∀ g∈G,GrOk g)(hT:Ul w) :
  Calls prog 8 #[l.v] w fun e w'=>e=.returned (.bool true)∧Bw w w':=by
 obtain⟨L,hL⟩:∃ L,scr G 100 false=L:=⟨_,rfl⟩;have hok:=bS G 100 false;have hln:=YM G 100 false;have hkn:=W6 G 100;have hpk:=bU G 100 false;rw[hL]at hok hln hkn hpk
 have hB:=fun{i j:Nat} (hi:i≤L.length) (hj:j<5)=>Uz hok (by omega) hkn (fun x hx h1 now h0 h4=>by obtain⟨g,hg⟩:=hpk x hx h1;rw[hg];exact Y6 g h0 (by omega)) hi hj;obtain⟨M,hM⟩:∃ M,CE.acts L=M:=⟨_,rfl⟩;refine tIn [] func8 trivial ?_;refine tR 7 [] fun σ1 _ _=>?_;refine tC 1 (fun F C=>TD (most:=100) (cr:=false) (h.below (CgQ.below C)) hG (by decide) (tbA hT.1 C)) fun Nz=>?_;rintro _ _ ⟨s,P,rfl,hP,hN,b2⟩;refine⟨_,Fa.ac s P::_,rfl,b2,fun F=>⟨hN.ac Nz,F⟩,?_⟩;rw[hL]at hP
 refine tF fun F _=>?_;have hsn:=(AcR.of F.1 hP).n;refine tR 5 [] fun σ3 _ _=>?_;refine tC 1 (fun F C=>bL (AcR.of F.1 hP) hok (by omega) (tb5 hT C) hM) fun Nz=>?_;rintro _ _ ⟨ly,tv,ys,rfl,hW,hO,b4⟩;refine⟨_,Fa.ot ly tv ys M::_,rfl,b4,fun F=>⟨RT hW hO Nz,F⟩,?_⟩;refine tR 17 [0,0,0,0,1,0] fun σ5 _ _=>?_;refine Pi 61 [(3,S3.v s),(4,pt (σ5 0) 0),(5,.bool true),(6,pt (σ5 1) 0),(7,iv 0)] [true,true] [⟨(σ5 0),.cells #[iv (M.lets.length:Int),.bool (M.node 0).up,.bool (M.node 1).up,.bool (M.node 2).up,.bool (M.node 3).up,.bool (M.node 4).up,S3.v ly,iv ((M.node 0).bad:Int),iv ((M.node 1).bad:Int),iv ((M.node 2).bad:Int),iv ((M.node 3).bad:Int),iv ((M.node 4).bad:Int),S3.v tv] 34,.z,false⟩,⟨(σ5 1),.cells #[iv 0,iv 0,iv 0,iv 0,iv 0] 31,.l,false⟩] [Fa.ot ly tv ys M,Fa.ac s P] (fun kk ee LL ΦΦ=>∃ (i:Nat),kk=L.length-i∧ee=[(3,S3.v s),(4,pt (σ5 0) 0),(5,.bool true),(6,pt (σ5 1) 0),(7,iv (i:Int))]∧LL=[⟨(σ5 0),.cells (Fw M ly tv) 34,.z,false⟩,⟨(σ5 1),.cells #[iv (AK (L.take i) 0:Int),iv (AK (L.take i) 1:Int),iv (AK (L.take i) 2:Int),iv (AK (L.take i) 3:Int),iv (AK (L.take i) 4:Int)] 31,.l,false⟩]∧ΦΦ=[Fa.ot ly tv ys M,Fa.ac s P]∧i≤L.length) (L.length) ⟨0,rfl,rfl,rfl,rfl,by omega⟩ (fun F=>F) ?_;rintro k _ _ _ ⟨i,rfl,rfl,rfl,rfl,hi⟩ _ _ _ J hJ;refine tR 8 [] fun σ6 _ _=>?_;by_cases h1:i<L.length
 ·refine tI ((decide ((i:Int)<(s.n:Int)))) true (decide_eq_true (by omega)) ?_;obtain⟨a,ha⟩:∃ a,L[i]?=some a:=⟨_,List.getElem?_eq_getElem (by omega)⟩;have hao:=hok a (List.mem_of_getElem? ha);refine tF fun F _=>?_;obtain⟨b,off,yd,hxa,hcell,hyd,hin⟩:=(AcR.of F.2.1 hP).spot ha;refine tR 8 [] fun σ7 _ _=>?_;refine tV 2 (pt b (off+5*i)) (fun F C=>(OO (c:=s.c) hxa i hin)) ?_;refine tR 1 [] fun σ8 _ _=>?_;refine tV 4 (iv a.k) (fun F C=>(Df underlying3 rfl (eG (AcR.of F.2.1 hP) hxa ha))) ?_;refine tR 2 [] fun σ9 _ _=>?_;by_cases h2:a.k≠1
  ·refine tI ((a.k != 1)) true (by simpa using h2) ?_;refine tR 3 [] fun σ10 _ _=>?_;refine tV 1 (iv ((i:Int)+1)) (fun F C=>(AE (x:=(.tmp 21)) (y:=(.const (iv 1))) (i:Int) 1 underlying3 (by omega))) ?_;refine tR 2 [] fun σ11 _ _=>?_;exact tB hJ (L.length-(i+1)) (by omega) [true,true] (L':=[⟨(σ5 0),.cells (Fw M ly tv) 34,.z,false⟩,⟨(σ5 1),.cells #[iv (AK (L.take i) 0:Int),iv (AK (L.take i) 1:Int),iv (AK (L.take i) 2:Int),iv (AK (L.take i) 3:Int),iv (AK (L.take i) 4:Int)] 31,.l,false⟩]) ⟨i+1,rfl,rfl,(by simp only[FG ha,show ∀ j,Nx j a=false from fun j=>decide_eq_false (fun e=>h2 e.1)];rfl),rfl,by omega⟩ (fun F=>⟨F.1,F.2.1,trivial⟩)
  ·refine tI ((a.k != 1)) false (by simpa using h2) ?_;have h20:a.k=1:=by simpa using h2
   have han:=hao.n (by rw[h20];rfl);refine tR 5 [] fun σ12 _ _=>?_;refine tV 2 (pt b (off+5*i)) (fun F C=>(OO (c:=s.c) hxa i hin)) ?_;refine tR 1 [] fun σ13 _ _=>?_;refine tF fun F _=>?_;obtain⟨y2,hc2,hy2⟩:=(AcR.of F.2.1 hP).at hxa ha;refine tV 4 (S3.v y2) (fun F C=>(Df underlying43 rfl (hc2 4 _ rfl))) ?_;obtain⟨c,hc⟩:∃ c,OA a.d 0=c:=⟨_,rfl⟩;obtain⟨E,hE⟩:∃ E,opE a.d 0=E:=⟨_,rfl⟩;refine tC 5 (fun F C=>Yw hy2 (tbA hT.1 C) hc hE) fun Nz=>?_;rintro _ _ ⟨rfl,b15⟩;refine⟨_,_,rfl,b15,id,?_⟩;refine tR 12 [0,0,2,0] fun σ16 _ _=>?_;by_cases h3:E≠0
   ·refine tI ((E != 0)) true (by simpa using h3) ?_;refine tF fun F _=>?_;refine tR 3 [] fun σ17 _ _=>?_;refine tV 2 (pt b (off+5*i)) (fun F C=>(OO (c:=s.c) hxa i hin)) ?_;refine tR 1 [] fun σ18 _ _=>?_;refine tV 4 (iv a.n) (fun F C=>(Df underlying3 rfl (eH (AcR.of F.2.1 hP) hxa ha))) ?_;obtain⟨j,hj,hj5⟩:∃ j:Nat,a.n=(j:Int)∧j<5:=⟨a.n.toNat,by omega,by omega⟩;rw[hj];have hb:∀ q,AK (L.take (i+1)) q=AK (L.take i) q+if q=j then 1 else 0:=fun q=>by rw[FG ha,show Nx q a=decide (q=j)from decide_eq_decide.2 ⟨fun e=>by have:=e.2.1;rw[hj,Int.toNat_natCast]at this;exact this.symm,fun e=>⟨h20,by rw[hj,Int.toNat_natCast,e],by rw[hE];exact h3⟩⟩];simp
    rcases five hj5 with rfl|rfl|rfl|rfl|rfl
    ·refine tR 2 [1] fun σ19 _ _=>?_;refine tV 7 (iv ((AK (L.take i) 0:Int)+1)) (fun F C=>(AE (x:=(.tmp 46)) (y:=(.const (iv 1))) (AK (L.take i) 0:Int) 1 underlying3 (by have:=GD (L.take i) 0;rw[List.length_take]at this;omega))) ?_;refine tR 6 [1,0] fun σ20 _ _=>?_;refine tV 1 (iv ((i:Int)+1)) (fun F C=>(AE (x:=(.tmp 21)) (y:=(.const (iv 1))) (i:Int) 1 underlying3 (by omega))) ?_;refine tR 2 [] fun σ21 _ _=>?_;exact tB hJ (L.length-(i+1)) (by omega) [true,true,false] (L':=[⟨(σ5 0),.cells (Fw M ly tv) 34,.z,false⟩,⟨(σ5 1),.cells #[iv ((AK (L.take i) 0:Int)+1),iv (AK (L.take i) 1:Int),iv (AK (L.take i) 2:Int),iv (AK (L.take i) 3:Int),iv (AK (L.take i) 4:Int)] 31,.l,false⟩]) ⟨i+1,rfl,rfl,(by simp[hb]),rfl,by omega⟩ (fun F=>⟨F.1,F.2.1,trivial⟩)
    ·refine tR 2 [1] fun σ22 _ _=>?_;refine tV 7 (iv ((AK (L.take i) 1:Int)+1)) (fun F C=>(AE (x:=(.tmp 46)) (y:=(.const (iv 1))) (AK (L.take i) 1:Int) 1 underlying3 (by have:=GD (L.take i) 1;rw[List.length_take]at this;omega))) ?_;refine tR 6 [1,0] fun σ23 _ _=>?_;refine tV 1 (iv ((i:Int)+1)) (fun F C=>(AE (x:=(.tmp 21)) (y:=(.const (iv 1))) (i:Int) 1 underlying3 (by omega))) ?_;refine tR 2 [] fun σ24 _ _=>?_;exact tB hJ (L.length-(i+1)) (by omega) [true,true,false] (L':=[⟨(σ5 0),.cells (Fw M ly tv) 34,.z,false⟩,⟨(σ5 1),.cells #[iv (AK (L.take i) 0:Int),iv ((AK (L.take i) 1:Int)+1),iv (AK (L.take i) 2:Int),iv (AK (L.take i) 3:Int),iv (AK (L.take i) 4:Int)] 31,.l,false⟩]) ⟨i+1,rfl,rfl,(by simp[hb]),rfl,by omega⟩ (fun F=>⟨F.1,F.2.1,trivial⟩)
    ·refine tR 2 [1] fun σ25 _ _=>?_;refine tV 7 (iv ((AK (L.take i) 2:Int)+1)) (fun F C=>(AE (x:=(.tmp 46)) (y:=(.const (iv 1))) (AK (L.take i) 2:Int) 1 underlying3 (by have:=GD (L.take i) 2;rw[List.length_take]at this;omega))) ?_;refine tR 6 [1,0] fun σ26 _ _=>?_;refine tV 1 (iv ((i:Int)+1)) (fun F C=>(AE (x:=(.tmp 21)) (y:=(.const (iv 1))) (i:Int) 1 underlying3 (by omega))) ?_;refine tR 2 [] fun σ27 _ _=>?_;exact tB hJ (L.length-(i+1)) (by omega) [true,true,false] (L':=[⟨(σ5 0),.cells (Fw M ly tv) 34,.z,false⟩,⟨(σ5 1),.cells #[iv (AK (L.take i) 0:Int),iv (AK (L.take i) 1:Int),iv ((AK (L.take i) 2:Int)+1),iv (AK (L.take i) 3:Int),iv (AK (L.take i) 4:Int)] 31,.l,false⟩]) ⟨i+1,rfl,rfl,(by simp[hb]),rfl,by omega⟩ (fun F=>⟨F.1,F.2.1,trivial⟩)
    ·refine tR 2 [1] fun σ28 _ _=>?_;refine tV 7 (iv ((AK (L.take i) 3:Int)+1)) (fun F C=>(AE (x:=(.tmp 46)) (y:=(.const (iv 1))) (AK (L.take i) 3:Int) 1 underlying3 (by have:=GD (L.take i) 3;rw[List.length_take]at this;omega))) ?_;refine tR 6 [1,0] fun σ29 _ _=>?_;refine tV 1 (iv ((i:Int)+1)) (fun F C=>(AE (x:=(.tmp 21)) (y:=(.const (iv 1))) (i:Int) 1 underlying3 (by omega))) ?_;refine tR 2 [] fun σ30 _ _=>?_;exact tB hJ (L.length-(i+1)) (by omega) [true,true,false] (L':=[⟨(σ5 0),.cells (Fw M ly tv) 34,.z,false⟩,⟨(σ5 1),.cells #[iv (AK (L.take i) 0:Int),iv (AK (L.take i) 1:Int),iv (AK (L.take i) 2:Int),iv ((AK (L.take i) 3:Int)+1),iv (AK (L.take i) 4:Int)] 31,.l,false⟩]) ⟨i+1,rfl,rfl,(by simp[hb]),rfl,by omega⟩ (fun F=>⟨F.1,F.2.1,trivial⟩)
    ·refine tR 2 [1] fun σ31 _ _=>?_;refine tV 7 (iv ((AK (L.take i) 4:Int)+1)) (fun F C=>(AE (x:=(.tmp 46)) (y:=(.const (iv 1))) (AK (L.take i) 4:Int) 1 underlying3 (by have:=GD (L.take i) 4;rw[List.length_take]at this;omega))) ?_;refine tR 6 [1,0] fun σ32 _ _=>?_;refine tV 1 (iv ((i:Int)+1)) (fun F C=>(AE (x:=(.tmp 21)) (y:=(.const (iv 1))) (i:Int) 1 underlying3 (by omega))) ?_;refine tR 2 [] fun σ33 _ _=>?_;exact tB hJ (L.length-(i+1)) (by omega) [true,true,false] (L':=[⟨(σ5 0),.cells (Fw M ly tv) 34,.z,false⟩,⟨(σ5 1),.cells #[iv (AK (L.take i) 0:Int),iv (AK (L.take i) 1:Int),iv (AK (L.take i) 2:Int),iv (AK (L.take i) 3:Int),iv ((AK (L.take i) 4:Int)+1)] 31,.l,false⟩]) ⟨i+1,rfl,rfl,(by simp[hb]),rfl,by omega⟩ (fun F=>⟨F.1,F.2.1,trivial⟩)
   ·refine tI ((E != 0)) false (by simpa using h3) ?_;refine tR 4 [] fun σ34 _ _=>?_;refine tV 1 (iv ((i:Int)+1)) (fun F C=>(AE (x:=(.tmp 21)) (y:=(.const (iv 1))) (i:Int) 1 underlying3 (by omega))) ?_;refine tR 2 [] fun σ35 _ _=>?_;exact tB hJ (L.length-(i+1)) (by omega) [true,true,false] (L':=[⟨(σ5 0),.cells (Fw M ly tv) 34,.z,false⟩,⟨(σ5 1),.cells #[iv (AK (L.take i) 0:Int),iv (AK (L.take i) 1:Int),iv (AK (L.take i) 2:Int),iv (AK (L.take i) 3:Int),iv (AK (L.take i) 4:Int)] 31,.l,false⟩]) ⟨i+1,rfl,rfl,(by simp only[FG ha,show ∀ j,Nx j a=false from fun j=>decide_eq_false (fun e=>h3 (hE▸e.2.2))];rfl),rfl,by omega⟩ (fun F=>⟨F.1,F.2.1,trivial⟩)
 ·refine tI ((decide ((i:Int)<(s.n:Int)))) false (decide_eq_false (by omega)) ?_;obtain rfl:i=L.length:=by omega
  rw[List.take_length]at *
  refine tR 8 [0,1] fun σ36 _ _=>?_;have hf:=fun{j:Nat} (hj:j<5)=>hB (Nat.le_refl _) hj;rw[List.take_length,hM]at hf
  refine tV 5 (.bool true) (fun F C=>(eT (x:=(.tmp 52)) (y:=(.tmp 53)) (congrArg (fun p=>((p:Bool × Nat).2:Int)) (hf (j:=0) (by decide))) (congrArg (fun p=>((p:Bool × Nat).2:Int)) (hf (j:=1) (by decide))) (congrArg (fun p=>((p:Bool × Nat).2:Int)) (hf (j:=2) (by decide))) (congrArg (fun p=>((p:Bool × Nat).2:Int)) (hf (j:=3) (by decide))) (congrArg (fun p=>((p:Bool × Nat).2:Int)) (hf (j:=4) (by decide))))) ?_;refine tR 8 [0] fun σ37 _ _=>?_;have hu:(M.node 0).up=true:=congrArg Prod.fst (hf (j:=0) (by decide));exact tE (.bool (M.node 0).up) fun _ B=>⟨by rw[hu],B⟩
end Go.Proofs.YtkchbdgikgbiaaaGreatDoor
