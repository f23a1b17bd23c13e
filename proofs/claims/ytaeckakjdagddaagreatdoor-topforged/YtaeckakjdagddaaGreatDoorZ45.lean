/- Part 45 of the walk. -/
import Derived.Test.YtaeckakjdagddaaGreatDoorZ44
set_option maxRecDepth 100000
set_option maxHeartbeats 4000000
open Go.Proofs.Tryz
set_option linter.unusedVariables false
namespace Go.Proofs.YtaeckakjdagddaaGreatDoor
section
open Go.RowKit
theorem MN{g:Gh}{w:World}{ly tv:S3}{ys:Nat→S3}{M:Meet}(h:OutF g w ly tv ys M):OutW w M ly tv ys:=⟨h.logs.rd,fun j hj=>(h.log j hj).rd.rc,h.told.rd⟩
theorem bO{x:S3}{L:List Lac}{l:List (Lac × S3)}{w:World}(h:AcR w x L l)(ho:∀ a∈L,LacOk a)(hl:L.length≤100000)(hT:TW w){M:Meet}(hM:BN.acts L=M) :
  Calls prog 13 #[x.v] w fun e w'=>∃ (ly tv:S3) (ys:Nat→S3),e=.returned (.tuple #[.agg (EN M ly tv),iv 0])∧OutW w' M ly tv ys∧OutN w.heap.size M ly tv ys∧Bw w w':=by
 subst hM;refine(YC (h.sk (by omega)) (fun i hi=>by rw[M1 hi];exact ho _ (List.getElem_mem hi)) hl hT.1 hT.2.1 hT.2.2).mono ?_;rw[TZ];rintro e w' ⟨hb,ly,tv,ys,h1,h2,h3⟩;exact⟨ly,tv,ys,h1,h2,h3,hb⟩
theorem Wc{x:S3}{L:List Lac}{l:List (Lac × S3)}{w:World}(h:AcR w x L l)(ho:∀ a∈L,LacOk a)(hl:L.length≤100000)(hT:TW w){M:Meet}(hM:BN.acts L=M) :
  Calls prog 7 #[x.v] w fun e w'=>∃ (ly tv:S3) (ys:Nat→S3),e=.returned (.tuple #[.agg (EN M ly tv),.bool true])∧OutW w' M ly tv ys∧OutN w.heap.size M ly tv ys∧Bw w w':=by
 refine tIn [] func7 trivial ?_;refine tR 8 [1,0] fun σ1 _ _=>?_;refine tF fun _ Cs=>?_;have hs2:=Cs.size;refine tC 1 (fun F C=>bO (h.below (CgQ.below C)) ho hl (tb5 hT C) hM) fun Nz=>?_;rintro _ _ ⟨ly,tv,ys,rfl,hW,hN,b3⟩;refine⟨_,Fa.ot ly tv ys M::_,rfl,b3,fun F=>⟨MM hW hN Nz,F⟩,?_⟩;refine tR 14 [0,0,1,0,9,0,1,2,4,6,8] fun σ4 _ _=>?_;refine Lk 20 (fun ee LL ΦΦ=>∃ (_:Unit),ee=[(2,pt (σ1 0) 0),(3,.bool ((ly.n:Int)==5))]∧LL=[⟨(σ1 0),.cells (EN M ly tv) 40,.l,false⟩,⟨(σ4 0),.cells (EN M ly tv) 40,.z,false⟩]∧ΦΦ=[Fa.ot ly tv ys M]) (fun J hJ=>?_) ?_
 ·refine K7 5 9 ?_ ?_
  ·refine tR 7 [1,12,14,16,19,0,0,20] fun σ5 _ _=>?_;exact tD hJ [true,true] ⟨(),rfl,rfl,rfl⟩ (fun F=>⟨F.1,trivial⟩)
  ·refine tR 7 [0,0,11,1,12,14,16,20] fun σ6 _ _=>?_;exact tD hJ [true,true] ⟨(),rfl,rfl,rfl⟩ (fun F=>⟨F.1,trivial⟩)
 rintro _ _ _ ⟨_,rfl,rfl,rfl⟩ _ _ _;have hn:(((ly.n:Nat):Int)==5)=true:=by rw[hW.n5];rfl
 exact tX fun F C=>qE2 2 3 40 0 (σ1 0) (EN M ly tv) (.bool ((ly.n:Int)==5)) fun _=>⟨ly,tv,ys,by rw[hn],MN F.1,hN.mono hs2,CgQ.below C⟩
theorem LS{W:World}{x:S3}{b off:Nat}(ha:x.a=some ⟨b,off,none⟩)(j:Nat)(hj:j<x.n):(Instr.indexAt 36 x.v (iv (j:Int))).run prog W=.ok (pt b (off+j)) W:=by
 obtain⟨xa,xn,xc⟩:=x;simp only at ha hj;subst ha;exact MQ (P:=prog) (e:=43) (z:=1) underlying36 (by kernel_rfl) (by kernel_rfl) hj _ (by rw[Nat.one_mul])
theorem Ch{w:World}{ly:S3}{ys:Nat→S3}{b off j:Nat}(h:RdV w ly 1 [S3.v (ys 0),S3.v (ys 1),S3.v (ys 2),S3.v (ys 3),S3.v (ys 4)])(ha:ly.a=some ⟨b,off,none⟩)(hj:j<5):w.cell? ⟨b,off+j,none⟩=some (S3.v (ys j)):=by
 rcases h.ex with h1|⟨b',off',h1,h2,h3⟩
 ·have:=h.len;simp at this;omega
 ·rw[ha]at h1;cases h1
  refine h3 j _ ?_;rcases five hj with rfl|rfl|rfl|rfl|rfl<;>rfl
theorem Zo{g:Gh}{w:World}{x:S3}{l:List (Lac × S3)}(h:(Fa.ac x l).p g w){i:Nat}{p:Lac × S3}(hp:l[i]?=some p):∃ b off,x.a=some ⟨b,off,none⟩∧w.rangeAt b (off+5*i) (laV p.1 p.2.v)∧i<x.n:=by
 have hn:=(AcR.of h rfl).n;rw[List.length_map]at hn
 have hi:=(List.getElem?_eq_some_iff.1 hp).1;obtain⟨b,off,h1,_,h2⟩:=h.1.rd.spot (i:=i) (by omega);exact⟨b,off,h1,fun j u hj=>h2 j u (Jp (f:=fun p:Lac × S3=>laV p.1 p.2.v) (fun _=>rfl) l hp hj),by omega⟩
theorem acS{g:Gh}{w:World}{x:S3}{l:List (Lac × S3)}(h:(Fa.ac x l).p g w){i b off:Nat}(hx:x.a=some ⟨b,off,none⟩){a:Lac}{y:S3}(hp:l[i]?=some (a,y)):w.rangeAt b (off+5*i) (laV a y.v):=by
 obtain⟨b',off',h1,h2,_⟩:=Zo h hp;rw[hx]at h1;cases h1;exact h2
theorem ZF{w:World}{x:S3}{l:List Tol}(h:RdV w x 5 (l.flatMap EF)):x.n=l.length:=by
 have:=h.len;rw[Ee (f:=EF) (sz:=5) (fun _=>rfl)]at this
 omega
theorem YA{W:World}{L:List Sh}(h:AE L W)(k b:Nat)(news:List Value)(e:TypeId)(t:Tg)(v:Bool)(hx:L[k]?=some ⟨b,.cells news.toArray e,t,v⟩){j:Nat}{u:Value}(hj:news[j]?=some u):W.cell? ⟨b,j,none⟩=some u:=by
 have h1:W.heap[b]?=some (.cells news.toArray e):=h _ (List.mem_of_getElem? hx);rw[cell_of_row _ _ _ _ _ _ h1];simpa using hj
section
variable{P:Program}{fn:Func}{R:Ending→World→Prop}{w0:World}{Φ:List Fa}{g:Gh}{w:World}
theorem eq{s:Xs}(i:Nat)(y:S3)(l:List Int)(t ty e:TypeId)(z:Value)(hy:AllF g w Φ→Cg w0.heap.size TQ gS w0 g w→Sl w y.v l)(hl:l.length≤1000000)
  (hk:∀ x' g' w',GT P fn R w0 (Fa.sl x' l::Φ) (nxt s i (S3.v x') s.L).s g' w')
  (ht:P.underlying t=some (.slice e):=by kernel_rfl)(hinfo:(P.info? e).map (fun i=>(i.zero,i.size,i.bytes))=some (some z,1,1):=by kernel_rfl)
  (hsem:CG s i=some (Builtin.append_ #[t,t] ty #[s30.v,y.v]>>=fun v=>pure (.value v)):=by kernel_rfl)(hob:(nxt s i undef s.L).o.map Ob.l'=(nxt s i undef s.L).o.map Ob.r':=by kernel_rfl):GT P fn R w0 Φ s g w:=by
 refine tF fun F C=>?_;have hS:=hy F C;obtain⟨inf,hi,hz,hs1,hb1⟩:∃ i,P.info? e=some i∧i.zero=some z∧i.size=1∧i.bytes=1:=by
  cases hh:P.info? e with
  | none=>rw[hh]at hinfo;cases hinfo
  | some i=>rw[hh]at hinfo;simp only[Option.map_some,Option.some.injEq,Prod.mk.injEq]at hinfo;exact⟨i,rfl,hinfo.1,hinfo.2.1,hinfo.2.2⟩
 obtain⟨⟨a,cap,hv,hc,hn,hx⟩,hlen,hby⟩:=hS;obtain⟨ya,yn,yc⟩:=y;simp only[S3.v,Value.slice.injEq]at hv;obtain⟨rfl,rfl,rfl⟩:=hv;rcases hx with rfl|⟨b,off,rfl,hb,hcell⟩
 ·refine tV i s30.v (fun _ _=>VY t ty e inf ht hi _ rfl) ?_ hsem hob;exact tCv (Fa.sl s30 []::Φ) (fun F=>⟨aI _ _,F⟩) (hk s30 g w)
 ·by_cases h0:l=[]
  ·subst h0;refine tV i s30.v (fun _ _=>VY t ty e inf ht hi _ rfl) ?_ hsem hob;exact tCv (Fa.sl s30 []::Φ) (fun F=>⟨aI _ _,F⟩) (hk s30 g w)
  ·have hpos:0<l.length:=List.length_pos_iff.2 h0;have hnews:∀ j v,(l.map (Value.int .u8))[j]?=some v→w.cell? ((⟨b,off,none⟩:Addr).add j)=some v:=fun j v hj=>by
    have hj':j<l.length:=by simpa using(List.getElem?_eq_some_iff.1 hj).1
    have:(⟨b,off,none⟩:Addr).add j=⟨b,off+j,none⟩:=by unfold Addr.add;split<;>simp_all
    rw[this,hcell j hj'];rw[List.getElem?_map,List.getElem?_eq_getElem hj']at hj
    simp only[Option.map_some]at hj;rw[← hj,List.getD_eq_getElem?_getD,List.getElem?_eq_getElem hj'];rfl
   have hr:=run_append_nil (P:=P) w t ty e inf z ht hi hz ⟨b,off,none⟩ l.length yc (l.map (Value.int .u8)) (by rw[List.length_map,hs1,Nat.mul_one]) hnews hpos (by omega) (by rw[hb1];omega);have hge:=grownCap_ge w l.length 0 e;obtain⟨cp,hcp⟩:∃ c,grownCap w l.length 0 e=c:=⟨_,rfl⟩;rw[hcp]at hr hge
   generalize hw':w.drew.alloc (.cells ((l.map (Value.int .u8)).toArray++Builtin.zeroCells z.cells (cp-l.length)) e)=w' at hr;have hB:Bw w w':=by
    subst hw';exact⟨rfl,rfl,rfl,by simp,fun d hd=>heap_alloc_old w.drew _ hd⟩
   have hrow:w'.heap[w.heap.size]?=some (.cells ((l.map (Value.int .u8)).toArray++Builtin.zeroCells z.cells (cp-l.length)) e (0,0)):=by subst hw';exact heap_alloc_new w.drew _
   have hsl:Sl w' (S3.v ⟨some ⟨w.heap.size,0,none⟩,l.length,cp⟩) l:=by
    refine⟨⟨_,_,rfl,hge,(fun h=>nomatch h),.inr ⟨w.heap.size,0,rfl,rl hrow,fun j hj=>?_⟩⟩,hlen,hby⟩;rw[Nat.zero_add,cell_of_row _ _ _ _ _ _ hrow,Array.getElem?_append_left (by simpa using hj)];simp only[List.getElem?_toArray,List.getElem?_map,List.getElem?_eq_getElem hj,Option.map_some,List.getD_eq_getElem?_getD,Option.getD_some]
   refine⟨fun F C=>IV i s.L hob (Bo hsem) fun hK ops j o hop=>?_⟩;have hc0:∀ B,Cg B [] g w g w':=fun B=>Cg.ofBelow hB;refine⟨_,w',g,.inl ?_,hK.ch (T':=[]) (hc0 _) (fun d hd=>hK.new d (Nat.le_trans hB.size hd)) (by simp),(hk ⟨some ⟨w.heap.size,0,none⟩,l.length,cp⟩ g w').ex ⟨⟨hsl,fun _ a ha=>?_⟩,F.ch0 (hc0 w0.heap.size)⟩ (C.trans ((hc0 _).nil TQ))⟩
   ·rw[CD hsem hop,Sem.run_bind,show(Builtin.append_ #[t,t] ty #[s30.v,S3.v ⟨some ⟨b,off,none⟩,l.length,yc⟩]).run P w=_ from hr,Result.andThen_ok];rfl
   ·cases ha;exact(hK.new _ (Nat.le_refl _)).1
end
end
section
theorem F1(M:Meet)(L:List Lac)(x:Lac):M.acts (L++[x])=(M.acts L).act x:=by unfold Meet.acts;rw[List.foldl_append];rfl
theorem Se{M:Meet}{L:List Lac}{i:Nat}{x:Lac}(h:L[i]?=some x):M.acts (L.take (i+1))=(M.acts (L.take i)).act x:=by rw[List.take_add_one,h];exact F1 M (L.take i) x
theorem Nt(L:List Lac)(h:∀ x∈L,LacOk x)(hl:L.length≤100000):MOk L.length (BN.acts L):=by
 suffices ∀ i,i≤L.length→MOk i (BN.acts (L.take i))by have h1:=this L.length (Nat.le_refl _);rwa [List.take_length]at h1
 intro i;induction i with
 | zero=>intro _;exact MOk.zero
 | succ i ih =>
  intro hi;have hx:L[i]?=some L[i]:=List.getElem?_eq_getElem (by omega);rw[Se hx];exact(ih (by omega)).act (by omega) (h _ (List.getElem_mem _))
theorem XJ(g:Gr)(cr:Bool):LacOk (Oh g cr):=by
 have h1:=AQ g.a 5 (by omega);have h2:=AQ g.c 20 (by omega);have h3:=AQ g.c 90 (by omega);have hl:(pkB g).length≤63:=by
  have:(pkP g).length=63:=Ki (VR g);unfold pkB;split
  ·rw[List.length_take];omega
  ·omega
 rw[← MA];unfold Oh acN
 repeat' split
 all_goals simp[Yb,FM,Gz,G0];try omega
theorem Wm{P:Lac→Prop}(h7:P (acN 7 0)){cr:Bool}(hg:∀ g,P (Oh g cr))(s:Nat)(l:List Gr):∀ x∈Na cr s l,P x:=by
 induction l generalizing s with
 | nil=>intro x hx;cases hx
 | cons g l ih =>
  intro x hx;rcases List.mem_cons.1 hx with rfl|hx
  ·unfold Wl;split
   ·exact h7
   ·exact hg g
  ·exact ih _ x hx
theorem bQ(l:List Gr)(m:Nat)(cr:Bool):∀ x∈scr l m cr,LacOk x:=Wm (by rw[← MA];decide) (fun g=>XJ g cr) _ _
theorem Wn(cr:Bool)(s:Nat)(l:List Gr):(Na cr s l).length=l.length:=by
 induction l generalizing s with
 | nil=>rfl
 | cons g l ih=>rw[Na,List.length_cons,ih,List.length_cons]
theorem YF(l:List Gr)(m:Nat)(cr:Bool):(scr l m cr).length≤m:=by unfold scr;rw[Wn,List.length_take];omega
def Nod.wb(p:Nod)(b:Nat):Nod:={ p with bad:=b }
theorem Kl(p:Nod)(b:Nat)(x:Bal):(p.wb b).promise x=((p.promise x).1.wb b,(p.promise x).2):=by
 dsimp only[Nod.promise,Nod.wb];split
 ·rfl
 ·split
  ·rfl
  ·split<;>rfl
theorem RX(p:Nod)(b:Nat)(x:Vt):(p.wb b).vote x=((p.vote x).1.wb b,(p.vote x).2):=by
 dsimp only[Nod.vote,Nod.wb];split
 ·rfl
 ·split
  ·rfl
  ·split<;>rfl
theorem LV(p:Nod)(b to:Nat)(e:Int):(p.wb b).refuse to e=(p.refuse to e).wb b:=by
 dsimp only[Nod.refuse,Nod.wb,Nod.wait];split<;>rfl
theorem NO(p:Nod)(b j:Nat)(v:Vt):(p.wb b).count j v=(p.count j v).wb b:=by
 dsimp only[Nod.count,Nod.wb];split
 ·rfl
 ·split<;>rfl
theorem JI(p:Nod)(b:Nat)(l:List Cmd):(p.wb b).enqueue l=(p.enqueue l).wb b:=by
 unfold Nod.enqueue;show(if p.leads=true then _ else _)=_;split<;>rfl
theorem YR(p:Nod)(b:Nat)(l:Let):(p.wb b).take l=(p.take l).wb b:=by
 unfold Nod.take;split
 ·rw[Kl];simp only;split
  ·exact LV _ _ _ _
  ·rfl
 ·simp only;by_cases h:(p.learn 0 l.what).leads=false∨l.bal≠(p.learn 0 l.what).rnd.bal∨(p.learn 0 l.what).rnd.pro l.src=true
  ·rw[if_pos h];exact if_pos h
  ·rw[if_neg h];exact if_neg h
 ·rfl
 ·rw[RX];simp only;split
  ·exact LV _ _ _ _
  ·rfl
 ·exact NO _ _ _ _
 ·show(if p.agreed.length<l.slot then _ else _)=_;split<;>rfl
 ·simp only;rw[JI];show(if l.slot<(p.enqueue l.what).agreed.length then _ else _)=_;split<;>rfl
 ·rfl
theorem TJ(p:Nod)(b:Nat)(c:Cmd):(p.wb b).unwant c=(p.unwant c).wb b:=by
 unfold Nod.unwant;show(if(p.asked c).isSome=true then _ else _)=_;split<;>rfl
theorem Zh(p:Nod)(b:Nat)(c:Cmd):(p.wb b).want c=(p.want c).wb b:=by
 unfold Nod.want;show(if(p.asked c).isSome=true then _ else _)=_;split<;>rfl
theorem aC(i:Nat)(l:List Cmd)(p:Nod)(b:Nat)(ts:List Tol):doP i l (p.wb b) ts=((doP i l p ts).1.wb b,(doP i l p ts).2):=by
 induction l generalizing p ts with
 | nil=>rfl
 | cons c l ih =>
  rw[doP,doP];show(if doE p.sto c≠0 then _ else _)=_;split
  ·rfl
  ·rw[← ih]
   congr 1
   exact TJ { p with sto:=doS p.sto c,done:=p.done+1 } b c
theorem Xt(p:Nod)(b i:Nat):(p.wb b).askd i=((p.askd i).1.wb b,(p.askd i).2):=by
 unfold Nod.askd;show(if(CS p.vo.p p.asked (p.wants.take 40)).1=[]then _ else if p.vo.p.n=(i:Int)then _ else _)=_;split
 ·rfl
 ·split
  ·rw[← JI];rfl
  ·rfl
theorem QI(p:Nod)(b:Nat):(p.wb b).propose=p.propose.wb b:=by
 unfold Nod.propose;by_cases h:p.leads=false∨p.rnd.enough=false∨p.agreed.length<p.rnd.next
 ·rw[if_pos h];exact if_pos h
 ·rw[if_neg h];refine(if_neg h).trans ?_;show(match p.nextC p.agreed.length with|none=>p.wb b|some c=>_)=_;cases p.nextC p.agreed.length with
  | none=>rfl
  | some c =>
   simp only;rw[RX];by_cases h2:(p.vote ⟨(p.agreed.length:Int),p.rnd.bal,c⟩).2≠0
   ·rw[if_pos h2];exact if_pos h2
   ·rw[if_neg h2];exact if_neg h2
theorem YB(p:Nod)(b i:Nat)(q:Pend):(p.wb b).runP i q=(p.runP i q).wb b:=by
 cases q with
 | began x vs=>unfold Nod.runP;simp only;show(if p.vo.p≠x then _ else _)=_;split<;>rfl
 | prop v=>exact NO p b i v
 | _=>rfl
theorem Wu(p:Nod)(b i:Nat)(q:Pend):(p.wb b).sentP i q=p.sentP i q:=by cases q<;>rfl
theorem UH(i:Nat)(l:List Pend)(p:Nod)(b:Nat)(ls:List Let):BH i l (p.wb b) ls=((BH i l p ls).1.wb b,(BH i l p ls).2):=by
 induction l generalizing p ls with
 | nil=>rfl
 | cons q l ih=>rw[BH,BH,YB,Wu];exact ih _ _
theorem co(p:Nod)(b:Nat):(p.wb b).syn=p.syn.wb b:=by
 unfold Nod.syn;by_cases h:p.sy<(p.d.length:Int)
 ·rw[if_pos h];exact if_pos h
 ·rw[if_neg h];exact if_neg h
theorem WH(p:Nod)(b i:Nat)(ls:List Let):(p.wb b).syncd i ls=((p.syncd i ls).1.wb b,(p.syncd i ls).2):=by
 unfold Nod.syncd;by_cases h:p.sy<(p.d.length:Int)∧Da p.d p.sy≠0
 ·rw[if_pos h];exact if_pos h
 ·rw[if_neg h];refine(if_neg h).trans ?_;rw[co];exact UH i p.pend { p.syn with pend:=[] } b ls
theorem TE(p:Nod)(b i:Nat)(ls:List Let):(p.wb b).taught i ls=((p.taught i ls).1.wb b,(p.taught i ls).2):=by
 unfold Nod.taught;by_cases h:p.leads=true
 ·rw[if_pos h];exact if_pos h
 ·rw[if_neg h];exact if_neg h
theorem VQ(p:Nod)(b i:Nat)(ls:List Let)(ts:List Tol):(p.wb b).piece i ls ts=((p.piece i ls ts).1.wb b,(p.piece i ls ts).2):=by
 unfold Nod.piece;have h1:doP i ((p.wb b).agreed.drop (p.wb b).done) (p.wb b) ts=_:=aC i (p.agreed.drop p.done) p b ts;rw[h1];simp only[Xt,QI,WH,TE]
theorem Yc(p:Nod)(b i:Nat):(p.wb b).lead i=(p.lead i).wb b:=by
 unfold Nod.lead;simp only[Kl];by_cases h:(p.promise ⟨max p.rounds p.vo.p.r+1,(i:Int)⟩).2.2≠0
 ·rw[if_pos h];exact if_pos h
 ·rw[if_neg h];exact if_neg h
theorem U7(p:Nod)(b:Nat)(k:Int):(p.wb b).crash k=(p.crash k).wb b:=by
 unfold Nod.crash;by_cases h:JF p.d p.sy k≠0
 ·rw[if_pos h];exact if_pos h
 ·rw[if_neg h];exact if_neg h
theorem W7(p:Nod)(b:Nat):(p.wb b).start=p.start.wb b:=by
 unfold Nod.start;by_cases h:Da p.d p.sy≠0
 ·rw[if_pos h];exact if_pos h
 ·rw[if_neg h];refine(if_neg h).trans ?_;by_cases h2:MU p.d p.sy<(p.d.length:Int)
  ·rw[if_pos h2];exact if_pos h2
  ·rw[if_neg h2];exact if_neg h2
def Meet.wb(M:Meet)(f:Nat→Nat):Meet:={ M with node:=fun j=>(M.node j).wb (f j) }
theorem Mt(M:Meet)(f:Nat→Nat)(l:Let):(M.wb f).come l=(M.come l).wb f:=by
 unfold Meet.come;by_cases h:(M.node l.dst).up=true
 ·rw[if_pos h];refine(if_pos h).trans ?_;unfold Meet.put Meet.wb
  congr 1
  funext j
  simp only[upN];split
  ·rename_i e;rw[e];exact YR _ _ _
  ·rfl
 ·rw[if_neg h];exact if_neg h
theorem U0(l:List Let)(M:Meet)(f:Nat→Nat):l.foldl (fun M l=>M.come l) (M.wb f)=(l.foldl (fun M l=>M.come l) M).wb f:=by
 induction l generalizing M with
 | nil=>rfl
 | cons x l ih=>rw[List.foldl_cons,List.foldl_cons,Mt];exact ih _
theorem Yh(M:Meet)(f:Nat→Nat)(k:Int)(a:Nat):(M.wb f).move k a=(M.move k a).wb f:=by
 unfold Meet.move;show(match M.lets[a%M.lets.length]? with|none=>_|some l=>_)=_;cases M.lets[a%M.lets.length]? with
 | none=>rfl
 | some l =>
  simp only;by_cases h6:k≠6
  ·rw[if_pos h6,if_pos h6];split
   ·exact Mt { M with lets:=M.lets.eraseIdx (a%M.lets.length) } f l
   ·rfl
  ·rw[if_neg h6,if_neg h6];split
   ·exact Mt M f l
   ·rfl
def Meet.rfs(M:Meet)(x:Lac)(j:Nat):Nat:=if j=x.n.toNat∧x.k=1∧(M.node j).up=true∧opE x.d ((M.node j).done:Int)≠0 then 1 else 0
theorem Kx(M:Meet)(f:Nat→Nat)(i:Nat)(p:Nod)(ls:List Let)(ts:List Tol){b:Nat}(hb:f i=b):(M.wb f).set i (p.wb b) ls ts=(M.set i p ls ts).wb f:=by
 unfold Meet.set Meet.wb
 congr 1
 funext j
 simp only[upN];split
 ·rename_i e;rw[e,hb]
 ·rfl
theorem Ub(M:Meet)(f:Nat→Nat){x:Lac}(h1:x.k≠1):(M.wb f).act x=(M.act x).wb f:=by
 unfold Meet.act;simp only;rw[if_neg h1,if_neg h1];by_cases h2:x.k=2
 ·rw[if_pos h2,if_pos h2];refine Eq.trans ?_ (Kx M f x.n.toNat _ M.lets M.told rfl)
  congr 1
  by_cases hu:(M.node x.n.toNat).up=true
  ·rw[if_pos hu];exact(if_pos hu).trans (Yc _ _ _)
  ·rw[if_neg hu];exact if_neg hu
 ·rw[if_neg h2,if_neg h2];by_cases h3:x.k=3
  ·rw[if_pos h3,if_pos h3];by_cases hu:(M.node x.n.toNat).up=true
   ·have hu':((M.wb f).node x.n.toNat).up=true:=hu;rw[if_pos hu,if_pos hu,if_pos hu,if_pos hu',if_pos hu',if_pos hu'];have hp:=VQ (M.node x.n.toNat) (f x.n.toNat) x.n.toNat M.lets M.told;show(M.wb f).set x.n.toNat (((M.node x.n.toNat).wb (f x.n.toNat)).piece x.n.toNat M.lets M.told).1 (((M.node x.n.toNat).wb (f x.n.toNat)).piece x.n.toNat M.lets M.told).2.1 (((M.node x.n.toNat).wb (f x.n.toNat)).piece x.n.toNat M.lets M.told).2.2=_;rw[hp];exact Kx M f x.n.toNat _ _ _ rfl
   ·have hu':¬ ((M.wb f).node x.n.toNat).up=true:=hu;rw[if_neg hu,if_neg hu,if_neg hu,if_neg hu',if_neg hu',if_neg hu'];exact Kx M f x.n.toNat _ _ _ rfl
  ·rw[if_neg h3,if_neg h3];by_cases h4:x.k=4∨x.k=5∨x.k=6
   ·rw[if_pos h4,if_pos h4];exact Yh M f _ _
   ·rw[if_neg h4,if_neg h4];by_cases h7:x.k=7
    ·rw[if_pos h7,if_pos h7];unfold Meet.comeAll;exact U0 M.lets { M with lets:=[] } f
    ·rw[if_neg h7,if_neg h7];by_cases h8:x.k=8
     ·rw[if_pos h8,if_pos h8];refine Eq.trans ?_ (Kx M f x.n.toNat _ M.lets M.told rfl)
      congr 1
      by_cases hu:(M.node x.n.toNat).up=true
      ·rw[if_pos hu];exact(if_pos hu).trans (U7 _ _ _)
      ·rw[if_neg hu];exact if_neg hu
     ·rw[if_neg h8,if_neg h8];by_cases h9:x.k=9
      ·rw[if_pos h9,if_pos h9];refine Eq.trans ?_ (Kx M f x.n.toNat _ M.lets M.told rfl)
       congr 1
       by_cases hu:(M.node x.n.toNat).up=true
       ·rw[if_pos hu];exact if_pos hu
       ·rw[if_neg hu];exact(if_neg hu).trans (W7 _ _)
      ·rw[if_neg h9,if_neg h9]
theorem YL(p:Nod)(b i:Nat)(d:List Int)(ts:List Tol):(p.wb b).subm i d ts=((p.subm i d ts).1.wb (b+if p.up=true∧opE d (p.done:Int)≠0 then 1 else 0),(p.subm i d ts).2):=by
 by_cases hu:p.up=false
 ·have hr:(if p.up=true∧opE d (p.done:Int)≠0 then 1 else 0)=0:=if_neg (fun e=>by rw[hu]at e;cases e.1);rw[hr];unfold Nod.subm Nod.sub0;rw[if_pos hu];exact if_pos hu
 ·by_cases he:opE d (p.done:Int)≠0
  ·have hr:(if p.up=true∧opE d (p.done:Int)≠0 then 1 else 0)=1:=if_pos ⟨by simpa using hu,he⟩;rw[hr];unfold Nod.subm Nod.sub0;rw[if_neg hu,if_pos he];exact(if_neg hu).trans (if_pos he)
  ·have hr:(if p.up=true∧opE d (p.done:Int)≠0 then 1 else 0)=0:=if_neg fun e=>he e.2;rw[hr];unfold Nod.subm Nod.sub0;by_cases hm:MK d (p.done:Int)∈p.agreed.take p.done
   ·rw[if_neg hu,if_neg he,if_pos hm];exact(if_neg hu).trans ((if_neg he).trans (if_pos hm))
   ·rw[if_neg hu,if_neg he,if_neg hm];refine(if_neg hu).trans ((if_neg he).trans ((if_neg hm).trans ?_));show((p.wb b).want _,ts)=_;rw[Zh];rfl
theorem QT(M:Meet)(f:Nat→Nat){x:Lac}(h1:x.k=1):(M.wb f).act x=(M.act x).wb (fun j=>f j+M.rfs x j):=by
 unfold Meet.act;simp only;rw[if_pos h1,if_pos h1];have hs:=YL (M.node x.n.toNat) (f x.n.toNat) x.n.toNat x.d M.told;show(M.wb f).set x.n.toNat (((M.node x.n.toNat).wb (f x.n.toNat)).subm x.n.toNat x.d M.told).1 M.lets (((M.node x.n.toNat).wb (f x.n.toNat)).subm x.n.toNat x.d M.told).2=_;rw[hs];unfold Meet.set Meet.wb
 congr 1
 funext j
 simp only[upN];split
 ·rename_i e
  rw[e];unfold Meet.rfs;simp[h1]
 ·rename_i e
  rw[show M.rfs x j=0 from if_neg fun h=>e h.1];rfl
theorem aH(M:Meet){x:Lac}(h1:x.k=1)(he:∀ j:Nat,opE x.d ((M.node j).done:Int)≠0):M.act x=M.wb (fun j=>(M.node j).bad+M.rfs x j):=by
 have h0:M.wb (fun j=>(M.node j).bad)=M:=rfl;have:=QT M (fun j=>(M.node j).bad) h1;rw[h0]at this
 rw[this];unfold Meet.act;simp only;rw[if_pos h1];unfold Nod.subm Nod.sub0 Meet.set Meet.wb;by_cases hu:(M.node x.n.toNat).up=false
 ·rw[if_pos hu]
  congr 1
  funext j
  simp only[upN];split
  ·rename_i e;rw[e]
  ·rfl
 ·rw[if_neg hu,if_pos (he _)]
  congr 1
  funext j
  simp only[upN];split
  ·rename_i e;rw[e];rfl
  ·rfl
theorem Sf{tc tr tu k c s n v now:Int}(h0:0≤now)(h:Dr tc tr tu k c s n v now=0):Dr tc tr tu k c s n v 0=0:=by
 unfold Dr at h ⊢;split at h
 ·cases h
 ·rename_i a1
  rw[if_neg a1];split at h
  ·rename_i a2;exact absurd h a2
  ·rename_i a2
   rw[if_neg a2];split at h
   ·cases h
   ·rename_i a3
    rw[if_neg a3];split at h
    ·cases h
    ·rename_i a4
     rw[if_neg (by omega)]
theorem VE{l:List Int}{now:Int}(h0:0≤now)(h:opE l 0≠0):opE l now≠0:=by
 intro e;apply h;unfold opE at e ⊢;split at e
 ·rename_i a1;exact absurd e a1
 ·rename_i a1
  rw[if_neg a1];split at e
  ·cases e
  ·rename_i a2
   rw[if_neg a2];exact Sf h0 e
theorem Mk(M:Meet){x:Lac}(h1:x.k≠1)(j:Nat):((M.act x).node j).bad=(M.node j).bad:=by
 have h:=Ub M (fun j=>(M.node j).bad) h1;rw[show M.wb (fun j=>(M.node j).bad)=M from rfl]at h
 rw[h];rfl
theorem Nf(M:Meet){x:Lac}(h1:x.k=1)(j:Nat):((M.act x).node j).bad=(M.node j).bad+M.rfs x j:=by
 have h:=QT M (fun j=>(M.node j).bad) h1;rw[show M.wb (fun j=>(M.node j).bad)=M from rfl]at h
 rw[h];rfl
theorem We(M:Meet)(x:Lac)(j:Nat):M.rfs x j≤1∧(j≠x.n.toNat→M.rfs x j=0):=by
 unfold Meet.rfs;exact⟨by split<;>omega,fun h=>if_neg fun e=>h e.1⟩
inductive Weave (n:Nat):List Lac→List Lac→Nat→Prop
 | nil:Weave n [] [] 0
 | act {s m:List Lac} {k:Nat} (x:Lac) (h:Weave n s m k):Weave n (s++[x]) (m++[x]) k
 | bad {s m:List Lac} {k:Nat} (x:Lac) (h:Weave n s m k) (h1:x.k=1) (hn:x.n.toNat=n) (he:opE x.d 0≠0):Weave n s (m++[x]) (k+1)
theorem Weave.meet{n:Nat}{s m:List Lac}{k:Nat}(h:Weave n s m k):∃ f,BN.acts m=(BN.acts s).wb f∧(∀ j,j≠n→f j=((BN.acts s).node j).bad)∧((BN.acts s).node n).bad≤f n∧f n≤((BN.acts s).node n).bad+k:=by
 induction h with
 | nil=>exact⟨fun j=>(BN.node j).bad,rfl,fun _ _=>rfl,Nat.le_refl _,Nat.le_refl _⟩
 | act x h ih =>
  obtain⟨f,h1,h2,h3,h4⟩:=ih;rw[F1,F1,h1];by_cases hx:x.k=1
  ·refine⟨_,QT _ f hx,fun j hj=>?_,?_,?_⟩
   ·rw[Nf _ hx,h2 j hj]
   ·rw[Nf _ hx];show _≤f n+_;omega
   ·rw[Nf _ hx];show f n+_≤_;omega
  ·refine⟨f,Ub _ f hx,fun j hj=>?_,?_,?_⟩
   ·rw[Mk _ hx];exact h2 j hj
   ·rw[Mk _ hx];exact h3
   ·rw[Mk _ hx];exact h4
 | bad x h hk hn he ih =>
  obtain⟨f,h1,h2,h3,h4⟩:=ih
  rename_i s0 m0 k0
  rw[F1,h1];have hf:=aH ((BN.acts s0).wb f) hk (fun j=>VE (Int.natCast_nonneg _) he);refine⟨_,hf,fun j hj=>?_,?_,?_⟩
  ·show f j+_=_;rw[(We _ _ _).2 (by rw[hn];exact hj)];exact h2 j hj
  ·show _≤f n+_;omega
  ·have:=(We ((BN.acts s0).wb f) x n).1;show f n+_≤_;exact Nat.le_trans (Nat.add_le_add h4 this) (by omega)
end
end Go.Proofs.YtaeckakjdagddaaGreatDoor
