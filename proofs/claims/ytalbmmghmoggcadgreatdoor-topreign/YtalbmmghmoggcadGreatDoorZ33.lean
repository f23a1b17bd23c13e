/- Part 33 of the walk. -/
import Derived.Lib.AppendZeros
import Derived.Test.YtalbmmghmoggcadGreatDoorZ32
set_option maxRecDepth 100000
set_option maxHeartbeats 4000000
open Go.Proofs.Tryz
set_option linter.unusedVariables false
namespace Go.Proofs.YtalbmmghmoggcadGreatDoor
section
open Go.RowKit
section
def alk:List Cmd->List Cmd->Bool
 | c::a,d::b=>decide (c=d)&&alk a b
 | _,_=>true
theorem SE(a:List Cmd):alk a []=true:=by cases a<;>rfl
variable{a b:List Cmd}{i:Nat}
theorem SC(h:¬ (i<a.length/\i<b.length)):alk (a.drop i) (b.drop i)=true:=by
 by_cases h1:i<a.length
 .rw[show b.drop i=[]from jD (by omega),SE]
 .rw[show a.drop i=[]from jD (by omega)];rfl
theorem VE{c d:Cmd}(ha:a[i]?=some c)(hb:b[i]?=some d):alk (a.drop i) (b.drop i)=(decide (c=d)&&alk (a.drop (i+1)) (b.drop (i+1))):=by
 obtain⟨h1,rfl⟩:=Q'.1 ha;obtain⟨h2,rfl⟩:=Q'.1 hb;rw[js h1,js h2,alk]
theorem iz(a b c d e a' b' c' d' e':Int):∀ w,(binOp .neq 25 (.agg #[.int .i64 a,.int .i64 b,.int .i64 c,.int .i64 d,.int .i64 e]) (.agg #[.int .i64 a',.int .i64 b',.int .i64 c',.int .i64 d',.int .i64 e'])).run prog w=.ok (.bool (!decide (a=a'/\b=b'/\c=c'/\d=d'/\e=e'))) w:=by
 intro w;rw[run_neq_struct,run_equalIn_agg w 9999 _ _ _ (by kernel_rfl) (by kernel_rfl)];unfold Program.fieldsOf;rw[underlying25];have h3:=underlying3;simp[Op.eqFields,go_sem,h3]
 repeat' split
 all_goals simp_all
theorem gu{W:World}{x y:Operand}(a b:Cmd):(do Go.eqGuard .neq 25 x y (.agg #[iv a.k,iv a.c,iv a.s,iv a.n,iv a.v]) (.agg #[iv b.k,iv b.c,iv b.s,iv b.n,iv b.v]);Go.binOp .neq 25 (.agg #[iv a.k,iv a.c,iv a.s,iv a.n,iv a.v]) (.agg #[iv b.k,iv b.c,iv b.s,iv b.n,iv b.v]):Sem Value).run prog W=.ok (.bool (!decide (a=b))) W:=by
 have h1:=iz a.k a.c a.s a.n a.v b.k b.c b.s b.n b.v W;rw[NR]at h1
 have hg:(Go.eqGuard .neq 25 x y (.agg #[iv a.k,iv a.c,iv a.s,iv a.n,iv a.v]) (.agg #[iv b.k,iv b.c,iv b.s,iv b.n,iv b.v])).run prog W=.ok () W:=by kernel_rfl
 rw[Sem.run_bind,hg,Result.andThen_ok];exact h1
theorem Dl{x y:S3}{w:World}(h:RdV w x 5 (cmL a))(k:RdV w y 5 (cmL b))(hb:a.length<1000000){r:Bool}(hr:alk a b=r) :
  Calls prog 8 #[x.v,y.v] w λe w'=>e=.returned (.bool r)/\Bw w w':=by
 have hx:=fL h;have hy:=fL k;refine tIn [Fa.zv x 5 (cmL a),Fa.zv y 5 (cmL b)] func8 ⟨h.fz,k.fz,trivial⟩ ?_;refine tR 10 [] λσ1 _ _=>?_;refine Fs 27 [(0,S3.v x),(1,S3.v y),(5,iv 0)] [] [] [Fa.zv x 5 (cmL a),Fa.zv y 5 (cmL b)] (λkk ee LL ΦΦ=>∃ (i:Nat),kk=a.length-i/\ee=[(0,S3.v x),(1,S3.v y),(5,iv (i:Int))]/\LL=[]/\ΦΦ=[Fa.zv x 5 (cmL a),Fa.zv y 5 (cmL b)]/\i<=a.length/\alk (a.drop i) (b.drop i)=r) (a.length) ⟨0,rfl,rfl,rfl,rfl,by omega,hr⟩ (λF=>F) ?_;rintro k _ _ _ ⟨i,rfl,rfl,rfl,rfl,hi,hI⟩ _ _ _ J hJ;refine tR 6 [] λσ2 _ _=>?_;by_cases h1:i<a.length
 .refine tV 3 (.bool true) (λF C=>(rLt (t:=3) (m:=(i:Int)) (n:=(x.n:Int)) (x:=(.tmp 6)) (y:=(.tmp 8)) (I' (by omega)))) ?_;refine tR 7 [] λσ3 _ _=>?_;by_cases h2:i<b.length
  .refine tI ((decide ((i:Int)<(y.n:Int)))) true (I' (by omega)) ?_;obtain⟨c,hc⟩:∃ c,a[i]?=some c:=⟨_,E' (by omega)⟩;obtain⟨d,hd⟩:∃ d,b[i]?=some d:=⟨_,E' (by omega)⟩;rw[VE hc hd]at hI
   refine tF λF _=>?_;obtain⟨bx,ox,hxa⟩:=F.1.rd.rc.addr (k:=i) (by omega);obtain⟨by_,oy,hya⟩:=F.2.1.rd.rc.addr (k:=i) (by omega);refine tR 7 [9,0,2] λσ4 _ _=>?_;refine tT 2 (pt bx (ox+5*i)) (λ_=>(Lr hxa i (by omega))) ?_;refine tR 2 [8,10] λσ5 _ _=>?_;refine tT 6 (pt by_ (oy+5*i)) (λ_=>(Lr hya i (by omega))) ?_;refine My 27 (λee LL ΦΦ=>∃ (_:Unit),ee=[(0,S3.v x),(1,S3.v y),(5,iv (i:Int)),(26,.bool (!decide (c=d)))]/\LL=[]/\ΦΦ=[Fa.zv x 5 (cmL a),Fa.zv y 5 (cmL b)]) (λJ hJ=>?_) ?_
   .refine JS 3 7 ?_ ?_
    .refine tV 3 (.agg #[iv c.k,iv c.c,iv c.s,iv c.n,iv c.v]) (λF C=>(Ou c λq_ u hu=>F.1.rd.rc.cellAt hxa hc hu)) ?_;refine tV 7 (.agg #[iv d.k,iv d.c,iv d.s,iv d.n,iv d.v]) (λF C=>(Ou d λq_ u hu=>F.2.1.rd.rc.cellAt hya hd hu)) ?_;refine tT 8 (.bool (!decide (c=d))) (λ_=>(gu (x:=(.tmp 21)) (y:=(.tmp 25)) c d)) ?_;refine tR 1 [] λσ10 _ _=>?_;exact tD hJ [] ⟨(),rfl,rfl,rfl⟩ (λF=>F)
    .refine tV 7 (.agg #[iv d.k,iv d.c,iv d.s,iv d.n,iv d.v]) (λF C=>(Ou d λq_ u hu=>F.2.1.rd.rc.cellAt hya hd hu)) ?_;refine tV 3 (.agg #[iv c.k,iv c.c,iv c.s,iv c.n,iv c.v]) (λF C=>(Ou c λq_ u hu=>F.1.rd.rc.cellAt hxa hc hu)) ?_;refine tT 8 (.bool (!decide (c=d))) (λ_=>(gu (x:=(.tmp 21)) (y:=(.tmp 25)) c d)) ?_;refine tR 1 [] λσ14 _ _=>?_;exact tD hJ [] ⟨(),rfl,rfl,rfl⟩ (λF=>F)
   rintro _ _ _ ⟨_,rfl,rfl,rfl⟩ _ _ _;by_cases h3:¬ c=d
   .refine tI ((!decide (c=d))) true (by simpa using h3) ?_;refine tR 4 [] λσ16 _ _=>?_;rw[D' h3]at hI
    subst hI;exact tE (.bool false) λ_ B=>⟨rfl,B⟩
   .refine tI ((!decide (c=d))) false (by simpa using h3) ?_;rw[I' (iY.1 h3),Bool.true_and]at hI
    refine tR 4 [] λσ17 _ _=>?_;refine tV 1 (iv ((i:Int)+1)) (λF C=>(AD (x:=(.tmp 16)) (y:=(.const (iv 1))) (i:Int) 1 underlying3 (by omega))) ?_;refine tR 2 [] λσ18 _ _=>?_;exact tB hJ (a.length-(i+1)) (by omega) [] ⟨i+1,rfl,rfl,rfl,rfl,by omega,hI⟩ (λF=>F)
  .refine tI ((decide ((i:Int)<(y.n:Int)))) false (D' (by omega)) ?_;refine tR 5 [] λσ19 _ _=>?_;rw[SC (by omega)]at hI
   subst hI;exact tE (.bool true) λ_ B=>⟨rfl,B⟩
 .refine tV 3 (.bool false) (λF C=>(rLt (t:=3) (m:=(i:Int)) (n:=(x.n:Int)) (x:=(.tmp 6)) (y:=(.tmp 8)) (D' (by omega)))) ?_;refine tR 13 [] λσ20 _ _=>?_;rw[SC (by omega)]at hI
  subst hI;exact tE (.bool true) λ_ B=>⟨rfl,B⟩
end
end
section
theorem de{l m:List Cmd}(h:∀ (s:Nat) (c d:Cmd),l[s]?=some c->m[s]?=some d->c=d):alk l m=true:=by
 induction l generalizing m with
 | nil=>cases m<;>rfl
 | cons c l ih =>
  cases m with
  | nil=>rfl
  | cons d m =>
   rw[alk,h 0 c d rfl rfl,ih λs c d h1 h2=>h (s+1) c d h1 h2];simp
theorem Xv{M:Meet}{i s:Nat}{c:Cmd}(h:(M.log i)[s]?=some c):(M.node i).agreed[s]?=some c:=by
 unfold Meet.log at h;rw[jL]at h
 split at h
 .exact h
 .cases h
theorem P7{L:List Lac}(hL:∀ x∈L,LacOk x)(hl:L.length<=100000){k m:Nat}{i j:Nat}(hi:i<5)(hj:j<5):alk ((AK.acts (L.take k)).log i) ((AK.acts (L.take m)).log j)=true:=by
 have key:∀ {k m i j:Nat},k<=m->i<5->j<5->∀ (s:Nat) (c d:Cmd),((AK.acts (L.take k)).log i)[s]?=some c->((AK.acts (L.take m)).log j)[s]?=some d->c=d:=λ{k m i j} hkm hi hj s c d h1 h2=>by
  have e:L.take m=L.take k++(L.take m).drop k:=by
   have:=jz k (L.take m);rw[kl,jR hkm]at this
   exact this.symm
  rw[e]at h2
  refine agree (L:=L.take k) (K:=(L.take m).drop k) (λx hx=>?_) ?_ hi hj (Xv h1) (Xv h2)
  .rw[<- e]at hx;exact hL x (jb hx)
  .rw[<- e,iO];omega
 refine de λs c d h1 h2=>?_;rcases Nat.le_total k m with g|g
 .exact key g hi hj s c d h1 h2
 .exact(key g hj hi s d c h2 h1).symm
theorem ai{L:List Lac}(hL:∀ x∈L,LacOk x)(hl:L.length<=100000)(k:Nat){j:Nat}(hj:j<5):((AK.acts (L.take k)).log j).length<=40:=by
 have h1:=((Kr (L.take k) (λx hx=>hL x (jb hx)) (by rw[iO];omega)).node j hj).ag;unfold Meet.log;rw[iO];omega
end
section
open Go.RowKit
section
variable{P:Program}{fn:Func}{R:Ending->World->Prop}{w0:World}{Φ:List Fa}{g:Gh}{w:World}
def fT(g:Gh)(r b k:Nat):Gh:=⟨λc=>if c=b then .n 60 r else g.t c,λc=>if c=b then k else g.k c⟩
theorem iF{s:Xs}(i r b sz n:Nat)(vs:List Value)(e:TypeId){v:Bool}(Ψ:List Fa)(hΨ:∀ g',(∀ c,g.t c=.z->g'.t c=.z)->AllF g w Φ->AllF g' w Ψ)
  (hk:∀ g',GT P fn R w0 (Fa.ow r e sz ⟨some ⟨b,0,none⟩,n,n⟩ vs::Ψ) ⟨s.K,s.f,s.L.eraseIdx i⟩ g' w)
  (hl:vs.length=n*sz)(hn:n<=maxLen)(hi:s.L[i]?=some ⟨b,.cells vs.toArray e,.l,v⟩:=by kernel_rfl):GT P fn R w0 Φ s g w:=by
 refine⟨λF C=>⟨λhK=>?_⟩⟩;obtain⟨h1,h2,h3,h4⟩:=hK.row _ (jg hi);have h3:w0.heap.size<=b:=h3 rfl;have hb:b<w.heap.size:=rl h1;have hz:∀ c,g.t c=.z->(fT g r b vs.length).t c=.z:=λc hc=>by
  show(if c=b then _ else _)=_;rw[if_neg (λe=>by rw[e,h2]at hc;cases hc)];exact hc
 have ne:∀ c,c<w0.heap.size->c≠b:=λc hc e=>by subst e;exact absurd h3 (by omega)
 refine((hk (fT g r b vs.length)).ex ⟨⟨hl,.inr ⟨b,vs.toArray,rfl,h1,A' _,hn,by simpa using hl,by simp[<- hl],if_pos rfl,if_pos rfl⟩⟩,hΨ _ hz F⟩ ⟨C.os,C.tape,C.output,C.size,λc hc=>?_,λc hc=>?_,λc hc a d=>?_,C.same,λc hc=>C.pref c hc⟩).ex ⟨λx hx=>?_,?_,λc hc=>?_,hK.base⟩
 .show(if c=b then _ else _)=_\/_/\_/\(if c=b then _ else _)=_;rw[if_neg (ne c hc)];exact C.tag_ c hc
 .show _<=(if c=b then _ else _);rw[if_neg (ne c hc)];exact C.kap c hc
 .show(if c=b then _ else _)=_;rw[if_neg (ne c hc)];exact C.kat c hc a d
 .obtain⟨j,hj,hx2⟩:=List.mem_eraseIdx_iff_getElem?.1 hx;have hne:x.g≠b:=λe=>by
   obtain⟨hj1,hj2⟩:=Q'.1 hx2;obtain⟨hi1,hi2⟩:=Q'.1 hi;rcases Nat.lt_or_gt_of_ne hj with q|q
   .have:=(jN.1 hK.nod j i hj1 hi1 q (by rw[hj2,hi2];exact e)).2.1;rw[hi2]at this;cases this
   .have:=(jN.1 hK.nod i j hi1 hj1 q (by rw[hj2,hi2];exact e.symm)).1.1;rw[hi2]at this;cases this
  have:=hK.row x (jg hx2);show _/\(if _ then _ else _)=_/\_/\(_->(if _ then _ else _)=_);rw[if_neg hne,if_neg hne];exact this
 .exact hK.nod.sublist (List.eraseIdx_sublist _ _)
 .show(if _ then _ else _)=_/\(if _ then _ else _)=_;have e:c≠b:=by omega
  rw[if_neg e,if_neg e];exact hK.new c hc
end
section
def Was(L:List Lac)(m:List Cmd):Prop:=m=[]\/∃ (Q:List Lac) (j:Nat),Q <+: L/\j<5/\m=(AK.acts Q).log j
variable{L:List Lac}{M:Meet}{b j off:Nat}{c n tc tr tu:Int}{e:TypeId}{g g':Gh}{l:List (Lac × S3)}{ly x y:S3}{m:List Cmd}{w:World}{ys:Nat->S3}
theorem Was.mono(h:Was L m)(x:List Lac):Was (L++x) m:=h.imp id λ⟨Q,j,h1,h2⟩=>⟨Q,j,h1.trans (kg _ _),h2⟩
theorem Was.alk(h:Was L m)(hL:∀ x∈L,LacOk x)(hl:L.length<=100000)(hj:j<5):Go.Proofs.YtalbmmghmoggcadGreatDoor.alk ((AK.acts L).log j) m=true:=by
 rcases h with rfl|⟨Q,i,h1,h2,rfl⟩
 .exact SE _
 .have:=P7 hL hl (k:=L.length) (m:=Q.length) hj h2
  rwa [jU,List.prefix_iff_eq_take.1 h1 |>.symm]at this
theorem Was.me(L:List Lac)(hj:j<5):Was L ((AK.acts L).log j):=.inr ⟨L,j,jM _,hj,rfl⟩
theorem Za(hL:∀ x∈L,LacOk x)(hl:L.length<=100000){i:Nat}(hi:i<5)(hj:j<5):alk ((AK.acts L).log i) ((AK.acts L).log j)=true:=by
 have:=P7 hL hl (k:=L.length) (m:=L.length) hi hj
 rwa [jU]at this
def AT(L:List Lac):Prop:=∀ x∈L,LacOk x
theorem AT.app{K:List Lac}(h:AT L)(k:AT K):AT (L++K):=λx hx=>(V'.1 hx).elim (h x) (k x)
theorem Xw(hL:AT L)(hl:L.length<=100000)(hj:j<5):((AK.acts L).log j).length<=40:=by
 have:=ai hL hl L.length hj
 rwa [jU]at this
theorem dK(hL:AT L)(hl:L.length<=100000):(AK.acts L).lets.length<=1000000:=by
 have:=(Kr L hL hl).wt;omega
theorem FSl.og{l:List Int}(h:FSl g w x l)(hz:∀ c,g.t c=.z->g'.t c=.z):FSl g' w x l:=⟨h.s,λe a ha=>hz _ (h.z e a ha)⟩
theorem FzV.og{sz:Nat}{vs:List Value}(h:FzV g w x sz vs)(hz:∀ c,g.t c=.z->g'.t c=.z):FzV g' w x sz vs:=⟨h.rd,λe a ha=>hz _ (h.z e a ha)⟩
theorem Oq{tv:S3}(h:OutF g w ly tv ys M):OutW w M ly tv ys:=⟨h.logs.rd,λj hj=>(h.log j hj).rd.rc,h.told.rd⟩
theorem eJ(h:AcR w x L l)(ho:∀ a∈L,LacOk a)(hl:L.length<=100000)(hT:TH w)(hM:AK.acts L=M) :
  Calls prog 17 #[x.v] w λe w'=>∃ (ly tv:S3) (ys:Nat->S3),e=.returned (.tuple #[.agg (JN M ly tv),iv 0])/\OutW w' M ly tv ys/\OutN w.heap.size M ly tv ys/\Bw w w':=by
 subst hM;refine(bi (h.sk (by omega)) (λi hi=>by rw[Oc hi];exact ho _ (jr hi)) hl hT.1 hT.2.1 hT.2.2).mono ?_;rw[VB];rintro e w' ⟨hb,ly,tv,ys,h1,h2,h3⟩;exact⟨ly,tv,ys,h1,h2,h3,hb⟩
theorem XZ(h:AcR w x L l)(ho:∀ a∈L,LacOk a)(hl:L.length<=100000)(hT:TH w)(hM:AK.acts L=M) :
  Calls prog 7 #[x.v] w λe w'=>∃ (ly tv:S3) (ys:Nat->S3),e=.returned (.tuple #[.agg (JN M ly tv),.bool true])/\OutW w' M ly tv ys/\OutN w.heap.size M ly tv ys/\Bw w w':=by
 refine tIn [] func7 trivial ?_;refine tR 8 [1,0] λσ1 _ _=>?_;refine tF λ_ Cs=>?_;have hs2:=Cs.size;refine tC 1 (λF C=>eJ (h.below (CgQ.below C)) ho hl (tb5 hT C) hM) λNz=>?_;rintro _ _ ⟨ly,tv,ys,rfl,hW,hN,b3⟩;refine⟨_,Fa.ot ly tv ys M::_,rfl,b3,λF=>⟨Oo hW hN Nz,F⟩,?_⟩;refine tR 14 [0,0,1,0,9,0,1,2,4,6,8] λσ4 _ _=>?_;refine My 20 (λee LL ΦΦ=>∃ (_:Unit),ee=[(2,pt (σ1 0) 0),(3,.bool ((ly.n:Int)==5))]/\LL=[⟨(σ1 0),.cells (JN M ly tv) 43,.l,false⟩,⟨(σ4 0),.cells (JN M ly tv) 43,.z,false⟩]/\ΦΦ=[Fa.ot ly tv ys M]) (λJ hJ=>?_) ?_
 .refine JS 5 9 ?_ ?_
  .refine tR 7 [1,12,14,16,19,0,0,20] λσ5 _ _=>?_;exact tD hJ [true,true] ⟨(),rfl,rfl,rfl⟩ (λF=>⟨F.1,trivial⟩)
  .refine tR 7 [0,0,11,1,12,14,16,20] λσ6 _ _=>?_;exact tD hJ [true,true] ⟨(),rfl,rfl,rfl⟩ (λF=>⟨F.1,trivial⟩)
 rintro _ _ _ ⟨_,rfl,rfl,rfl⟩ _ _ _;have hn:(((ly.n:Nat):Int)==5)=true:=by rw[hW.n5];rfl
 exact tX λF C=>qE2 2 3 43 0 (σ1 0) (JN M ly tv) (.bool ((ly.n:Int)==5)) λ_=>⟨ly,tv,ys,by rw[hn],Oq F.1,hN.mono hs2,CgQ.below C⟩
theorem G9{W:World}(ha:x.a=some ⟨b,off,none⟩)(j:Nat)(hj:j<x.n):(Instr.indexAt 39 x.v (iv (j:Int))).run prog W=.ok (pt b (off+j)) W:=by
 obtain⟨xa,xn,xc⟩:=x;simp only at ha hj;subst ha;exact PZ (P:=prog) (e:=37) (z:=1) underlying39 (by kernel_rfl) (by kernel_rfl) hj _ (by rw[mH])
theorem B1(h:RdV w ly 1 [S3.v (ys 0),S3.v (ys 1),S3.v (ys 2),S3.v (ys 3),S3.v (ys 4)])(ha:ly.a=some ⟨b,off,none⟩)(hj:j<5):w.cell? ⟨b,off+j,none⟩=some (S3.v (ys j)):=by
 rcases h.ex with h1|⟨b',off',h1,h2,h3⟩
 .have:=h.len;simp at this;omega
 .rw[ha]at h1;cases h1
  refine h3 j _ ?_;rcases five hj with rfl|rfl|rfl|rfl|rfl<;>rfl
def XH(M:Meet)(ly tv:S3):Array Value:=#[iv (M.lets.length:Int),.bool true,.bool (M.node 1).up,.bool (M.node 2).up,.bool (M.node 3).up,.bool (M.node 4).up,S3.v ly,iv ((M.node 0).bad:Int),iv ((M.node 1).bad:Int),iv ((M.node 2).bad:Int),iv ((M.node 3).bad:Int),iv ((M.node 4).bad:Int),S3.v tv]
theorem aJ(hu:(M.node 0).up=true)(ly tv:S3):JN M ly tv=XH M ly tv:=by unfold JN XH;rw[hu]
theorem eC(h:AcR w x L l)(ho:∀ a∈L,LacOk a)(hl:L.length<=100000)(hT:TH w)(hM:AK.acts L=M)(hu:(M.node 0).up=true) :
  Calls prog 7 #[x.v] w λe w'=>∃ (ly tv:S3) (ys:Nat->S3),e=.returned (.tuple #[.agg (XH M ly tv),.bool true])/\OutW w' M ly tv ys/\OutN w.heap.size M ly tv ys/\Bw w w' :=
 (XZ h ho hl hT hM).mono λe w' ⟨ly,tv,ys,h1,h2⟩=>⟨ly,tv,ys,by rw[<- aJ hu];exact h1,h2⟩
theorem Vc{many:Nat}(h:RdV w x 5 (acV l))(hd:∀ p∈l,Sl w p.2.v p.1.d)(hm:l.length+6*many<=1000000) :
  Calls prog 9 #[x.v,iv (many:Int)] w λe w'=>∃ y:S3,e=.returned y.v/\OwN w.heap.size w' 35 5 y (acV (l++rnP (Gt many)))/\Bw w w':=by
 have hxn:x.n=l.length:=by have:=h.len;rw[SA]at this;omega
 refine tIn [Fa.ac x l] func9 ⟨⟨h.fz,λp hp=>⟨hd p hp,λ_ _ _=>rfl⟩⟩,trivial⟩ ?_;refine tR 7 [] λσ1 _ _=>?_;refine gR 1 0 x (acV l) 36 36 35 5 56 zLa (λF=>F.1.1.rd) [Fa.dt l] (λF=>⟨F.1.2,trivial⟩) rfl (by simp[TQ]) (YU l) (by rw[hxn];unfold maxLen;omega) (by omega) λy0 _ _ n0=>?_;refine tR 8 [] λσ3 _ _=>?_;refine Fs 39 [(1,iv (many:Int)),(5,S3.v y0),(6,iv 0)] [] [] [Fa.oa 0 y0 (l++rnP (Er 9 0))] (λkk ee LL ΦΦ=>∃ (j:Nat) (y:S3),kk=5-j/\ee=[(1,iv (many:Int)),(5,S3.v y),(6,iv (j:Int))]/\LL=[]/\ΦΦ=[Fa.oa 0 y (l++rnP (Er 9 j))]/\j<=5/\y.n=l.length+j) (5) ⟨0,y0,rfl,rfl,rfl,rfl,by omega,by omega⟩ (λF=>⟨by rw[show rnP (Er 9 0)=[]from rfl,jy];exact⟨F.1,F.2.1⟩,trivial⟩) ?_;rintro k _ _ _ ⟨j,y,rfl,rfl,rfl,rfl,hj,hyn⟩ _ _ _ J hJ;refine tR 6 [] λσ4 _ _=>?_;by_cases h1:j<5
 .refine tI ((decide ((j:Int)<5))) true (I' (by omega)) ?_;refine tR 8 [0,0] λσ5 _ _=>?_;refine JR 4 0 (x:=y) 36 36 35 5 56 zLa ⟨(σ5 0),0,none⟩ 1 1 [iv 9,iv (j:Int),iv 0,iv 0,sn] (λF=>F.1.1) [Fa.dt ((l++rnP (Er 9 j))++[(acN 9 (j:Int),s30)])] (λF=>⟨Dat.snoc F.1.2 (Hq _ _),trivial⟩) rfl (by simp[TQ]) rfl (by simp[Value.oneCell']) (λF K=>BL K 0 (σ5 0) [iv 9,iv (j:Int),iv 0,iv 0,sn] 35 .z true (by kernel_rfl)) (by unfold maxLen;omega) (by omega) λy6 _ _ n6=>?_;refine tR 5 [] λσ7 _ _=>?_;refine tV 1 (iv ((j:Int)+1)) (λF C=>(AD (x:=(.tmp 13)) (y:=(.const (iv 1))) (j:Int) 1 underlying3 (by omega))) ?_;refine tR 2 [] λσ8 _ _=>?_;exact tB hJ (5-(j+1)) (by omega) [false] ⟨j+1,y6,rfl,rfl,rfl,rfl,by omega,by omega⟩ (λF=>by rw[IE,Ly,<- iR];exact⟨⟨(by rw[Kp];exact F.1),F.2.1⟩,trivial⟩)
 .refine tI ((decide ((j:Int)<5))) false (D' (by omega)) ?_;obtain rfl:j=5:=by omega
  refine tR 7 [] λσ9 _ _=>?_;refine Fs 39 [(1,iv (many:Int)),(5,S3.v y),(7,iv 0)] [] [] [Fa.oa 0 y (l++rnP (Eu++Ct 0))] (λkk ee LL ΦΦ=>∃ (i:Nat) (y:S3),kk=many-i/\ee=[(1,iv (many:Int)),(5,S3.v y),(7,iv (i:Int))]/\LL=[]/\ΦΦ=[Fa.oa 0 y (l++rnP (Eu++Ct i))]/\i<=many/\y.n=l.length+(5+6*i)) (many) ⟨0,y,rfl,rfl,rfl,rfl,by omega,by omega⟩ (λF=>⟨F.1,trivial⟩) ?_;rintro k _ _ _ ⟨i,y,rfl,rfl,rfl,rfl,hi,hyn⟩ _ _ _ Jb hJb;refine tR 7 [] λσ10 _ _=>?_;by_cases h2:i<many
  .refine tI ((decide ((i:Int)<(many:Int)))) true (I' (by omega)) ?_;refine tR 9 [] λσ11 _ _=>?_;refine Fs 39 [(1,iv (many:Int)),(5,S3.v y),(7,iv (i:Int)),(8,iv 0)] [] [] [Fa.oa 0 y (l++rnP (Eu++Ct i++Er 3 0))] (λkk ee LL ΦΦ=>∃ (j:Nat) (y:S3),kk=5-j/\ee=[(1,iv (many:Int)),(5,S3.v y),(7,iv (i:Int)),(8,iv (j:Int))]/\LL=[]/\ΦΦ=[Fa.oa 0 y (l++rnP (Eu++Ct i++Er 3 j))]/\j<=5/\y.n=l.length+(5+6*i+j)) (5) ⟨0,y,rfl,rfl,rfl,rfl,by omega,by omega⟩ (λF=>⟨by rw[show Er 3 0=[]from rfl,jy];exact F.1,trivial⟩) ?_;rintro k _ _ _ ⟨j,y,rfl,rfl,rfl,rfl,hj,hyn⟩ _ _ _ Jc hJc;refine tR 6 [] λσ12 _ _=>?_;by_cases h3:j<5
   .refine tI ((decide ((j:Int)<5))) true (I' (by omega)) ?_;refine tR 8 [0,0] λσ13 _ _=>?_;refine JR 4 0 (x:=y) 36 36 35 5 56 zLa ⟨(σ13 0),0,none⟩ 1 1 [iv 3,iv (j:Int),iv 0,iv 0,sn] (λF=>F.1.1) [Fa.dt ((l++rnP (Eu++Ct i++Er 3 j))++[(acN 3 (j:Int),s30)])] (λF=>⟨Dat.snoc F.1.2 (Hq _ _),trivial⟩) rfl (by simp[TQ]) rfl (by simp[Value.oneCell']) (λF K=>BL K 0 (σ13 0) [iv 3,iv (j:Int),iv 0,iv 0,sn] 35 .z true (by kernel_rfl)) (by unfold maxLen;omega) (by omega) λy14 _ _ n14=>?_;refine tR 5 [] λσ15 _ _=>?_;refine tV 1 (iv ((j:Int)+1)) (λF C=>(AD (x:=(.tmp 27)) (y:=(.const (iv 1))) (j:Int) 1 underlying3 (by omega))) ?_;refine tR 2 [] λσ16 _ _=>?_;exact tB hJc (5-(j+1)) (by omega) [false] ⟨j+1,y14,rfl,rfl,rfl,rfl,by omega,by omega⟩ (λF=>by rw[IE,<- iR (Eu++Ct i),Ly,<- iR l];exact⟨⟨(by rw[Kp];exact F.1),F.2.1⟩,trivial⟩)
   .refine tI ((decide ((j:Int)<5))) false (D' (by omega)) ?_;obtain rfl:j=5:=by omega
    refine tR 5 [0,0] λσ17 _ _=>?_;refine JR 3 0 (x:=y) 36 36 35 5 56 zLa ⟨(σ17 0),0,none⟩ 1 1 [iv 7,iv 0,iv 0,iv 0,sn] (λF=>F.1.1) [Fa.dt ((l++rnP (Eu++Ct i++Er 3 5))++[(acN 7 0,s30)])] (λF=>⟨Dat.snoc F.1.2 (Hq _ _),trivial⟩) rfl (by simp[TQ]) rfl (by simp[Value.oneCell']) (λF K=>BL K 0 (σ17 0) [iv 7,iv 0,iv 0,iv 0,sn] 35 .z true (by kernel_rfl)) (by unfold maxLen;omega) (by omega) λy18 _ _ n18=>?_;refine tR 5 [] λσ19 _ _=>?_;refine tV 1 (iv ((i:Int)+1)) (λF C=>(AD (x:=(.tmp 23)) (y:=(.const (iv 1))) (i:Int) 1 underlying3 (by omega))) ?_;refine tR 2 [] λσ20 _ _=>?_;exact tB hJb (many-(i+1)) (by omega) [false] ⟨i+1,y18,rfl,rfl,rfl,rfl,by omega,by omega⟩ (λF=>by rw[show Eu++Ct (i+1)=Eu++Ct i++Er 3 5++[acN 7 0]by rw[Ct,<- iR,iR _ (Er 3 5)];rfl,Ly,<- iR l];exact⟨⟨(by rw[Kp];exact F.1),F.2.1⟩,trivial⟩)
  .refine tI ((decide ((i:Int)<(many:Int)))) false (D' (by omega)) ?_;obtain rfl:i=many:=by omega
   refine tR 6 [] λσ21 _ _=>?_;exact tX λF C=>qE (S3.v y) λ_=>⟨y,rfl,F.1.1.own C,CgQ.below C⟩
theorem Xf(k:Int)(j:Nat):∀ a∈Er k j,a.d=[]:=by
 intro a ha;obtain⟨n,_,rfl⟩:=ju.1 ha;rfl
theorem WC(m:Nat):∀ a∈Ct m,a.d=[]:=by
 induction m with
 | zero=>intro a ha;cases ha
 | succ m ih =>
  intro a ha;rcases V'.1 ha with h|h
  .exact ih a h
  .rcases V'.1 h with h|h
   .exact Xf 3 5 a h
   .rw[O'.1 h];rfl
theorem eF(m:Nat):∀ a∈Gt m,a.d=[]:=by
 intro a ha;rcases V'.1 ha with h|h
 .exact Xf 9 5 a h
 .exact WC m a h
theorem Ye(m:Nat):(Gt m).length=5+6*m:=by unfold Gt;rw[G',Rj];rfl
theorem MO(ls:List (List Int))(j:Nat)(h:j<ls.length):(ls.take (j+1)).flatten=(ls.take j).flatten++ls.getD j []:=by
 rw[iW h,List.flatten_append];simp[List.getD,List.getElem?_eq_getElem h]
theorem SR(ls:List (List Int))(h:∀ l∈ls,l.length<=1000):ls.flatten.length<=1000*ls.length:=by
 induction ls with
 | nil=>simp
 | cons x r ih =>
  have h1:=h x (by simp);have h2:=ih (λl hl=>h l (by simp[hl]));simp only[List.flatten_cons,G',jo];omega
theorem Mc(n:Nat):(Builtin.zeroCells (Value.int .u8 0).cells n).size=n:=by
 simp[Builtin.zeroCells,Value.cells]
theorem WQ(n:Nat)(w:World)(h0:0<n)(h1:n<=20000) :
  Calls prog 27 #[.slice none 0 0,.int .i64 (n:Int)] w λe w'=>∃ v',e=.returned v'/\w'.ownsRow w.heap.size 5 1 v' 0 []/\Bw w w':=by
 obtain⟨i0,hi,hz0,hz1,hz2⟩:=info_parts At;have hr:=λty=>Lib.run_append_nil_zeros (P:=prog) w 28 3 ty 5 i0 (.int .u8 0) .i64 .i64 underlying28 underlying3 hi hz0 n h0 (by rw[hz1];decide) (by omega) (by rw[hz2];omega);have hge:=grownCap_ge w n 0 5;have hcm:=grownCap_le_maxLen w n 0 5 (by unfold maxLen;omega);have hcs:(Builtin.zeroCells (Value.int .u8 0).cells n++Builtin.zeroCells (Value.int .u8 0).cells (grownCap w n 0 5-n)).size=grownCap w n 0 5*1:=by rw[Array.size_append,Mc,Mc];omega
 generalize Builtin.zeroCells (Value.int .u8 0).cells n++Builtin.zeroCells (Value.int .u8 0).cells (grownCap w n 0 5-n)=Z at hr hcs;generalize grownCap w n 0 5=cap at hr hcs hge hcm;have bb:Bw w (w.drew.alloc (.cells Z 5)):=((Below.refl w.heap.size w).drew).alloc (by exact A' _) _;have rr:(w.drew.alloc (.cells Z 5)).heap[w.heap.size]?=some (.cells Z 5):=heap_alloc_new _ _;generalize w.drew.alloc (.cells Z 5)=W at hr bb rr;have ho:W.ownsRow w.heap.size 5 1 (.slice (some ⟨w.heap.size,0,none⟩) 0 cap) 0 []:=⟨by simp,.inr ⟨w.heap.size,cap,Z,rfl,A' _,rr,by omega,hcm,hcs,by simp⟩⟩;have hsl:∀ W',(Instr.slice 28 (.slice (some ⟨w.heap.size,0,none⟩) n cap) none (some (.int .i64 0)) none).run prog W'=.ok (.slice (some ⟨w.heap.size,0,none⟩) 0 cap) W':=λW'=>by
  rw[run_slice_h (P:=prog) W' 28 (some ⟨w.heap.size,0,none⟩) n cap underlying28 .i64 0 (by omega) (by omega)];have e:prog.elem 28=5:=by kernel_rfl
  rw[e,IR];simp[Result.andThen,sliced,Addr.add_mid]
 have hpos:(0:Int)<(n:Int):=by omega
 clear rr hcs hcm hge hi hz0 hz1 hz2;go_enter func27,ntmps27
 go_wp2_with (at_builtin;refine Lib.wpList_append_run _ rfl _ _ _ _ rfl _ _ rfl rfl _ _ (hr _) ?_)
 go_ret;exact⟨_,rfl,ho,bb⟩
theorem QU(g n cap:Nat)(vs:List Value)(ls:List (List Int))(w:World)(hg:g<w.heap.size)(hn:n<=10)(hls:ls.length=n)(hc:∀ i,i<n->w.cell? ⟨g,i,none⟩=some (vs.getD i undef))(hs:∀ i,i<n->Sl w (vs.getD i undef) (ls.getD i []))(hl:∀ l∈ls,l.length<=1000)(hp:0<ls.flatten.length) :
  Calls prog 16 #[.slice (some ⟨g,0,none⟩) n cap] w λe w'=>∃ v',e=.returned v'/\w'.ownsRow w.heap.size 5 1 v' ls.flatten.length (ls.flatten.map (Value.int .u8))/\Bw w w':=by
 have HLS:Hid (ls.length=n):=hls;have HC:Hid _:=hc;have HS:Hid _:=hs;have HL:Hid _:=hl;have HP:Hid _:=hp;clear hls hc hs hl hp;go_enter func16,ntmps16
 go_wp2_with fail
 go_loopw [3,11] (λsv i wr=>∃ j:Nat,j<=n/\i=.int .i64 j/\sv=.int .i64 ((ls.take j).flatten.length:Int)/\w=wr) (λ_ i _=>n-(intOf i).toNat)
 case atStart=>exact⟨0,by omega,rfl,by simp,rfl⟩
 case round =>
  obtain⟨j,hj,rfl,rfl,rfl⟩:=hrel;have hfl:=SR (ls.take j) (λl hl=>HL.out l (jb hl));by_cases hjn:j<n
  .have hf2:(ls.take j).flatten.length<=10000:=by rw[iO]at hfl;omega
   have HF:Hid ((ls.take (j+1)).flatten.length=(ls.take j).flatten.length+(ls.getD j []).length):=by unfold Hid;rw[MO ls j (by rw[HLS.out];exact hjn),G']
   have sj:=HS.out j hjn;have cj:=HC.out j hjn;have hlj:(ls.getD j []).length<=1000:=by
    have hj2:j<ls.length:=by rw[HLS.out];exact hjn
    have:ls.getD j []=ls[j]:=by simp[List.getD,List.getElem?_eq_getElem hj2]
    rw[this];exact HL.out _ (jr hj2)
   generalize vs.getD j undef=vj at sj cj;generalize ls.getD j []=lj at sj HF hlj;generalize (ls.take j).flatten.length=pre at HF hf2;clear hfl;obtain⟨⟨aj,kj,rfl,_,_,_⟩,_,_⟩:=sj;generalize lj.length=nj at *;go_wp2
   go_roundw
   case rel=>exact⟨j+1,by omega,by go_num,by rw[HF.out];go_num,by simp⟩
   case measure=>simp[intOf];omega
  .obtain rfl:j=n:=by omega
   have HT:Hid (ls.take j=ls):=iU (by rw[HLS.out];exact A' _);have hz:ls.flatten.length<=10000:=by rw[HT.out,HLS.out]at hfl;omega
   rw[HT.out];clear hfl;have HZ:=HP.out;generalize hz2:ls.flatten.length=Z at hz HZ;have HZZ:Hid (ls.flatten.length=Z):=hz2;clear hz2;go_wp2_with fail
   refine(WQ Z w HZ (by omega)).mono ?_;rintro e w1 ⟨v1,rfl,ho1,hb1⟩;clear HZ hz;obtain⟨g1,c1,rfl⟩:=Ed ho1;have HO1:Hid (w1.ownsRow w.heap.size 5 1 (.slice g1 0 c1) (ls.take 0).flatten.length ((ls.take 0).flatten.map (Value.int .u8))):=by unfold Hid;simpa using ho1
   clear ho1;go_wp2_with fail
   go_loopw [6,27] (λv i wr=>∃ k:Nat,k<=j/\i=.int .i64 k/\Hid (wr.ownsRow w.heap.size 5 1 v (ls.take k).flatten.length ((ls.take k).flatten.map (Value.int .u8)))/\Bw w wr) (λ_ i _=>j-(intOf i).toNat)
   case atStart=>exact⟨0,by omega,rfl,HO1,hb1⟩
   case round =>
    obtain⟨k,hk,rfl,hown0,hb⟩:=hrel;have hown:=hown0.out;clear hown0 HO1 hb1;have hlt:=hown.lt;by_cases hkn:k<j
    .have hfl:=SR (ls.take k) (λl hl=>HL.out l (jb hl));have hf2:(ls.take k).flatten.length<=10000:=by rw[iO]at hfl;omega
     have HF:Hid ((ls.take (k+1)).flatten=(ls.take k).flatten++ls.getD k []):=MO ls k (by rw[HLS.out];exact hkn);have sj:=(HS.out k hkn).below hb;have cj:=(hb.cell (p:=⟨g,k,none⟩) hg).trans (HC.out k hkn);have hlj:(ls.getD k []).length<=1000:=by
      have hj2:k<ls.length:=by rw[HLS.out];exact hkn
      have:ls.getD k []=ls[k]:=by simp[List.getD,List.getElem?_eq_getElem hj2]
      rw[this];exact HL.out _ (jr hj2)
     generalize vs.getD k undef=vj at sj cj;generalize ls.getD k []=lj at sj HF hlj;generalize (ls.take k).flatten=pre at hown HF hf2;clear hfl;have sj2:=sj;obtain⟨⟨aj,kj,rfl,_,_,_⟩,_,_⟩:=sj;go_wp2_with (at_builtin;refine Aa _ rfl _ _ 28 rfl w.heap.size 5 underlying28 At _ _ rfl rfl pre lj hown sj2 (by omega) hb.size ?_)
     intro v2 w2 ho2 hg2;have ho2':w2.ownsRow w.heap.size 5 1 v2 (pre++lj).length ((pre++lj).map (Value.int .u8)):=by simpa using ho2
     have hb2:Bw w w2:=hb.grown hg2 hb.size (λk hk=>(hlt k hk).1);clear ho2 hg2 hown hlt hb sj2 cj;go_wp2
     go_roundw
     case rel=>exact⟨k+1,by omega,by go_num,by rw[HF.out];exact ho2',hb2⟩
     case measure=>simp[intOf];omega
    .have HJ:Hid (ls.take k=ls):=by unfold Hid;exact iU (by rw[HLS.out];omega)
     go_wp2
     go_ret;refine⟨u6,rfl,?_,hb⟩;rw[HJ.out]at hown
     exact hown
theorem Zq{v0 v1:Value}{l0 l1:List Int}{g:Nat}(hr:w.heap[g]?=some (.cells #[v0,v1] e))(h0:Sl w v0 l0)(h1:Sl w v1 l1)(q0:l0.length<=1000)(q1:l1.length<=1000)(q3:0<l0.length) :
  Calls prog 16 #[.slice (some ⟨g,0,none⟩) 2 2] w λe w'=>∃ v',e=.returned v'/\w'.ownsRow w.heap.size 5 1 v' (l0++l1).length ((l0++l1).map (Value.int .u8))/\Bw w w':=by
 refine(QU g 2 2 [v0,v1] [l0,l1] w (H'.1 hr).1 (by omega) rfl ?_ ?_ ?_ ?_).mono ?_
 .intro i hi;rw[cell_of_row _ _ i _ _ _ hr];obtain rfl|rfl:i=0\/i=1:=by omega
  all_goals rfl
 .intro i hi;obtain rfl|rfl:i=0\/i=1:=by omega
  .exact h0
  .exact h1
 .intro l hl;simp only[iX,M',or_false]at hl;rcases hl with rfl|rfl
  .exact q0
  .exact q1
 .simp;omega
 .rintro e w2 ⟨v2,rfl,ho,hb⟩;exact⟨v2,rfl,by simpa using ho,hb⟩
theorem WP(hk:Sl w x.v Gq)(ht:AE w)(h:Dk tc tr tu) :
  Calls prog 11 #[x.v,.agg #[iv tc,iv tr,iv tu]] w λe w'=>∃ y:S3,e=.returned (.tuple #[y.v,iv 0])/\Sl w' y.v (JZ Gq tc tr tu)/\Bw w w':=by
 refine(Uq x.v Gq tc tr tu w hk ht).mono ?_;have h9:Mj Gq tc tr tu=0:=by rw[Ps Jo];exact Ki h
 rintro e w' ⟨v,rfl,ho,hb⟩;rw[show Pt Gq tc tr tu=JZ Gq tc tr tu from if_pos h9]at ho
 rw[h9];obtain⟨y,rfl,hy⟩:=FG ho (by rw[Eg];decide) (V1 _ h);exact⟨y,rfl,hy,hb⟩
theorem VT{l m:List Int}{g:Nat}(hr:w.heap[g]?=some (.cells #[x.v,y.v] e))(h0:Sl w x.v l)(h1:Sl w y.v m)(q0:l.length<=1000)(q1:m.length<=1000)(q3:0<l.length) :
  Calls prog 16 #[.slice (some ⟨g,0,none⟩) 2 2] w λe w'=>∃ z:S3,e=.returned z.v/\Sl w' z.v (l++m)/\Nb w.heap.size z (l++m)/\Bw w w':=by
 refine(Zq hr h0 h1 q0 q1 q3).mono ?_;rintro e w' ⟨v,rfl,ho,hb⟩;obtain⟨z,rfl,hz,hn⟩:=RO ho (by rw[G'];omega) (λa ha=>(V'.1 ha).elim (h0.byte a) (h1.byte a));exact⟨z,rfl,hz,hn,hb⟩
theorem bC{p:List Int}(hk:Sl w x.v (Gr c))(hp:Sl w y.v p)(ht:CB w)(h0:0<=n)(h1:n<1073741824)(hl:p.length=42) :
  Calls prog 15 #[.agg #[x.v,iv n,iv 0,.bool false,.bool false,.bool false,.bool false,.bool false,.bool false,.bool false,.bool false],y.v] w λe w'=>∃ u z:S3,e=.returned (.tuple #[.agg #[u.v,iv (n+1),iv 0,.bool false,.bool false,.bool false,.bool false,.bool false,.bool false,.bool false,.bool false],z.v,iv 0])/\Sl w' z.v (JO (Gr c) n p)/\Bw w w':=by
 refine(bD x.v (Gr c) n 0 noB y.v p w hk rfl hp ht (Yn h0 h1 hl)).mono ?_;rintro e w' ⟨v1,v2,rfl,h2,_,ho,hb⟩;obtain⟨u,rfl,_⟩:=Ts h2;obtain⟨z,rfl,hz⟩:=FG ho (by rw[FK];omega) (UY _ _ hp.byte);exact⟨u,z,rfl,hz,hb⟩
theorem Tn{k s m v:Int}(h:paE n tc tr tu k c s m v=0)(hT:Tabs w) :
  Calls prog 6 #[iv n,.agg #[iv tc,iv tr,iv tu],.agg #[iv k,iv c,iv s,iv m,iv v]] w λe w'=>∃ y:S3,e=.returned (.tuple #[y.v,iv 0])/\Sl w' y.v (paL n tc tr tu k c s m v)/\Nb w.heap.size y (paL n tc tr tu k c s m v)/\Bw w w':=by
 obtain⟨hn,hB,hC⟩:=XJ h;have hc:=(E4 hC).2;unfold InC at hc;rw[XK h];refine kIn func6 ?_;refine kR 11 [0,0,0,0] λσ1 w1 b1=>?_;refine kV 1 (.bool false) (rLt (x:=(.tmp 14)) (y:=(.const (iv 0))) (t:=3) (m:=n) (n:=0) (D' (by omega))) ?_;refine kR 2 [] λσ2 w2 b2=>?_;refine kV 4 (.bool false) (rGe (x:=(.tmp 17)) (y:=(.const (iv 1073741824))) (t:=3) (m:=n) (n:=1073741824) (D' (by omega))) ?_;refine kR 7 [8,2,0] λσ3 w3 b3=>?_;have B4:=(btr (btr b1 b2) b3);refine kC 0 (ID (hT.t.below B4)) ?_;rintro _ w5 ⟨yi,rfl,hyi,b5⟩;refine⟨_,rfl,b5,?_⟩;have B7:=(btr B4 b5);refine kC 2 (WP hyi (hT.t.below B7) hB) ?_;rintro _ w8 ⟨yt,rfl,hyt,b8⟩;refine⟨_,rfl,b8,?_⟩;refine kR 17 [6,8,10,12,14,1] λσ9 w9 b9=>?_;have B10:=(btr (btr B7 b8) b9);refine kC 1 (W6 (m:=⟨k,c,s,m,v⟩) (hT.n.below B10) hC) ?_;rintro _ w11 ⟨yc,rfl,hyc,b11⟩;refine⟨_,rfl,b11,?_⟩;refine kR 18 [1] λσ12 w12 b12=>?_;have B13:=(btr (btr B10 b11) b12);refine kC 2 (Xe (c:=c) (by omega) (hT.t.below B13) (if_pos (by omega))) ?_;rintro _ w14 ⟨yk,rfl,hyk,b14⟩;refine⟨_,rfl,b14,?_⟩;replace hyk:=hyk rfl;refine kR 22 [0,0] λσ15 w15 b15=>?_;refine Ag λK=>?_;refine kC 6 (VT (K.ats 2 (σ15 0) _ 28 .z true (by kernel_rfl)) (((((hyt.below b9).below b11).below b12).below b14).below b15) (((hyc.below b12).below b14).below b15) (by rw[Eg];decide) (by rw[DW];decide) (by rw[Eg];decide)) ?_;rintro _ w16 ⟨yp,rfl,hyp,_,b16⟩;refine⟨_,rfl,b16,?_⟩;have B18:=(btr (btr (btr B13 b14) b15) b16);refine kC 7 (bC ((hyk.below b15).below b16) hyp (hT.q.below hT.q.pos B18) hn.1 hn.2 (GV tc tr tu k c s m v)) ?_;rintro _ w19 ⟨u,z,rfl,hz,b19⟩;refine⟨_,rfl,b19,?_⟩;refine kR 21 [0,0,3,0,1] λσ20 w20 b20=>?_;refine kV 2 (.int .u8 c) (cL (P:=prog) (src:=3) (dst:=5) (k:=.i64) (n:=c) (by kernel_rfl) underlying5 (by kernel_rfl) (by rw[IntKind.wrap_u8];omega)) ?_;refine kR 3 [0,0,0,0] λσ21 w21 b21=>?_;refine Ag λK=>?_;have hc1:Sl w21 (S3.v ⟨some ⟨(σ21 0),0,none⟩,1,1⟩) [c]:=Sl.ofRow (l:=[c]) (K.ats 4 (σ21 0) _ 5 .z true (by kernel_rfl)) (by show 1<=_;decide) (λa ha=>by rw[O'.1 ha];omega);have B22:=(btr (btr (btr B18 b19) b20) b21);refine kC 6 (VT (x:=⟨some ⟨(σ21 0),0,none⟩,1,1⟩) (K.ats 5 (σ21 1) _ 28 .z true (by kernel_rfl)) hc1 ((hz.below b20).below b21) (by show 1<=1000;decide) (by rw[FK];show(paP tc tr tu k c s m v).length+20<=1000;rw[GV];decide) (by show 0<1;decide)) ?_;rintro _ w23 ⟨y,rfl,hy,hw,b23⟩;refine⟨_,rfl,b23,?_⟩;refine kR 3 [] λσ24 w24 b24=>?_;have B25:=(btr (btr B22 b23) b24);exact kE (.tuple #[S3.v y,iv 0]) ⟨y,rfl,(hy.below b24),hw.mono B22.size,B25⟩
end
end
end Go.Proofs.YtalbmmghmoggcadGreatDoor
