/- Part 33 of the walk. -/
import Derived.Deep.Slices
import Derived.Test.YtfhbkoflaekhpaaGreatDoorZ32
set_option maxRecDepth 100000
set_option maxHeartbeats 4000000
open Go.Proofs.Tryz
set_option linter.unusedVariables false
namespace Go.Proofs.YtfhbkoflaekhpaaGreatDoor
section
open Go.RowKit
def alk:List Cmd→List Cmd→Bool
 | c::a,d::b=>decide (c=d)&&alk a b
 | _,_=>true
theorem RU(a:List Cmd):alk a []=true:=by cases a<;>rfl
theorem RT{a b:List Cmd}{i:Nat}(h:¬ (i<a.length∧i<b.length)):alk (a.drop i) (b.drop i)=true:=by
 by_cases h1:i<a.length
 ·rw[show b.drop i=[]from List.drop_eq_nil_of_le (by omega),RU]
 ·rw[show a.drop i=[]from List.drop_eq_nil_of_le (by omega)];rfl
theorem UX{a b:List Cmd}{i:Nat}{c d:Cmd}(ha:a[i]?=some c)(hb:b[i]?=some d):alk (a.drop i) (b.drop i)=(decide (c=d)&&alk (a.drop (i+1)) (b.drop (i+1))):=by
 obtain⟨h1,rfl⟩:=List.getElem?_eq_some_iff.1 ha;obtain⟨h2,rfl⟩:=List.getElem?_eq_some_iff.1 hb;rw[List.drop_eq_getElem_cons h1,List.drop_eq_getElem_cons h2,alk]
theorem fX(a b c d e a' b' c' d' e':Int):∀ w,(binOp .neq 46 (.agg #[.int .i64 a,.int .i64 b,.int .i64 c,.int .i64 d,.int .i64 e]) (.agg #[.int .i64 a',.int .i64 b',.int .i64 c',.int .i64 d',.int .i64 e'])).run prog w=.ok (.bool (!decide (a=a'∧b=b'∧c=c'∧d=d'∧e=e'))) w:=by
 intro w;rw[run_neq_struct,run_equalIn_agg w 9999 _ _ _ (by kernel_rfl) (by kernel_rfl)];unfold Program.fieldsOf;rw[underlying46];have h3:=underlying3;simp[Op.eqFields,go_sem,h3]
 repeat' split
 all_goals simp_all
theorem eV{W:World}{x y:Operand}(a b:Cmd):(do Go.eqGuard .neq 46 x y (.agg #[iv a.k,iv a.c,iv a.s,iv a.n,iv a.v]) (.agg #[iv b.k,iv b.c,iv b.s,iv b.n,iv b.v]);Go.binOp .neq 46 (.agg #[iv a.k,iv a.c,iv a.s,iv a.n,iv a.v]) (.agg #[iv b.k,iv b.c,iv b.s,iv b.n,iv b.v]):Sem Value).run prog W=.ok (.bool (!decide (a=b))) W:=by
 have h1:=fX a.k a.c a.s a.n a.v b.k b.c b.s b.n b.v W;rw[Nh]at h1
 have hg:(Go.eqGuard .neq 46 x y (.agg #[iv a.k,iv a.c,iv a.s,iv a.n,iv a.v]) (.agg #[iv b.k,iv b.c,iv b.s,iv b.n,iv b.v])).run prog W=.ok () W:=by kernel_rfl
 rw[Sem.run_bind,hg,Result.andThen_ok];exact h1
theorem UW{x y:S3}{a b:List Cmd}{w:World}(h:RdV w x 5 (cmL a))(k:RdV w y 5 (cmL b))(hb:a.length<1000000){r:Bool}(hr:alk a b=r) :
  Calls prog 6 #[x.v,y.v] w fun e w'=>e=.returned (.bool r)∧Bw w w':=by
 have hx:=Yu h;have hy:=Yu k;refine tIn [Fa.zv x 5 (cmL a),Fa.zv y 5 (cmL b)] func6 ⟨h.fz,k.fz,trivial⟩ ?_;refine tR 10 [] fun σ1 _ _=>?_;refine Jl 27 [(0,S3.v x),(1,S3.v y),(5,iv 0)] [] [] [Fa.zv x 5 (cmL a),Fa.zv y 5 (cmL b)] (fun kk ee LL ΦΦ=>∃ (i:Nat),kk=a.length-i∧ee=[(0,S3.v x),(1,S3.v y),(5,iv (i:Int))]∧LL=[]∧ΦΦ=[Fa.zv x 5 (cmL a),Fa.zv y 5 (cmL b)]∧i≤a.length∧alk (a.drop i) (b.drop i)=r) (a.length) ⟨0,rfl,rfl,rfl,rfl,by omega,hr⟩ (fun F=>F) ?_;rintro k _ _ _ ⟨i,rfl,rfl,rfl,rfl,hi,hI⟩ _ _ _ J hJ;refine tR 6 [] fun σ2 _ _=>?_;by_cases h1:i<a.length
 ·refine tV 3 (.bool true) (fun F C=>(rLt (t:=3) (m:=(i:Int)) (n:=(x.n:Int)) (x:=(.tmp 6)) (y:=(.tmp 8)) (decide_eq_true (by omega)))) ?_;refine tR 7 [] fun σ3 _ _=>?_;by_cases h2:i<b.length
  ·refine tI ((decide ((i:Int)<(y.n:Int)))) true (decide_eq_true (by omega)) ?_;obtain⟨c,hc⟩:∃ c,a[i]?=some c:=⟨_,List.getElem?_eq_getElem (by omega)⟩;obtain⟨d,hd⟩:∃ d,b[i]?=some d:=⟨_,List.getElem?_eq_getElem (by omega)⟩;rw[UX hc hd]at hI
   refine tF fun F _=>?_;obtain⟨bx,ox,hxa⟩:=F.1.rd.rc.addr (k:=i) (by omega);obtain⟨by_,oy,hya⟩:=F.2.1.rd.rc.addr (k:=i) (by omega);refine tR 7 [9,0,2] fun σ4 _ _=>?_;refine tT 2 (pt bx (ox+5*i)) (fun _=>(KR hxa i (by omega))) ?_;refine tR 2 [8,10] fun σ5 _ _=>?_;refine tT 6 (pt by_ (oy+5*i)) (fun _=>(KR hya i (by omega))) ?_;refine RE 27 (fun ee LL ΦΦ=>∃ (_:Unit),ee=[(0,S3.v x),(1,S3.v y),(5,iv (i:Int)),(26,.bool (!decide (c=d)))]∧LL=[]∧ΦΦ=[Fa.zv x 5 (cmL a),Fa.zv y 5 (cmL b)]) (fun J hJ=>?_) ?_
   ·refine RF 3 7 ?_ ?_
    ·refine tV 3 (.agg #[iv c.k,iv c.c,iv c.s,iv c.n,iv c.v]) (fun F C=>(NE c fun q_ u hu=>F.1.rd.rc.cellAt hxa hc hu)) ?_;refine tV 7 (.agg #[iv d.k,iv d.c,iv d.s,iv d.n,iv d.v]) (fun F C=>(NE d fun q_ u hu=>F.2.1.rd.rc.cellAt hya hd hu)) ?_;refine tT 8 (.bool (!decide (c=d))) (fun _=>(eV (x:=(.tmp 21)) (y:=(.tmp 25)) c d)) ?_;refine tR 1 [] fun σ10 _ _=>?_;exact tD hJ [] ⟨(),rfl,rfl,rfl⟩ (fun F=>F)
    ·refine tV 7 (.agg #[iv d.k,iv d.c,iv d.s,iv d.n,iv d.v]) (fun F C=>(NE d fun q_ u hu=>F.2.1.rd.rc.cellAt hya hd hu)) ?_;refine tV 3 (.agg #[iv c.k,iv c.c,iv c.s,iv c.n,iv c.v]) (fun F C=>(NE c fun q_ u hu=>F.1.rd.rc.cellAt hxa hc hu)) ?_;refine tT 8 (.bool (!decide (c=d))) (fun _=>(eV (x:=(.tmp 21)) (y:=(.tmp 25)) c d)) ?_;refine tR 1 [] fun σ14 _ _=>?_;exact tD hJ [] ⟨(),rfl,rfl,rfl⟩ (fun F=>F)
   rintro _ _ _ ⟨_,rfl,rfl,rfl⟩ _ _ _;by_cases h3:¬ c=d
   ·refine tI ((!decide (c=d))) true (by simpa using h3) ?_;refine tR 4 [] fun σ16 _ _=>?_;rw[decide_eq_false h3]at hI
    subst hI;exact tE (.bool false) fun _ B=>⟨rfl,B⟩
   ·refine tI ((!decide (c=d))) false (by simpa using h3) ?_;rw[decide_eq_true (Decidable.not_not.1 h3),Bool.true_and]at hI
    refine tR 4 [] fun σ17 _ _=>?_;refine tV 1 (iv ((i:Int)+1)) (fun F C=>(AV (x:=(.tmp 16)) (y:=(.const (iv 1))) (i:Int) 1 underlying3 (by omega))) ?_;refine tR 2 [] fun σ18 _ _=>?_;exact tB hJ (a.length-(i+1)) (by omega) [] ⟨i+1,rfl,rfl,rfl,rfl,by omega,hI⟩ (fun F=>F)
  ·refine tI ((decide ((i:Int)<(y.n:Int)))) false (decide_eq_false (by omega)) ?_;refine tR 5 [] fun σ19 _ _=>?_;rw[RT (by omega)]at hI
   subst hI;exact tE (.bool true) fun _ B=>⟨rfl,B⟩
 ·refine tV 3 (.bool false) (fun F C=>(rLt (t:=3) (m:=(i:Int)) (n:=(x.n:Int)) (x:=(.tmp 6)) (y:=(.tmp 8)) (decide_eq_false (by omega)))) ?_;refine tR 13 [] fun σ20 _ _=>?_;rw[RT (by omega)]at hI
  subst hI;exact tE (.bool true) fun _ B=>⟨rfl,B⟩
end
section
theorem bB{l m:List Cmd}(h:∀ (s:Nat) (c d:Cmd),l[s]?=some c→m[s]?=some d→c=d):alk l m=true:=by
 induction l generalizing m with
 | nil=>cases m<;>rfl
 | cons c l ih =>
  cases m with
  | nil=>rfl
  | cons d m =>
   rw[alk,h 0 c d rfl rfl,ih fun s c d h1 h2=>h (s+1) c d h1 h2];simp
theorem Ww{M:Meet}{i s:Nat}{c:Cmd}(h:(M.log i)[s]?=some c):(M.node i).agreed[s]?=some c:=by
 unfold Meet.log at h;rw[List.getElem?_take]at h
 split at h
 ·exact h
 ·cases h
theorem Wx{L:List Lac}(hL:∀ x∈L,LacOk x)(hl:L.length≤100000){k m:Nat}{i j:Nat}(hi:i<5)(hj:j<5):alk ((Bb.acts (L.take k)).log i) ((Bb.acts (L.take m)).log j)=true:=by
 have key:∀ {k m i j:Nat},k≤m→i<5→j<5→∀ (s:Nat) (c d:Cmd),((Bb.acts (L.take k)).log i)[s]?=some c→((Bb.acts (L.take m)).log j)[s]?=some d→c=d:=fun{k m i j} hkm hi hj s c d h1 h2=>by
  have e:L.take m=L.take k++(L.take m).drop k:=by
   have:=List.take_append_drop k (L.take m);rw[List.take_take,Nat.min_eq_left hkm]at this
   exact this.symm
  rw[e]at h2
  refine agree (L:=L.take k) (K:=(L.take m).drop k) (fun x hx=>?_) ?_ hi hj (Ww h1) (Ww h2)
  ·rw[← e]at hx;exact hL x (List.mem_of_mem_take hx)
  ·rw[← e,List.length_take];omega
 refine bB fun s c d h1 h2=>?_;rcases Nat.le_total k m with g|g
 ·exact key g hi hj s c d h1 h2
 ·exact(key g hj hi s d c h2 h1).symm
theorem Za{L:List Lac}(hL:∀ x∈L,LacOk x)(hl:L.length≤100000)(k:Nat){j:Nat}(hj:j<5):((Bb.acts (L.take k)).log j).length≤40:=by
 have h1:=((Og (L.take k) (fun x hx=>hL x (List.mem_of_mem_take hx)) (by rw[List.length_take];omega)).node j hj).ag;unfold Meet.log;rw[List.length_take];omega
end
section
open Go.RowKit
theorem LY{l:S3}{G:List Gr}{w:World}(h:RdV w l 5 (grL G))(hG:∀ g∈G,GrOk g)(hT:SY w) :
  Calls prog 3 #[l.v] w fun e w'=>e=.returned (.bool true)∧Bw w w':=by
 obtain⟨L,hL⟩:∃ L,scr G 60 true=L:=⟨_,rfl⟩;have hok:=dp G 60 true;have hln:=ZG G 60 true;rw[hL]at hok hln
 have hal:=fun{k m i j:Nat} (hi:i<5) (hj:j<5)=>Wx (L:=L) hok (by omega) (k:=k) (m:=m) hi hj;have hle:=fun(k:Nat) {j:Nat} (hj:j<5)=>Za (L:=L) hok (by omega) k hj;refine tIn [] func3 trivial ?_;refine tR 7 [] fun σ1 _ _=>?_;refine tC 1 (fun F C=>Uw (most:=60) (cr:=true) (h.below (CgQ.below C)) hG (by decide) (tbA hT.1 C)) fun Nz=>?_;rintro _ _ ⟨s,P,rfl,hP,hN,b2⟩;refine⟨_,Fa.ac s P::_,rfl,b2,fun F=>⟨hN.ac Nz,F⟩,?_⟩;rw[hL]at hP
 refine tC 2 (fun F C=>Ps (AcR.of F.1 hP) (by rcases hN.o.ex with⟨h,_⟩|⟨b,cur,_,h,_⟩;exact .inl h;exact .inr ⟨b,0,h⟩) hok (by omega) (tb5 hT C)) fun Nz=>?_;rintro _ _ ⟨y,Q,rfl,hQ,hy,hO,b4⟩;refine⟨_,[Fa.ol y Q],rfl,b4,fun F=>⟨⟨hy.fz Nz,fun o ho=>NA (hO o ho).1 (hO o ho).2 Nz⟩,trivial⟩,?_⟩;refine tF fun F _=>?_;have hyn:y.n=L.length+1:=by rw[eH F.1];have:=congrArg List.length hQ;simpa using this
 obtain⟨b0,off0,hy0,_⟩:=F.1.1.rd.spot (i:=0) (by omega);refine tR 16 [] fun σ5 _ _=>?_;refine Jl 57 [(3,S3.v y),(4,.bool true),(5,sn),(6,iv 0)] [] [] [Fa.ol y Q,Fa.zv s30 5 (cmL [])] (fun kk ee LL ΦΦ=>∃ (i:Nat) (mv:S3) (ml:List Cmd),kk=L.length+1-i∧ee=[(3,S3.v y),(4,.bool true),(5,S3.v mv),(6,iv (i:Int))]∧LL=[]∧ΦΦ=[Fa.ol y Q,Fa.zv mv 5 (cmL ml)]∧i≤L.length+1∧(∀ k j:Nat,j<5→alk ((Bb.acts (L.take k)).log j) ml=true)) (L.length+1) ⟨0,s30,[],rfl,rfl,rfl,rfl,by omega,fun k j _=>RU _⟩ (fun F=>⟨F.1,⟨⟨rfl,Nat.le_refl _,fun _=>rfl,.inl rfl⟩,fun e=>absurd rfl e⟩,trivial⟩) ?_;rintro k _ _ _ ⟨i,mv,ml,rfl,rfl,rfl,rfl,hi,hml⟩ _ _ _ J hJ;refine tR 8 [] fun σ6 _ _=>?_;by_cases h1:i<L.length+1
 ·refine tI ((decide ((i:Int)<(y.n:Int)))) true (decide_eq_true (by omega)) ?_;obtain⟨o,ho,hoM⟩:=S8 hQ (i:=i) (by omega);have hom:=List.mem_of_getElem? ho;refine tF fun F _=>?_;have hl5:=(NB (F.1.2 o hom)).n5;obtain⟨bl,fl,al,_⟩:=(F.1.2 o hom).logs.rd.spot (i:=0) (by omega);refine tR 8 [] fun σ7 _ _=>?_;refine Jl 57 [(3,S3.v y),(4,.bool true),(5,S3.v mv),(6,iv (i:Int)),(7,iv 0)] [] [] [Fa.ol y Q,Fa.zv mv 5 (cmL ml)] (fun kk ee LL ΦΦ=>∃ (n:Nat) (mv:S3) (ml:List Cmd),kk=5-n∧ee=[(3,S3.v y),(4,.bool true),(5,S3.v mv),(6,iv (i:Int)),(7,iv (n:Int))]∧LL=[]∧ΦΦ=[Fa.ol y Q,Fa.zv mv 5 (cmL ml)]∧n≤5∧(∀ k j:Nat,j<5→alk ((Bb.acts (L.take k)).log j) ml=true)) (5) ⟨0,mv,ml,rfl,rfl,rfl,rfl,by omega,hml⟩ (fun F=>⟨F.1,F.2.1,trivial⟩) ?_;rintro k _ _ _ ⟨n,mv,ml,rfl,rfl,rfl,rfl,hn,hml⟩ _ _ _ JN hJN;refine tR 6 [] fun σ8 _ _=>?_;refine tV 3 (pt b0 (off0+13*i)) (fun F C=>(Xf hy0 i (by omega) rfl)) ?_;refine tR 1 [] fun σ9 _ _=>?_;refine tF fun F _=>?_;refine tV 5 (S3.v o.ly) (fun F C=>(Db underlying30 rfl (WJ F.1 hy0 ho (j:=6) rfl))) ?_;refine tR 3 [] fun σ10 _ _=>?_;by_cases h2:n<5
  ·refine tI ((decide ((n:Int)<(o.ly.n:Int)))) true (decide_eq_true (by omega)) ?_;refine tR 7 [] fun σ11 _ _=>?_;refine tV 2 (pt b0 (off0+13*i)) (fun F C=>(Xf hy0 i (by omega) rfl)) ?_;refine tR 1 [] fun σ12 _ _=>?_;refine tF fun F _=>?_;refine tV 4 (S3.v o.ly) (fun F C=>(Db underlying30 rfl (WJ F.1 hy0 ho (j:=6) rfl))) ?_;refine tR 1 [] fun σ13 _ _=>?_;refine tV 6 (pt bl (fl+n)) (fun F C=>(eN al n (by omega))) ?_;refine tV 7 (S3.v (o.ys n)) (fun F C=>(Db underlying28 rfl (Zb (F.1.2 o hom).logs.rd al (by omega)))) ?_;refine tR 7 [] fun σ15 _ _=>?_;refine tF fun F _=>?_;have hlr:=F.1.2 o hom |>.log n (by omega);have hln2:=Yu hlr.rd;have hmn:=Yu F.2.1.rd;refine tC 2 (fun F C=>UW ((F.1.2 o hom).log n (by omega)).rd F.2.1.rd (by rw[hoM];have:=hle i (j:=n) (by omega);omega) (r:=true) (by rw[hoM];exact hml i n (by omega))) fun Nz=>?_;rintro _ _ ⟨rfl,b16⟩;refine⟨_,_,rfl,b16,id,?_⟩;refine tR 12 [] fun σ17 _ _=>?_;by_cases h3:mv.n<(o.ys n).n
   ·refine tI ((decide ((mv.n:Int)<((o.ys n).n:Int)))) true (decide_eq_true (by omega)) ?_;refine tR 7 [] fun σ18 _ _=>?_;refine tV 1 (iv ((n:Int)+1)) (fun F C=>(AV (x:=(.tmp 29)) (y:=(.const (iv 1))) (n:Int) 1 underlying3 (by omega))) ?_;refine tR 2 [] fun σ19 _ _=>?_;exact tB hJN (5-(n+1)) (by omega) [] ⟨n+1,o.ys n,o.M.log n,rfl,rfl,rfl,rfl,by omega,(fun k j hj=>by rw[hoM];exact hal hj (by omega))⟩ (fun F=>⟨F.1,(F.1.2 o hom).log n (by omega),trivial⟩)
   ·refine tI ((decide ((mv.n:Int)<((o.ys n).n:Int)))) false (decide_eq_false (by omega)) ?_;refine tR 4 [] fun σ20 _ _=>?_;refine tV 1 (iv ((n:Int)+1)) (fun F C=>(AV (x:=(.tmp 29)) (y:=(.const (iv 1))) (n:Int) 1 underlying3 (by omega))) ?_;refine tR 2 [] fun σ21 _ _=>?_;exact tB hJN (5-(n+1)) (by omega) [] ⟨n+1,mv,ml,rfl,rfl,rfl,rfl,by omega,hml⟩ (fun F=>⟨F.1,F.2.1,trivial⟩)
  ·refine tI ((decide ((n:Int)<(o.ly.n:Int)))) false (decide_eq_false (by omega)) ?_;refine tR 4 [] fun σ22 _ _=>?_;refine tV 1 (iv ((i:Int)+1)) (fun F C=>(AV (x:=(.tmp 19)) (y:=(.const (iv 1))) (i:Int) 1 underlying3 (by omega))) ?_;refine tR 2 [] fun σ23 _ _=>?_;exact tB hJ (L.length+1-(i+1)) (by omega) [] ⟨i+1,mv,ml,rfl,rfl,rfl,rfl,by omega,hml⟩ (fun F=>⟨F.1,F.2.1,trivial⟩)
 ·refine tI ((decide ((i:Int)<(y.n:Int)))) false (decide_eq_false (by omega)) ?_;obtain⟨o,ho,hoM⟩:=S8 hQ (i:=0) (by omega);refine tR 6 [] fun σ24 _ _=>?_;refine tV 3 (pt b0 (off0+13*0)) (fun F C=>(Xf hy0 0 (by omega) rfl)) ?_;refine tR 2 [] fun σ25 _ _=>?_;refine tV 6 (.bool true) (fun F C=>(Db underlying4 rfl (WJ F.1 hy0 ho (j:=1) (by show some (Value.bool (o.M.node 0).up)=_;rw[hoM];rfl)))) ?_;refine tR 3 [] fun σ26 _ _=>?_;exact tE (.bool true) fun _ B=>⟨rfl,B⟩
end
section
open Go.RowKit Go.ChangeShapes Go.WideShapes Go.ChangeAt
theorem NW{P:Program}{H:Type}{enc:TypeId × Value→H}{w:World}{base:Nat}{spare:Nat→Bool}{held:Bool}{t:TypeId}{f0 f1 f2 f3 f4:Field}{fuel:Nat}{cs:List Value}{x:DataW H × List MemPlace}(ht:P.underlying t=some (.struct #[f0,f1,f2,f3,f4]))(h:DataW.trod enc P w base spare held fuel t cs=some x) :
  ∃ y0 y1 y2 y3 y4 n,x=(.agg [y0.1,y1.1,y2.1,y3.1,y4.1],y0.2++(y1.2++(y2.2++(y3.2++y4.2))))∧cs.length=P.cellsOf t∧DataW.trod enc P w base spare held n f0.type ((cs.drop f0.offset).take (P.cellsOf f0.type))=some y0 ∧
   DataW.trod enc P w base spare held n f1.type ((cs.drop f1.offset).take (P.cellsOf f1.type))=some y1∧DataW.trod enc P w base spare held n f2.type ((cs.drop f2.offset).take (P.cellsOf f2.type))=some y2 ∧
   DataW.trod enc P w base spare held n f3.type ((cs.drop f3.offset).take (P.cellsOf f3.type))=some y3∧DataW.trod enc P w base spare held n f4.type ((cs.drop f4.offset).take (P.cellsOf f4.type))=some y4:=by
 obtain⟨xs,n,_,rfl,hl,hlen,hf⟩:=DataW.trod_struct ht h
 match xs,hlen with
 | [y0,y1,y2,y3,y4],_=>exact⟨y0,y1,y2,y3,y4,n,by simp,hl,by simpa using hf 0 f0 rfl,by simpa using hf 1 f1 rfl,by simpa using hf 2 f2 rfl,by simpa using hf 3 f3 rfl,by simpa using hf 4 f4 rfl⟩
theorem bM:prog.cellsOf 3=1:=by kernel_rfl
theorem K4{n:Int}(h:(Lit.int .i64 n).wf=true):I64 n:=by have:=bounds_i64 h;unfold I64;omega
instance:Inhabited Gr:=⟨⟨0,0,0,0,0⟩⟩
theorem cB{H:Type}{enc:TypeId × Value→H}{W:World}{base:Nat}{sp:Nat→Bool}{held:Bool}{fuel:Nat}{cs:List Value}{x:DataW H × List MemPlace}
  (h:DataW.trod enc prog W base sp held fuel 44 cs=some x):∃ g,cs=grV g∧GrOk g:=by
 obtain⟨y0,y1,y2,y3,y4,m,_,hl,h0,h1,h2,h3,h4⟩:=NW underlying44 h;rw[show prog.cellsOf 44=5 by kernel_rfl]at hl
 simp only[bM]at h0 h1 h2 h3 h4
 match cs,hl with
 | [c0,c1,c2,c3,c4],_ =>
  obtain⟨a0,e0,_,w0⟩:=DataW.trod_int underlying3 h0;obtain⟨a1,e1,_,w1⟩:=DataW.trod_int underlying3 h1;obtain⟨a2,e2,_,w2⟩:=DataW.trod_int underlying3 h2;obtain⟨a3,e3,_,w3⟩:=DataW.trod_int underlying3 h3;obtain⟨a4,e4,_,w4⟩:=DataW.trod_int underlying3 h4;simp at e0 e1 e2 e3 e4;subst e0 e1 e2 e3 e4;exact⟨⟨a0,a1,a2,a3,a4⟩,rfl,K4 w0,K4 w1,K4 w2,K4 w3,K4 w4⟩
theorem cA{n:Nat}{f:Nat→Gr}{i j:Nat}{u:Value}(h:(((List.range n).map f).flatMap grV)[j]?=some u)(hi:i=j/5):∃ q,j=5*i+q∧i<n∧(grV (f i))[q]?=some u:=by
 subst hi;have hlt:j<(((List.range n).map f).flatMap grV).length:=(List.getElem?_eq_some_iff.1 h).1;rw[Ey (f:=grV) (sz:=5) (fun _=>rfl),List.length_map,List.length_range]at hlt
 have hin:j/5<n:=by omega
 refine⟨j%5,by omega,hin,?_⟩;obtain⟨v,hv⟩:∃ v,(grV (f (j/5)))[j%5]?=some v:=⟨_,List.getElem?_eq_getElem (by show j%5<5;omega)⟩;have:=JI (f:=grV) (sz:=5) (fun _=>rfl) ((List.range n).map f) (i:=j/5) (j:=j%5) (a:=f (j/5)) (by simp[hin]) hv;rw[show 5*(j/5)+j%5=j by omega,h]at this
 rw[hv];exact this.symm
theorem VT{H:Type}{enc:TypeId × Value→H}{W:World}{fuel:Nat}{a:Option Addr}{n c:Nat}{d:DataW H}{p:List MemPlace}
  (hf:DataW.trod enc prog W 0 (fun _=>true) true fuel 22 [.slice a n c]=some (d,p)):∃ G,RdV W ⟨a,n,c⟩ 5 (grL G)∧∀ g∈G,GrOk g:=by
 rcases Deep.open_slice underlying22 hf with⟨h1,_⟩|⟨a',len,cap,m,k,D,Pl,h1,hb,hl,hm,hmm,hx,hel⟩
 ·simp at h1;obtain⟨rfl,rfl,rfl⟩:=h1;exact⟨[],⟨rfl,Nat.le_refl _,fun _=>rfl,.inl rfl⟩,fun g hg=>by cases hg⟩
 ·simp at h1;obtain⟨rfl,rfl,rfl⟩:=h1;simp only[if_true]at hmm;rw[show prog.cellsOf 44=5 by kernel_rfl]at hel
  have hin:∀ i,i<n→∃ g,(∀ j u,(grV g)[j]?=some u→W.cell? ((a'.add (i*5)).add j)=some u)∧GrOk g:=by
   intro i hi;obtain⟨cs',h1,h2⟩:=hel i (by omega);obtain⟨g,rfl,hg⟩:=cB h2;obtain⟨_,_,h3⟩:=World.cells?_some h1;refine⟨g,fun j u hj=>?_,hg⟩;have hj8:j<5:=(List.getElem?_eq_some_iff.1 hj).1;rw[h3 j hj8,hj]
  obtain⟨f,hff⟩:=Deep.choose_lt hin;refine⟨(List.range n).map f,⟨by rw[show(grL ((List.range n).map f)).length=_ from Ey (f:=grV) (sz:=5) (fun _=>rfl) _,List.length_map,List.length_range],hl,(fun h=>by cases h),?_⟩,fun g hg=>?_⟩
  ·by_cases h0:n=0
   ·exact .inl h0
   ·right;obtain⟨b,off,spot⟩:=a';have hc0:=(hff 0 (by omega)).1 0 _ rfl;have hspot:spot=none:=by simpa[Addr.add]using World.cell?_spot hc0
    subst hspot;have hadd:∀ o k,(⟨b,o,none⟩:Addr).add k=⟨b,o+k,none⟩:=fun o k=>by unfold Addr.add;split<;>simp_all
    refine⟨b,off,rfl,?_,fun j u hj=>?_⟩
    ·rw[hadd,hadd]at hc0
     exact World.block_lt_of_cell? W _ hc0
    ·obtain⟨q,hq,hi,hu⟩:=cA hj rfl;have:=(hff (j/5) hi).1 q u hu;rw[hadd,hadd]at this
     rw[show off+j=off+j/5*5+q by omega];exact this
  ·obtain⟨i,hi,rfl⟩:=List.mem_map.1 hg;exact(hff i (List.mem_range.1 hi)).2
end
section
open Go.ChangeShapes Go.WideShapes Go.ChangeAt Go.RowKit
theorem Ie(H:Type)(enc:TypeId × Value→H)(W:World)(base:Nat)(args:Array Value)(ds gs:List (DataW H))(before:List MemPlace)
  (hval:∀ (j:Nat) t v,f3.params[j]?=some t→args[j]?=some v→Value.okWide prog W .any base t v)
  (hW:DataW.Whole enc prog f3.params.toList Rows.topAgreeSpec.vars false W args.toList ds gs before)
  (hsz:(DataW.weightsEach prog (f3.params.toList++Rows.topAgreeSpec.plain.varTypes prog) (ds++gs)).all (·≤reachBytes)=true)(hL:laidMetH prog Rows.topAgreeRow.laid W) :
  Calls prog 3 args W fun e W'=>∃ v,e=.returned v∧Rows.topAgreeSpec.post enc prog f3 false true false false W args v W':=by
 have hW':=hW;obtain⟨p,q,hA0,hV,rfl,hfz,hnd⟩:=hW;have hA:DataW.TrodAll enc prog W 0 (fun _=>true) true f3.params.toList args.toList ds p:=hA0;rw[params3]at hA hval hsz
 obtain⟨v0,vs0,d0,ds0,p0,q0,hargs,rfl,rfl,h0,r0⟩:=trodAll_cons hA;obtain⟨rfl,rfl,rfl⟩:=trodAll_nil r0;obtain rfl:args=#[v0]:=by cases args;simp_all
 obtain⟨rfl,rfl⟩:=trodVars_none hV;obtain⟨a0,len0,cap0,rfl⟩:=okWide_slice underlying22 (hval 0 22 v0 rfl rfl);have k0:=h0;have lt0:∀ x∈p0,x.block<W.heap.size:=by obtain⟨m,hm⟩:=k0;exact DataW.trod_lt m _ _ _ hm
 obtain⟨l0,w0,i0⟩:∃ G,RdV W ⟨a0,len0,cap0⟩ 5 (grL G)∧∀ g∈G,GrOk g:=by obtain⟨fuel,hf⟩:=h0;exact VT hf
 clear hA0;refine(LY (l:=⟨a0,len0,cap0⟩) w0 i0 (gl hL)).mono fun e W' ⟨he,bel⟩=>?_;subst he;exact⟨_,rfl,_,_,_,[],_,[],hW',trodAll_mk1 (shut_bool underlying4 _),(trodAll_cons_mk (Below.trod YX (by kernel_rfl) (of_decide_eq_true (by kernel_rfl)) k0 bel lt0) trodAll_mk0),rfl,bel.frame _,fun h=>by cases h⟩
theorem NV{os:Os}{W:World}(h:Il os W):laidMet prog Rows.topAgreeRow.laid (W.forCall (fun _ _=>0) ⟨#[],#[.slice none 0 0],[]⟩).memory:=by
 unfold Il at h;subst h;exact laidMet_of_run' 8 (by kernel_rfl) (by kernel_rfl)
theorem Ll{os:Os}{W:World}(h:Il os W){H:Type}(enc:TypeId × Value→H):∃ places,DataW.whole enc prog (W.forCall (fun _ _=>0) ⟨#[],#[.slice none 0 0],[]⟩).memory f3.params.toList Rows.topAgreeSpec.vars false (#[.slice none 0 0]:Array Value).toList 8=some ([.nil],[],places):=by
 unfold Il at h;subst h;exact⟨[],by kernel_rfl⟩
theorem JD(os:Os)(started:os.Started)(H:Type)(enc:TypeId × Value→H)(F:Stop.Interp) :
  ReturnsInHanded {} Tryz.checked os 3 .any ((OpenSpec.ofChange Rows.topAgreeSpec).preRow enc prog f3 Rows.topAgreeRow.domain false Rows.topAgreeRow.laid) (((OpenSpec.ofChange Rows.topAgreeSpec).at F).post enc prog f3 false true false false):=by
 obtain⟨W0,hW0⟩:=Y9 os;obtain⟨places,hx⟩:=Ll hW0 enc;have hm:=NV hW0;refine returnsInHanded_of_row (C:=Tryz.checked) (s:=OpenSpec.ofChange Rows.topAgreeSpec) own started (by kernel_rfl) func3 ?_ ?_
 ·unfold Il at hW0;subst hW0;exact witness_row_at (enc:=enc) (C:=Tryz.checked) false _ #[.slice none 0 0] rfl (by kernel_rfl) (by kernel_rfl) (by kernel_rfl)
   (OpenSpec.preRow_of_cond 8 hx (by kernel_rfl) (fun k hk=>by cases hk) (by kernel_rfl) hm)
 ·intro W base args ds gs before hval hW _ _ hsz hL _ _;exact Ie H enc W base args ds gs before hval hW hsz hL
theorem LX:Rows.TopAgreeSaid :=
 OpenClaim.holds_of_cond 3 f3 rfl rfl rfl rfl rfl rfl rfl ⟨rfl,rfl,rfl,rfl,rfl⟩ rfl rfl rfl rfl rfl (by kernel_rfl) func3 (by kernel_rfl)
  (of_decide_eq_true (by kernel_rfl)) (by unfold Func.isWrapper;first|(rw[if_pos (by decide +kernel)];kernel_rfl)|(rw[if_neg (by decide +kernel)];exact⟨rfl,rfl⟩))
  (fun os started H enc _ F=>by rw[OpenClaim.pre_eq_preRow];exact JD os started H enc F)
theorem Lk (f : FuncId) (fn : Func) (hf : Tryz.pinned.checked.prog.funcNamed "conclave/conclavetop.TopAgree" = some f) (hfn : Tryz.pinned.checked.prog.funcs[f]? = some fn) :
  false=Tryz.pinned.checked.prog.looks []∧∀ (j:Nat) t,fn.params[j]?=some t→Tryz.pinned.checked.prog.wantsStandIn t=false:=by
 obtain rfl : f = 3 := Option.some.inj ((show prog.funcNamed "conclave/conclavetop.TopAgree" = some 3 by kernel_rfl).symm.trans hf) |>.symm
 obtain rfl:fn=f3:=(Option.some.inj (func3.symm.trans hfn)).symm;refine⟨by kernel_rfl,fun j t ht=>?_⟩;rw[params3]at ht
 obtain rfl:t=22:=by simpa using Array.mem_of_getElem? ht
 exact(show prog.wantsStandIn 22=false by kernel_rfl)
theorem topAgree_card:Rows.TopAgreeCardSaid :=
 Claim7.holds_tied_plain_at .later [] _ _ _ _ LX (fun _ h=>by cases h) (by kernel_rfl) (fun _ h=>by cases h) topAgree_row_tie rfl ⟨rfl,rfl⟩ (by kernel_rfl) rfl Lk (by kernel_rfl)
#print axioms topAgree_card
end
end Go.Proofs.YtfhbkoflaekhpaaGreatDoor
