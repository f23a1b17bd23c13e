/- Part 45 of the walk. -/
import Derived.Test.YtkchbdgikgbiaabGreatDoorZ43
set_option maxRecDepth 100000
set_option maxHeartbeats 4000000
open Go.Proofs.Tryz
set_option linter.unusedVariables false
namespace Go.Proofs.YtkchbdgikgbiaabGreatDoor
open Go.RowKit
theorem RM{g:Gh}{w:World}{ly tv:S3}{ys:Nat→S3}{M:Meet}(h:OutF g w ly tv ys M):OutW w M ly tv ys:=⟨h.logs.rd,fun j hj=>(h.log j hj).rd.rc,h.told.rd⟩
theorem cI{x:S3}{L:List Lac}{l:List (Lac × S3)}{w:World}(h:AcR w x L l)(ho:∀ a∈L,LacOk a)(hl:L.length≤100000)(hT:Sq w){M:Meet}(hM:Cx.acts L=M) :
  Calls prog 23 #[x.v] w fun e w'=>∃ (ly tv:S3) (ys:Nat→S3),e=.returned (.tuple #[.agg (Ik M ly tv),iv 0])∧OutW w' M ly tv ys∧OutN w.heap.size M ly tv ys∧Bw w w':=by
 subst hM;refine(YW (h.sk (by omega)) (fun i hi=>by rw[MC hi];exact ho _ (List.getElem_mem hi)) hl hT.1 hT.2.1 hT.2.2).mono ?_;rw[Un];rintro e w' ⟨hb,ly,tv,ys,h1,h2,h3⟩;exact⟨ly,tv,ys,h1,h2,h3,hb⟩
theorem cA{x:S3}{L:List Lac}{l:List (Lac × S3)}{w:World}(h:AcR w x L l)(ho:∀ a∈L,LacOk a)(hl:L.length≤100000)(hT:Sq w){M:Meet}(hM:Cx.acts L=M) :
  Calls prog 12 #[x.v] w fun e w'=>∃ (ly tv:S3) (ys:Nat→S3),e=.returned (.tuple #[.agg (Ik M ly tv),.bool true])∧OutW w' M ly tv ys∧OutN w.heap.size M ly tv ys∧Bw w w':=by
 refine tIn [] func12 trivial ?_;refine tR 8 [1,0] fun σ1 _ _=>?_;refine tF fun _ Cs=>?_;have hs2:=Cs.size;refine tC 1 (fun F C=>cI (h.below (CgQ.below C)) ho hl (tb5 hT C) hM) fun Nz=>?_;rintro _ _ ⟨ly,tv,ys,rfl,hW,hN,b3⟩;refine⟨_,Fa.ot ly tv ys M::_,rfl,b3,fun F=>⟨RK hW hN Nz,F⟩,?_⟩;refine tR 14 [0,0,1,0,9,0,1,2,4,6,8] fun σ4 _ _=>?_;refine TH 20 (fun ee LL ΦΦ=>∃ (_:Unit),ee=[(2,pt (σ1 0) 0),(3,.bool ((ly.n:Int)==5))]∧LL=[⟨(σ1 0),.cells (Ik M ly tv) 40,.l,false⟩,⟨(σ4 0),.cells (Ik M ly tv) 40,.z,false⟩]∧ΦΦ=[Fa.ot ly tv ys M]) (fun J hJ=>?_) ?_
 ·refine TJ 5 9 ?_ ?_
  ·refine tR 7 [1,12,14,16,19,0,0,20] fun σ5 _ _=>?_;exact tD hJ [true,true] ⟨(),rfl,rfl,rfl⟩ (fun F=>⟨F.1,trivial⟩)
  ·refine tR 7 [0,0,11,1,12,14,16,20] fun σ6 _ _=>?_;exact tD hJ [true,true] ⟨(),rfl,rfl,rfl⟩ (fun F=>⟨F.1,trivial⟩)
 rintro _ _ _ ⟨_,rfl,rfl,rfl⟩ _ _ _;have hn:(((ly.n:Nat):Int)==5)=true:=by rw[hW.n5];rfl
 exact tX fun F C=>qE2 2 3 40 0 (σ1 0) (Ik M ly tv) (.bool ((ly.n:Int)==5)) fun _=>⟨ly,tv,ys,by rw[hn],RM F.1,hN.mono hs2,CgQ.below C⟩
def lgN(M:Meet):Nat→Option Nat
 | 0=>none
 | n+1=>if(((lgN M n).map M.log).getD []).length<(M.log n).length then some n else lgN M n
def lgY(ys:Nat→S3)(o:Option Nat):S3:=(o.map ys).getD s30
theorem bC{M:Meet}{n j:Nat}(h:lgN M n=some j):j<n:=by
 induction n with
 | zero=>cases h
 | succ n ih =>
  rw[lgN]at h
  split at h
  ·cases h;omega
  ·have:=ih h;omega
theorem bD{g:Gh}{w:World}{ly tv:S3}{ys:Nat→S3}{M:Meet}(h:OutF g w ly tv ys M){n:Nat}(hn:n≤5):FzV g w (lgY ys (lgN M n)) 5 (cmL (((lgN M n).map M.log).getD [])):=by
 cases hh:lgN M n with
 | none=>exact⟨⟨rfl,Nat.le_refl _,fun _=>rfl,.inl rfl⟩,fun e=>absurd rfl e⟩
 | some j=>exact h.log j (Nat.lt_of_lt_of_le (bC hh) hn)
theorem ZT{W:World}{x:S3}{b off:Nat}(ha:x.a=some ⟨b,off,none⟩)(j:Nat)(hj:j<x.n):(Instr.indexAt 36 x.v (iv (j:Int))).run prog W=.ok (pt b (off+j)) W:=by
 obtain⟨xa,xn,xc⟩:=x;simp only at ha hj;subst ha;exact OH (P:=prog) (e:=43) (z:=1) underlying36 (by kernel_rfl) (by kernel_rfl) hj _ (by rw[Nat.one_mul])
theorem RC{w:World}{ly:S3}{ys:Nat→S3}{b off j:Nat}(h:RdV w ly 1 [S3.v (ys 0),S3.v (ys 1),S3.v (ys 2),S3.v (ys 3),S3.v (ys 4)])(ha:ly.a=some ⟨b,off,none⟩)(hj:j<5):w.cell? ⟨b,off+j,none⟩=some (S3.v (ys j)):=by
 rcases h.ex with h1|⟨b',off',h1,h2,h3⟩
 ·have:=h.len;simp at this;omega
 ·rw[ha]at h1;cases h1
  refine h3 j _ ?_;rcases five hj with rfl|rfl|rfl|rfl|rfl<;>rfl
theorem Qn{ly tv:S3}{ys:Nat→S3}{M:Meet}{w:World}(h:OutW w M ly tv ys) :
  Calls prog 16 #[.agg (Ik M ly tv)] w fun e w'=>e=.returned (S3.v (lgY ys (lgN M 5)))∧Bw w w':=by
 have hn:=h.n5;refine tIn [Fa.ot ly tv ys M] func16 ⟨⟨h.logs.fz,fun j hj=>(h.log j hj).rv.fz,h.told.fz⟩,trivial⟩ ?_;refine tR 15 [0,0] fun σ1 _ _=>?_;refine Hk 27 [(1,pt (σ1 0) 0),(3,sn),(4,iv 0)] [true] [⟨(σ1 0),.cells #[iv (M.lets.length:Int),.bool (M.node 0).up,.bool (M.node 1).up,.bool (M.node 2).up,.bool (M.node 3).up,.bool (M.node 4).up,S3.v ly,iv ((M.node 0).bad:Int),iv ((M.node 1).bad:Int),iv ((M.node 2).bad:Int),iv ((M.node 3).bad:Int),iv ((M.node 4).bad:Int),S3.v tv] 40,.z,false⟩] [Fa.ot ly tv ys M] (fun kk ee LL ΦΦ=>∃ (i:Nat),kk=5-i∧ee=[(1,pt (σ1 0) 0),(3,S3.v (lgY ys (lgN M i))),(4,iv (i:Int))]∧LL=[⟨(σ1 0),.cells (Ik M ly tv) 40,.z,false⟩]∧ΦΦ=[Fa.ot ly tv ys M]∧i≤5) (5) ⟨0,rfl,rfl,rfl,rfl,by omega⟩ (fun F=>F) ?_;rintro k _ _ _ ⟨i,rfl,rfl,rfl,rfl,hi⟩ _ _ _ J hJ;refine tR 9 [0] fun σ2 _ _=>?_;by_cases h1:i<5
 ·refine tI ((decide ((i:Int)<(ly.n:Int)))) true (decide_eq_true (by omega)) ?_;refine tF fun F _=>?_;obtain⟨b,off,hla,_⟩:=F.1.logs.rd.spot (i:=i) (by omega);have h1n:=dG (F.1.log i (by omega)).rd;have h2n:=dG (bD F.1 (n:=i) (by omega)).rd;refine tR 8 [0] fun σ3 _ _=>?_;refine tV 3 (pt b (off+i)) (fun F C=>(ZT hla i (by omega))) ?_;refine tV 4 (S3.v (ys i)) (fun F C=>(CV underlying43 rfl (RC F.1.logs.rd hla (by omega)))) ?_;refine tR 5 [] fun σ5 _ _=>?_;by_cases h2:(((lgN M i).map M.log).getD []).length<(M.log i).length
  ·refine tI ((decide (((lgY ys (lgN M i)).n:Int)<((ys i).n:Int)))) true (decide_eq_true (by omega)) ?_;refine tR 4 [0] fun σ6 _ _=>?_;refine tV 3 (pt b (off+i)) (fun F C=>(ZT hla i (by omega))) ?_;refine tV 4 (S3.v (ys i)) (fun F C=>(CV underlying43 rfl (RC F.1.logs.rd hla (by omega)))) ?_;refine tR 5 [] fun σ8 _ _=>?_;refine tV 1 (iv ((i:Int)+1)) (fun F C=>(AM (x:=(.tmp 10)) (y:=(.const (iv 1))) (i:Int) 1 underlying3 (by omega))) ?_;refine tR 2 [] fun σ9 _ _=>?_;exact tB hJ (5-(i+1)) (by omega) [true] ⟨i+1,rfl,(by rw[show lgN M (i+1)=some i from if_pos (by omega)]),rfl,rfl,by omega⟩ (fun F=>F)
  ·refine tI ((decide (((lgY ys (lgN M i)).n:Int)<((ys i).n:Int)))) false (decide_eq_false (by omega)) ?_;refine tR 4 [] fun σ10 _ _=>?_;refine tV 1 (iv ((i:Int)+1)) (fun F C=>(AM (x:=(.tmp 10)) (y:=(.const (iv 1))) (i:Int) 1 underlying3 (by omega))) ?_;refine tR 2 [] fun σ11 _ _=>?_;exact tB hJ (5-(i+1)) (by omega) [true] ⟨i+1,rfl,(by rw[show lgN M (i+1)=lgN M i from if_neg (by omega)]),rfl,rfl,by omega⟩ (fun F=>F)
 ·refine tI ((decide ((i:Int)<(ly.n:Int)))) false (decide_eq_false (by omega)) ?_;refine tR 6 [] fun σ12 _ _=>?_;obtain rfl:i=5:=by omega
  exact tE (S3.v (lgY ys (lgN M 5))) fun _ B=>⟨rfl,B⟩
def rnP(l:List Lac):List (Lac × S3):=l.map fun a=>(a,s30)
theorem YR(l:List Lac):(rnP l).map (·.1)=l:=by simp[rnP,Function.comp_def]
theorem YQ(g:Gh)(w:World){l:List Lac}(h:∀ a∈l,a.d=[]):Dat g w (rnP l):=by
 intro p hp;obtain⟨a,ha,rfl⟩:=List.mem_map.1 hp;show FSl g w s30 a.d;rw[h a ha];exact Vj g w
theorem K9(l:List Lac)(a:Lac):rnP (l++[a])=rnP l++[(a,s30)]:=by simp[rnP]
theorem PS(m:Nat):(BV m).length=6*m:=by
 induction m with
 | zero=>rfl
 | succ m ih=>rw[BV,List.length_append,ih];show _+6=_;omega
def DS(k:Int)(j:Nat):List Lac:=(List.range j).map fun n:Nat=>acN k (n:Int)
theorem Ig(k:Int)(j:Nat):DS k (j+1)=DS k j++[acN k (j:Int)]:=by simp[DS,List.range_succ]
theorem V6(k:Int)(j:Nat):(DS k j).length=j:=by simp[DS]
theorem T5{x:S3}{l:List (Lac × S3)}{many:Nat}{w:World}(h:RdV w x 5 (acV l))(hd:∀ p∈l,Sl w p.2.v p.1.d)(hm:l.length+6*many≤1000000) :
  Calls prog 15 #[x.v,iv (many:Int)] w fun e w'=>∃ y:S3,e=.returned y.v∧OwN w.heap.size w' 34 5 y (acV (l++rnP (Gv many)))∧Bw w w':=by
 have hxn:x.n=l.length:=by have:=h.len;rw[Rm]at this;omega
 refine tIn [Fa.ac x l] func15 ⟨⟨h.fz,fun p hp=>⟨hd p hp,fun _ _ _=>rfl⟩⟩,trivial⟩ ?_;refine tR 7 [] fun σ1 _ _=>?_;refine eO 1 0 x (acV l) 24 24 34 5 56 zLa (fun F=>F.1.1.rd) [Fa.dt l] (fun F=>⟨F.1.2,trivial⟩) rfl (by simp[TQ]) (X1 l) (by rw[hxn];unfold maxLen;omega) (by omega) fun y0 _ _ n0=>?_;refine tR 8 [] fun σ3 _ _=>?_;refine Hk 39 [(1,iv (many:Int)),(5,S3.v y0),(6,iv 0)] [] [] [Fa.oa 0 y0 (l++rnP (DS 9 0))] (fun kk ee LL ΦΦ=>∃ (j:Nat) (y:S3),kk=5-j∧ee=[(1,iv (many:Int)),(5,S3.v y),(6,iv (j:Int))]∧LL=[]∧ΦΦ=[Fa.oa 0 y (l++rnP (DS 9 j))]∧j≤5∧y.n=l.length+j) (5) ⟨0,y0,rfl,rfl,rfl,rfl,by omega,by omega⟩ (fun F=>⟨by rw[show rnP (DS 9 0)=[]from rfl,List.append_nil];exact⟨F.1,F.2.1⟩,trivial⟩) ?_;rintro k _ _ _ ⟨j,y,rfl,rfl,rfl,rfl,hj,hyn⟩ _ _ _ J hJ;refine tR 6 [] fun σ4 _ _=>?_;by_cases h1:j<5
 ·refine tI ((decide ((j:Int)<5))) true (decide_eq_true (by omega)) ?_;refine tR 8 [0,0] fun σ5 _ _=>?_;refine Na 4 0 (x:=y) 24 24 34 5 56 zLa ⟨(σ5 0),0,none⟩ 1 1 [iv 9,iv (j:Int),iv 0,iv 0,sn] (fun F=>F.1.1) [Fa.dt ((l++rnP (DS 9 j))++[(acN 9 (j:Int),s30)])] (fun F=>⟨Dat.snoc F.1.2 (Vj _ _),trivial⟩) rfl (by simp[TQ]) rfl (by simp[Value.oneCell']) (fun F K=>BW K 0 (σ5 0) [iv 9,iv (j:Int),iv 0,iv 0,sn] 34 .z true (by kernel_rfl)) (by unfold maxLen;omega) (by omega) fun y6 _ _ n6=>?_;refine tR 5 [] fun σ7 _ _=>?_;refine tV 1 (iv ((j:Int)+1)) (fun F C=>(AM (x:=(.tmp 13)) (y:=(.const (iv 1))) (j:Int) 1 underlying3 (by omega))) ?_;refine tR 2 [] fun σ8 _ _=>?_;exact tB hJ (5-(j+1)) (by omega) [false] ⟨j+1,y6,rfl,rfl,rfl,rfl,by omega,by omega⟩ (fun F=>by rw[Ig,K9,← List.append_assoc];exact⟨⟨(by rw[Dn];exact F.1),F.2.1⟩,trivial⟩)
 ·refine tI ((decide ((j:Int)<5))) false (decide_eq_false (by omega)) ?_;obtain rfl:j=5:=by omega
  refine tR 7 [] fun σ9 _ _=>?_;refine Hk 39 [(1,iv (many:Int)),(5,S3.v y),(7,iv 0)] [] [] [Fa.oa 0 y (l++rnP (DV++BV 0))] (fun kk ee LL ΦΦ=>∃ (i:Nat) (y:S3),kk=many-i∧ee=[(1,iv (many:Int)),(5,S3.v y),(7,iv (i:Int))]∧LL=[]∧ΦΦ=[Fa.oa 0 y (l++rnP (DV++BV i))]∧i≤many∧y.n=l.length+(5+6*i)) (many) ⟨0,y,rfl,rfl,rfl,rfl,by omega,by omega⟩ (fun F=>⟨F.1,trivial⟩) ?_;rintro k _ _ _ ⟨i,y,rfl,rfl,rfl,rfl,hi,hyn⟩ _ _ _ Jb hJb;refine tR 7 [] fun σ10 _ _=>?_;by_cases h2:i<many
  ·refine tI ((decide ((i:Int)<(many:Int)))) true (decide_eq_true (by omega)) ?_;refine tR 9 [] fun σ11 _ _=>?_;refine Hk 39 [(1,iv (many:Int)),(5,S3.v y),(7,iv (i:Int)),(8,iv 0)] [] [] [Fa.oa 0 y (l++rnP (DV++BV i++DS 3 0))] (fun kk ee LL ΦΦ=>∃ (j:Nat) (y:S3),kk=5-j∧ee=[(1,iv (many:Int)),(5,S3.v y),(7,iv (i:Int)),(8,iv (j:Int))]∧LL=[]∧ΦΦ=[Fa.oa 0 y (l++rnP (DV++BV i++DS 3 j))]∧j≤5∧y.n=l.length+(5+6*i+j)) (5) ⟨0,y,rfl,rfl,rfl,rfl,by omega,by omega⟩ (fun F=>⟨by rw[show DS 3 0=[]from rfl,List.append_nil];exact F.1,trivial⟩) ?_;rintro k _ _ _ ⟨j,y,rfl,rfl,rfl,rfl,hj,hyn⟩ _ _ _ Jc hJc;refine tR 6 [] fun σ12 _ _=>?_;by_cases h3:j<5
   ·refine tI ((decide ((j:Int)<5))) true (decide_eq_true (by omega)) ?_;refine tR 8 [0,0] fun σ13 _ _=>?_;refine Na 4 0 (x:=y) 24 24 34 5 56 zLa ⟨(σ13 0),0,none⟩ 1 1 [iv 3,iv (j:Int),iv 0,iv 0,sn] (fun F=>F.1.1) [Fa.dt ((l++rnP (DV++BV i++DS 3 j))++[(acN 3 (j:Int),s30)])] (fun F=>⟨Dat.snoc F.1.2 (Vj _ _),trivial⟩) rfl (by simp[TQ]) rfl (by simp[Value.oneCell']) (fun F K=>BW K 0 (σ13 0) [iv 3,iv (j:Int),iv 0,iv 0,sn] 34 .z true (by kernel_rfl)) (by unfold maxLen;omega) (by omega) fun y14 _ _ n14=>?_;refine tR 5 [] fun σ15 _ _=>?_;refine tV 1 (iv ((j:Int)+1)) (fun F C=>(AM (x:=(.tmp 27)) (y:=(.const (iv 1))) (j:Int) 1 underlying3 (by omega))) ?_;refine tR 2 [] fun σ16 _ _=>?_;exact tB hJc (5-(j+1)) (by omega) [false] ⟨j+1,y14,rfl,rfl,rfl,rfl,by omega,by omega⟩ (fun F=>by rw[Ig,← List.append_assoc (DV++BV i),K9,← List.append_assoc l];exact⟨⟨(by rw[Dn];exact F.1),F.2.1⟩,trivial⟩)
   ·refine tI ((decide ((j:Int)<5))) false (decide_eq_false (by omega)) ?_;obtain rfl:j=5:=by omega
    refine tR 5 [0,0] fun σ17 _ _=>?_;refine Na 3 0 (x:=y) 24 24 34 5 56 zLa ⟨(σ17 0),0,none⟩ 1 1 [iv 7,iv 0,iv 0,iv 0,sn] (fun F=>F.1.1) [Fa.dt ((l++rnP (DV++BV i++DS 3 5))++[(acN 7 0,s30)])] (fun F=>⟨Dat.snoc F.1.2 (Vj _ _),trivial⟩) rfl (by simp[TQ]) rfl (by simp[Value.oneCell']) (fun F K=>BW K 0 (σ17 0) [iv 7,iv 0,iv 0,iv 0,sn] 34 .z true (by kernel_rfl)) (by unfold maxLen;omega) (by omega) fun y18 _ _ n18=>?_;refine tR 5 [] fun σ19 _ _=>?_;refine tV 1 (iv ((i:Int)+1)) (fun F C=>(AM (x:=(.tmp 23)) (y:=(.const (iv 1))) (i:Int) 1 underlying3 (by omega))) ?_;refine tR 2 [] fun σ20 _ _=>?_;exact tB hJb (many-(i+1)) (by omega) [false] ⟨i+1,y18,rfl,rfl,rfl,rfl,by omega,by omega⟩ (fun F=>by rw[show DV++BV (i+1)=DV++BV i++DS 3 5++[acN 7 0]by rw[BV,← List.append_assoc,List.append_assoc _ (DS 3 5)];rfl,K9,← List.append_assoc l];exact⟨⟨(by rw[Dn];exact F.1),F.2.1⟩,trivial⟩)
  ·refine tI ((decide ((i:Int)<(many:Int)))) false (decide_eq_false (by omega)) ?_;obtain rfl:i=many:=by omega
   refine tR 6 [] fun σ21 _ _=>?_;exact tX fun F C=>qE (S3.v y) fun _=>⟨y,rfl,F.1.1.own C,CgQ.below C⟩
theorem V5(k:Int)(j:Nat):∀ a∈DS k j,a.d=[]:=by
 intro a ha;obtain⟨n,_,rfl⟩:=List.mem_map.1 ha;rfl
theorem Vg(m:Nat):∀ a∈BV m,a.d=[]:=by
 induction m with
 | zero=>intro a ha;cases ha
 | succ m ih =>
  intro a ha;rcases List.mem_append.1 ha with h|h
  ·exact ih a h
  ·rcases List.mem_append.1 h with h|h
   ·exact V5 3 5 a h
   ·rw[List.mem_singleton.1 h];rfl
theorem cD(m:Nat):∀ a∈Gv m,a.d=[]:=by
 intro a ha;rcases List.mem_append.1 ha with h|h
 ·exact V5 9 5 a h
 ·exact Vg m a h
theorem Wx(m:Nat):(Gv m).length=5+6*m:=by unfold Gv;rw[List.length_append,PS];rfl
def YB(M:Meet)(ly tv:S3):Array Value:=#[iv (M.lets.length:Int),.bool true,.bool (M.node 1).up,.bool (M.node 2).up,.bool (M.node 3).up,.bool (M.node 4).up,S3.v ly,iv ((M.node 0).bad:Int),iv ((M.node 1).bad:Int),iv ((M.node 2).bad:Int),iv ((M.node 3).bad:Int),iv ((M.node 4).bad:Int),S3.v tv]
theorem RL{M:Meet}(hu:(M.node 0).up=true)(ly tv:S3):Ik M ly tv=YB M ly tv:=by unfold Ik YB;rw[hu]
theorem cB{x:S3}{L:List Lac}{l:List (Lac × S3)}{w:World}(h:AcR w x L l)(ho:∀ a∈L,LacOk a)(hl:L.length≤100000)(hT:Sq w){M:Meet}(hM:Cx.acts L=M)(hu:(M.node 0).up=true) :
  Calls prog 12 #[x.v] w fun e w'=>∃ (ly tv:S3) (ys:Nat→S3),e=.returned (.tuple #[.agg (YB M ly tv),.bool true])∧OutW w' M ly tv ys∧OutN w.heap.size M ly tv ys∧Bw w w' :=
 (cA h ho hl hT hM).mono fun e w' ⟨ly,tv,ys,h1,h2⟩=>⟨ly,tv,ys,by rw[← RL hu];exact h1,h2⟩
theorem Qo{ly tv:S3}{ys:Nat→S3}{M:Meet}{w:World}(h:OutW w M ly tv ys)(hu:(M.node 0).up=true) :
  Calls prog 16 #[.agg (YB M ly tv)] w fun e w'=>e=.returned (S3.v (lgY ys (lgN M 5)))∧Bw w w':=by
 rw[← RL hu];exact Qn h
theorem Yu{M:Meet}(h:∀ j,j<5→M.log j=[]){n:Nat}(hn:n≤5):lgN M n=none:=by
 induction n with
 | zero=>rfl
 | succ n ih=>rw[lgN,ih (by omega),h n (by omega),if_neg (by simp)]
theorem ZH{g:Gh}{w:World}{x:S3}{l:List (Lac × S3)}(h:(Fa.ac x l).p g w){i:Nat}{p:Lac × S3}(hp:l[i]?=some p):∃ b off,x.a=some ⟨b,off,none⟩∧w.rangeAt b (off+5*i) (laV p.1 p.2.v)∧i<x.n:=by
 have hn:=(AcR.of h rfl).n;rw[List.length_map]at hn
 have hi:=(List.getElem?_eq_some_iff.1 hp).1;obtain⟨b,off,h1,_,h2⟩:=h.1.rd.spot (i:=i) (by omega);exact⟨b,off,h1,fun j u hj=>h2 j u (Jv (f:=fun p:Lac × S3=>laV p.1 p.2.v) (fun _=>rfl) l hp hj),by omega⟩
theorem acS{g:Gh}{w:World}{x:S3}{l:List (Lac × S3)}(h:(Fa.ac x l).p g w){i b off:Nat}(hx:x.a=some ⟨b,off,none⟩){a:Lac}{y:S3}(hp:l[i]?=some (a,y)):w.rangeAt b (off+5*i) (laV a y.v):=by
 obtain⟨b',off',h1,h2,_⟩:=ZH h hp;rw[hx]at h1;cases h1;exact h2
theorem acK{g:Gh}{w:World}{x:S3}{l:List (Lac × S3)}(h:(Fa.ac x l).p g w){i b off:Nat}(hx:x.a=some ⟨b,off,none⟩){a:Lac}{y:S3}(hp:l[i]?=some (a,y)):w.cell? ⟨b,off+5*i,none⟩=some (iv a.k):=acS h hx hp 0 _ rfl
theorem eT{w:World}{x:S3}{l:List Tol}(h:RdV w x 5 (l.flatMap EG)):x.n=l.length:=by
 have:=h.len;rw[Ee (f:=EG) (sz:=5) (fun _=>rfl)]at this
 omega
end Go.Proofs.YtkchbdgikgbiaabGreatDoor
