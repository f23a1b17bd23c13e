/- Part 45 of the walk. -/
import Derived.Test.YtaeckakjdagddadGreatDoorZ43
set_option maxRecDepth 100000
set_option maxHeartbeats 4000000
open Go.Proofs.Tryz
set_option linter.unusedVariables false
namespace Go.Proofs.YtaeckakjdagddadGreatDoor
open Go.RowKit
def rnP(l:List Lac):List (Lac × S3):=l.map fun a=>(a,s30)
theorem ZB(l:List Lac):(rnP l).map (·.1)=l:=by simp[rnP,Function.comp_def]
theorem Nt(g:Gh)(w:World){l:List Lac}(h:∀ a∈l,a.d=[]):Dat g w (rnP l):=by
 intro p hp;obtain⟨a,ha,rfl⟩:=List.mem_map.1 hp;show FSl g w s30 a.d;rw[h a ha];exact Ty g w
theorem Hl(l:List Lac)(a:Lac):rnP (l++[a])=rnP l++[(a,s30)]:=by simp[rnP]
theorem S4(l m:List Lac):rnP (l++m)=rnP l++rnP m:=by simp[rnP]
theorem JA(l:List Lac):(rnP l).length=l.length:=by simp[rnP]
theorem Gp(m:Nat):(BX m).length=6*m:=by
 induction m with
 | zero=>rfl
 | succ m ih=>rw[BX,List.length_append,ih];show _+6=_;omega
def DX(k:Int)(j:Nat):List Lac:=(List.range j).map fun n:Nat=>acN k (n:Int)
theorem Io(k:Int)(j:Nat):DX k (j+1)=DX k j++[acN k (j:Int)]:=by simp[DX,List.range_succ]
theorem Wg(k:Int)(j:Nat):(DX k j).length=j:=by simp[DX]
theorem Mz{x:S3}{l:List (Lac × S3)}{many:Nat}{w:World}(h:RdV w x 5 (acV l))(hd:∀ p∈l,Sl w p.2.v p.1.d)(hm:l.length+6*many≤1000000) :
  Calls prog 11 #[x.v,iv (many:Int)] w fun e w'=>∃ y:S3,e=.returned y.v∧OwN w.heap.size w' 42 5 y (acV (l++rnP (CG many)))∧Bw w w':=by
 have hxn:x.n=l.length:=by have:=h.len;rw[J3]at this;omega
 refine tIn [Fa.ac x l] func11 ⟨⟨h.fz,fun p hp=>⟨hd p hp,fun _ _ _=>rfl⟩⟩,trivial⟩ ?_;refine tR 7 [] fun σ1 _ _=>?_;refine aY 1 0 x (acV l) 23 23 42 5 56 zLa (fun F=>F.1.1.rd) [Fa.dt l] (fun F=>⟨F.1.2,trivial⟩) rfl (by simp[TQ]) (RJ l) (by rw[hxn];unfold maxLen;omega) (by omega) fun y0 _ _ n0=>?_;refine tR 8 [] fun σ3 _ _=>?_;refine ES 39 [(1,iv (many:Int)),(5,S3.v y0),(6,iv 0)] [] [] [Fa.oa 0 y0 (l++rnP (DX 9 0))] (fun kk ee LL ΦΦ=>∃ (j:Nat) (y:S3),kk=5-j∧ee=[(1,iv (many:Int)),(5,S3.v y),(6,iv (j:Int))]∧LL=[]∧ΦΦ=[Fa.oa 0 y (l++rnP (DX 9 j))]∧j≤5∧y.n=l.length+j) (5) ⟨0,y0,rfl,rfl,rfl,rfl,by omega,by omega⟩ (fun F=>⟨by rw[show rnP (DX 9 0)=[]from rfl,List.append_nil];exact⟨F.1,F.2.1⟩,trivial⟩) ?_;rintro k _ _ _ ⟨j,y,rfl,rfl,rfl,rfl,hj,hyn⟩ _ _ _ J hJ;refine tR 6 [] fun σ4 _ _=>?_;by_cases h1:j<5
 ·refine tI ((decide ((j:Int)<5))) true (decide_eq_true (by omega)) ?_;refine tR 8 [0,0] fun σ5 _ _=>?_;refine NC 4 0 (x:=y) 23 23 42 5 56 zLa ⟨(σ5 0),0,none⟩ 1 1 [iv 9,iv (j:Int),iv 0,iv 0,sn] (fun F=>F.1.1) [Fa.dt ((l++rnP (DX 9 j))++[(acN 9 (j:Int),s30)])] (fun F=>⟨Dat.snoc F.1.2 (Ty _ _),trivial⟩) rfl (by simp[TQ]) rfl (by simp[Value.oneCell']) (fun F K=>BY K 0 (σ5 0) [iv 9,iv (j:Int),iv 0,iv 0,sn] 42 .z true (by kernel_rfl)) (by unfold maxLen;omega) (by omega) fun y6 _ _ n6=>?_;refine tR 5 [] fun σ7 _ _=>?_;refine tV 1 (iv ((j:Int)+1)) (fun F C=>(AB (x:=(.tmp 13)) (y:=(.const (iv 1))) (j:Int) 1 underlying3 (by omega))) ?_;refine tR 2 [] fun σ8 _ _=>?_;exact tB hJ (5-(j+1)) (by omega) [false] ⟨j+1,y6,rfl,rfl,rfl,rfl,by omega,by omega⟩ (fun F=>by rw[Io,Hl,← List.append_assoc];exact⟨⟨(by rw[Ds];exact F.1),F.2.1⟩,trivial⟩)
 ·refine tI ((decide ((j:Int)<5))) false (decide_eq_false (by omega)) ?_;obtain rfl:j=5:=by omega
  refine tR 7 [] fun σ9 _ _=>?_;refine ES 39 [(1,iv (many:Int)),(5,S3.v y),(7,iv 0)] [] [] [Fa.oa 0 y (l++rnP (Ec++BX 0))] (fun kk ee LL ΦΦ=>∃ (i:Nat) (y:S3),kk=many-i∧ee=[(1,iv (many:Int)),(5,S3.v y),(7,iv (i:Int))]∧LL=[]∧ΦΦ=[Fa.oa 0 y (l++rnP (Ec++BX i))]∧i≤many∧y.n=l.length+(5+6*i)) (many) ⟨0,y,rfl,rfl,rfl,rfl,by omega,by omega⟩ (fun F=>⟨F.1,trivial⟩) ?_;rintro k _ _ _ ⟨i,y,rfl,rfl,rfl,rfl,hi,hyn⟩ _ _ _ Jb hJb;refine tR 7 [] fun σ10 _ _=>?_;by_cases h2:i<many
  ·refine tI ((decide ((i:Int)<(many:Int)))) true (decide_eq_true (by omega)) ?_;refine tR 9 [] fun σ11 _ _=>?_;refine ES 39 [(1,iv (many:Int)),(5,S3.v y),(7,iv (i:Int)),(8,iv 0)] [] [] [Fa.oa 0 y (l++rnP (Ec++BX i++DX 3 0))] (fun kk ee LL ΦΦ=>∃ (j:Nat) (y:S3),kk=5-j∧ee=[(1,iv (many:Int)),(5,S3.v y),(7,iv (i:Int)),(8,iv (j:Int))]∧LL=[]∧ΦΦ=[Fa.oa 0 y (l++rnP (Ec++BX i++DX 3 j))]∧j≤5∧y.n=l.length+(5+6*i+j)) (5) ⟨0,y,rfl,rfl,rfl,rfl,by omega,by omega⟩ (fun F=>⟨by rw[show DX 3 0=[]from rfl,List.append_nil];exact F.1,trivial⟩) ?_;rintro k _ _ _ ⟨j,y,rfl,rfl,rfl,rfl,hj,hyn⟩ _ _ _ Jc hJc;refine tR 6 [] fun σ12 _ _=>?_;by_cases h3:j<5
   ·refine tI ((decide ((j:Int)<5))) true (decide_eq_true (by omega)) ?_;refine tR 8 [0,0] fun σ13 _ _=>?_;refine NC 4 0 (x:=y) 23 23 42 5 56 zLa ⟨(σ13 0),0,none⟩ 1 1 [iv 3,iv (j:Int),iv 0,iv 0,sn] (fun F=>F.1.1) [Fa.dt ((l++rnP (Ec++BX i++DX 3 j))++[(acN 3 (j:Int),s30)])] (fun F=>⟨Dat.snoc F.1.2 (Ty _ _),trivial⟩) rfl (by simp[TQ]) rfl (by simp[Value.oneCell']) (fun F K=>BY K 0 (σ13 0) [iv 3,iv (j:Int),iv 0,iv 0,sn] 42 .z true (by kernel_rfl)) (by unfold maxLen;omega) (by omega) fun y14 _ _ n14=>?_;refine tR 5 [] fun σ15 _ _=>?_;refine tV 1 (iv ((j:Int)+1)) (fun F C=>(AB (x:=(.tmp 27)) (y:=(.const (iv 1))) (j:Int) 1 underlying3 (by omega))) ?_;refine tR 2 [] fun σ16 _ _=>?_;exact tB hJc (5-(j+1)) (by omega) [false] ⟨j+1,y14,rfl,rfl,rfl,rfl,by omega,by omega⟩ (fun F=>by rw[Io,← List.append_assoc (Ec++BX i),Hl,← List.append_assoc l];exact⟨⟨(by rw[Ds];exact F.1),F.2.1⟩,trivial⟩)
   ·refine tI ((decide ((j:Int)<5))) false (decide_eq_false (by omega)) ?_;obtain rfl:j=5:=by omega
    refine tR 5 [0,0] fun σ17 _ _=>?_;refine NC 3 0 (x:=y) 23 23 42 5 56 zLa ⟨(σ17 0),0,none⟩ 1 1 [iv 7,iv 0,iv 0,iv 0,sn] (fun F=>F.1.1) [Fa.dt ((l++rnP (Ec++BX i++DX 3 5))++[(acN 7 0,s30)])] (fun F=>⟨Dat.snoc F.1.2 (Ty _ _),trivial⟩) rfl (by simp[TQ]) rfl (by simp[Value.oneCell']) (fun F K=>BY K 0 (σ17 0) [iv 7,iv 0,iv 0,iv 0,sn] 42 .z true (by kernel_rfl)) (by unfold maxLen;omega) (by omega) fun y18 _ _ n18=>?_;refine tR 5 [] fun σ19 _ _=>?_;refine tV 1 (iv ((i:Int)+1)) (fun F C=>(AB (x:=(.tmp 23)) (y:=(.const (iv 1))) (i:Int) 1 underlying3 (by omega))) ?_;refine tR 2 [] fun σ20 _ _=>?_;exact tB hJb (many-(i+1)) (by omega) [false] ⟨i+1,y18,rfl,rfl,rfl,rfl,by omega,by omega⟩ (fun F=>by rw[show Ec++BX (i+1)=Ec++BX i++DX 3 5++[acN 7 0]by rw[BX,← List.append_assoc,List.append_assoc _ (DX 3 5)];rfl,Hl,← List.append_assoc l];exact⟨⟨(by rw[Ds];exact F.1),F.2.1⟩,trivial⟩)
  ·refine tI ((decide ((i:Int)<(many:Int)))) false (decide_eq_false (by omega)) ?_;obtain rfl:i=many:=by omega
   refine tR 6 [] fun σ21 _ _=>?_;exact tX fun F C=>qE (S3.v y) fun _=>⟨y,rfl,F.1.1.own C,CgQ.below C⟩
theorem Wf(k:Int)(j:Nat):∀ a∈DX k j,a.d=[]:=by
 intro a ha;obtain⟨n,_,rfl⟩:=List.mem_map.1 ha;rfl
theorem VH(m:Nat):∀ a∈BX m,a.d=[]:=by
 induction m with
 | zero=>intro a ha;cases ha
 | succ m ih =>
  intro a ha;rcases List.mem_append.1 ha with h|h
  ·exact ih a h
  ·rcases List.mem_append.1 h with h|h
   ·exact Wf 3 5 a h
   ·rw[List.mem_singleton.1 h];rfl
theorem Xh(m:Nat):∀ a∈CG m,a.d=[]:=by
 intro a ha;rcases List.mem_append.1 ha with h|h
 ·exact Wf 9 5 a h
 ·exact VH m a h
theorem Fw(m:Nat):(CG m).length=5+6*m:=by unfold CG;rw[List.length_append,Gp];rfl
theorem fY{w:World}{x:S3}{L:List Lac}{l:List (Lac × S3)}{b off i:Nat}{a:Lac}(h:AcR w x L l)(hx:x.a=some ⟨b,off,none⟩)(ha:L[i]?=some a):w.cell? ⟨b,off+5*i,none⟩=some (iv a.k):=by
 obtain⟨b',off',y,h1,h2,_,_⟩:=h.spot ha;rw[hx]at h1
 cases h1;exact h2 0 _ rfl
theorem TI{L:List Lac}{i:Nat}{a:Lac}(h:L[i]?=some a):CA (L.take (i+1))=if hvy a then CA (L.take i)+20 else CA (L.take i):=by
 unfold CA;rw[List.take_add_one,h,List.filter_append];cases hh:hvy a<;>simp[hh];omega
theorem Sj(L:List Lac):CA L≤100+20*L.length:=by
 unfold CA;have:=List.length_filter_le hvy L;omega
theorem VT(m:Nat)(n:Int):(El m n).length=11+6*m:=by unfold El;rw[List.length_append,List.length_append,Fw,Fw,List.length_singleton];omega
theorem Ry{x:S3}{L:List Lac}{l:List (Lac × S3)}{n:Int}{w:World}(h:AcR w x L l)(hm:L.length≤2000) :
  Calls prog 6 #[x.v,iv n] w fun e w'=>∃ y:S3,e=.returned y.v∧OwN w.heap.size w' 42 5 y (acV (l++rnP (Ea L n)))∧Bw w w':=by
 have hxn:x.n=L.length:=h.n;have hll:l.length=L.length:=by rw[← h.e,List.length_map]
 refine tIn [Fa.ac x l] func6 ⟨⟨h.r.fz,fun p hp=>⟨h.d p hp,fun _ _ _=>rfl⟩⟩,trivial⟩ ?_;refine tR 14 [] fun σ1 _ _=>?_;refine ES 44 [(0,S3.v x),(1,iv n),(5,iv 100),(6,iv 0)] [] [] [Fa.ac x l] (fun kk ee LL ΦΦ=>∃ (i m:Nat),kk=L.length-i∧ee=[(0,S3.v x),(1,iv n),(5,iv (m:Int)),(6,iv (i:Int))]∧LL=[]∧ΦΦ=[Fa.ac x l]∧i≤L.length∧m=CA (L.take i)) (L.length) ⟨0,100,rfl,rfl,rfl,rfl,by omega,rfl⟩ (fun F=>⟨F.1,trivial⟩) ?_;rintro k _ _ _ ⟨i,m,rfl,rfl,rfl,rfl,hi,hmi⟩ _ _ _ J hJ;refine tR 8 [] fun σ2 _ _=>?_;by_cases h1:i<L.length
 ·refine tI ((decide ((i:Int)<(x.n:Int)))) true (decide_eq_true (by omega)) ?_;have hmb:=Sj (L.take i);rw[← hmi,List.length_take]at hmb
  obtain⟨a,ha⟩:∃ a,L[i]?=some a:=⟨_,List.getElem?_eq_getElem (by omega)⟩;refine tF fun F _=>?_;obtain⟨b,off,yd,hxa,_,_,hin⟩:=(AcR.of F.1 h.e).spot ha;refine tR 7 [] fun σ3 _ _=>?_;refine tV 2 (pt b (off+5*i)) (fun F C=>(Mu (c:=x.c) hxa i hin)) ?_;refine tR 1 [] fun σ4 _ _=>?_;refine tV 4 (iv a.k) (fun F C=>(Cx underlying3 rfl (fY (AcR.of F.1 h.e) hxa ha))) ?_;refine tR 1 [] fun σ5 _ _=>?_;refine LG 44 (fun ee LL ΦΦ=>∃ (m2:Nat),ee=[(0,S3.v x),(1,iv n),(5,iv (m2:Int)),(6,iv (i:Int))]∧LL=[]∧ΦΦ=[Fa.ac x l]∧m2=(if hvy a then m+20 else m)) (fun J hJ=>?_) ?_
  ·refine tR 7 [] fun σ6 _ _=>?_;by_cases h2:a.k=1
   ·refine tI ((a.k==1)) true (by simpa using h2) ?_;refine tR 1 [] fun σ7 _ _=>?_;refine tI ((a.k==1)) true (by simpa using h2) ?_;refine tR 2 [] fun σ8 _ _=>?_;refine tV 1 (iv ((m:Int)+20)) (fun F C=>(AB (x:=(.tmp 25)) (y:=(.const (iv 20))) (m:Int) 20 underlying3 (by omega))) ?_;refine tR 3 [] fun σ9 _ _=>?_;exact tD hJ [] ⟨m+20,rfl,rfl,rfl,(if_pos (by simp[hvy,h2])).symm⟩ (fun F=>⟨F.1,trivial⟩)
   ·refine tI ((a.k==1)) false (by simpa using h2) ?_;refine tR 5 [] fun σ10 _ _=>?_;by_cases h3:a.k=2
    ·refine tI ((a.k==2)) true (by simpa using h3) ?_;refine tR 1 [] fun σ11 _ _=>?_;refine tI ((a.k==2)) true (by simpa using h3) ?_;refine tR 2 [] fun σ12 _ _=>?_;refine tV 1 (iv ((m:Int)+20)) (fun F C=>(AB (x:=(.tmp 25)) (y:=(.const (iv 20))) (m:Int) 20 underlying3 (by omega))) ?_;refine tR 3 [] fun σ13 _ _=>?_;exact tD hJ [] ⟨m+20,rfl,rfl,rfl,(if_pos (by simp[hvy,h3])).symm⟩ (fun F=>⟨F.1,trivial⟩)
    ·refine tI ((a.k==2)) false (by simpa using h3) ?_;refine tR 5 [] fun σ14 _ _=>?_;by_cases h4:a.k=6
     ·refine tI ((a.k==6)) true (by simpa using h4) ?_;refine tR 1 [] fun σ15 _ _=>?_;refine tI ((a.k==6)) true (by simpa using h4) ?_;refine tR 2 [] fun σ16 _ _=>?_;refine tV 1 (iv ((m:Int)+20)) (fun F C=>(AB (x:=(.tmp 25)) (y:=(.const (iv 20))) (m:Int) 20 underlying3 (by omega))) ?_;refine tR 3 [] fun σ17 _ _=>?_;exact tD hJ [] ⟨m+20,rfl,rfl,rfl,(if_pos (by simp[hvy,h4])).symm⟩ (fun F=>⟨F.1,trivial⟩)
     ·refine tI ((a.k==6)) false (by simpa using h4) ?_;refine tR 4 [] fun σ18 _ _=>?_;by_cases h5:a.k=8
      ·refine tI ((a.k==8)) true (by simpa using h5) ?_;refine tR 2 [] fun σ19 _ _=>?_;refine tV 1 (iv ((m:Int)+20)) (fun F C=>(AB (x:=(.tmp 25)) (y:=(.const (iv 20))) (m:Int) 20 underlying3 (by omega))) ?_;refine tR 3 [] fun σ20 _ _=>?_;exact tD hJ [] ⟨m+20,rfl,rfl,rfl,(if_pos (by simp[hvy,h5])).symm⟩ (fun F=>⟨F.1,trivial⟩)
      ·refine tI ((a.k==8)) false (by simpa using h5) ?_;refine tR 2 [] fun σ21 _ _=>?_;exact tD hJ [] ⟨m,rfl,rfl,rfl,(if_neg (by simp[hvy,h2,h3,h4,h5])).symm⟩ (fun F=>⟨F.1,trivial⟩)
  rintro _ _ _ ⟨m2,rfl,rfl,rfl,hm2⟩ _ _ _;refine tR 3 [] fun σ22 _ _=>?_;refine tV 1 (iv ((i:Int)+1)) (fun F C=>(AB (x:=(.tmp 13)) (y:=(.const (iv 1))) (i:Int) 1 underlying3 (by omega))) ?_;refine tR 2 [] fun σ23 _ _=>?_;exact tB hJ (L.length-(i+1)) (by omega) [] ⟨i+1,m2,rfl,rfl,rfl,rfl,by omega,(by rw[hm2,TI ha,← hmi])⟩ (fun F=>⟨F.1,trivial⟩)
 ·refine tI ((decide ((i:Int)<(x.n:Int)))) false (decide_eq_false (by omega)) ?_;rw[show L.take i=L from List.take_of_length_le (by omega)]at hmi
  have hmb:=Sj L;rw[← hmi]at hmb
  refine tR 4 [] fun σ24 _ _=>?_;refine aY 1 0 x (acV l) 23 23 42 5 56 zLa (fun F=>F.1.1.rd) [Fa.dt l] (fun F=>⟨F.1.2,trivial⟩) rfl (by simp[TQ]) (RJ l) (by rw[hxn];unfold maxLen;omega) (by omega) fun y0 _ _ n0=>?_;refine tR 8 [] fun σ25 _ _=>?_;refine ES 44 [(1,iv n),(5,iv (m:Int)),(7,S3.v y0),(8,iv 0)] [] [] [Fa.oa 0 y0 (l++rnP [])] (fun kk ee LL ΦΦ=>∃ (j:Nat) (y:S3) (Q:List Lac),kk=2-j∧ee=[(1,iv n),(5,iv (m:Int)),(7,S3.v y),(8,iv (j:Int))]∧LL=[]∧ΦΦ=[Fa.oa 0 y (l++rnP Q)]∧j≤2∧Q.length≤j*300000∧Q=(List.replicate j (El m n)).flatten) (2) ⟨0,y0,[],rfl,rfl,rfl,rfl,by omega,by simp,by simp⟩ (fun F=>⟨by rw[show rnP []=[]from rfl,List.append_nil];exact⟨F.1,F.2.1⟩,trivial⟩) ?_;rintro k _ _ _ ⟨j,y,Q,rfl,rfl,rfl,rfl,hj,hQl,hQ⟩ _ _ _ J hJ;refine tR 6 [] fun σ26 _ _=>?_;by_cases h2:j<2
  ·refine tI ((decide ((j:Int)<2))) true (decide_eq_true (by omega)) ?_;refine tR 6 [] fun σ27 _ _=>?_;refine tG 1 [] 0 (fun F C=>Mz (many:=0) (AcR.oo F.1 rfl).r (AcR.oo F.1 rfl).d (by rw[List.length_append,JA];omega)) fun Nz=>?_;rintro _ _ ⟨q1,rfl,ho,b28⟩;have hqnq1:q1.n=((l++rnP Q)++rnP (CG 0)).length:=by have:=ho.len;rw[J3]at this;omega
   simp only[List.length_append,JA,Fw]at hqnq1;refine⟨_,[Fa.oa 0 q1 ((l++rnP Q)++rnP (CG 0))],_,_,_,_,rfl,b28,ho,fun _=>⟨fun F hO _=>⟨⟨hO,Dat.app F.1.2 (Nt _ _ (Xh _))⟩,trivial⟩,?_⟩⟩;refine tR 8 [0,0] fun σ29 _ _=>?_;refine NC 4 0 (x:=q1) 23 23 42 5 56 zLa ⟨(σ29 0),0,none⟩ 1 1 [iv 2,iv n,iv 0,iv 0,sn] (fun F=>F.1.1) [Fa.dt ((l++rnP Q++rnP (CG 0))++[(acN 2 n,s30)])] (fun F=>⟨Dat.snoc F.1.2 (Ty _ _),trivial⟩) rfl (by simp[TQ]) rfl (by simp[Value.oneCell']) (fun F K=>BY K 0 (σ29 0) [iv 2,iv n,iv 0,iv 0,sn] 42 .z true (by kernel_rfl)) (by unfold maxLen;omega) (by omega) fun y30 _ _ n30=>?_;refine tCv [Fa.oa 0 y30 (l++rnP (Q++CG 0++[acN 2 n]))] (fun F=>by rw[Hl,S4,← List.append_assoc l,← List.append_assoc l];exact⟨⟨(by rw[Ds];exact F.1),F.2.1⟩,trivial⟩) ?_;refine tR 5 [] fun σ31 _ _=>?_;refine tG 2 [false] 0 (fun F C=>Mz (many:=m) (AcR.oo F.1 rfl).r (AcR.oo F.1 rfl).d (by rw[List.length_append,JA,List.length_append,List.length_append,Fw,List.length_singleton];omega)) fun Nz=>?_;rintro _ _ ⟨q2,rfl,ho,b32⟩;have hqnq2:q2.n=((l++rnP (Q++CG 0++[acN 2 n]))++rnP (CG m)).length:=by have:=ho.len;rw[J3]at this;omega
   simp only[List.length_append,JA,Fw,List.length_singleton]at hqnq2;refine⟨_,[Fa.oa 0 q2 ((l++rnP (Q++CG 0++[acN 2 n]))++rnP (CG m))],_,_,_,_,rfl,b32,ho,fun _=>⟨fun F hO _=>⟨⟨hO,Dat.app F.1.2 (Nt _ _ (Xh _))⟩,trivial⟩,?_⟩⟩;refine tR 5 [] fun σ33 _ _=>?_;refine tV 1 (iv ((j:Int)+1)) (fun F C=>(AB (x:=(.tmp 31)) (y:=(.const (iv 1))) (j:Int) 1 underlying3 (by omega))) ?_;refine tR 2 [] fun σ34 _ _=>?_;exact tB hJ (2-(j+1)) (by omega) [] ⟨j+1,q2,Q++El m n,rfl,rfl,rfl,rfl,by omega,(by rw[List.length_append,VT];omega),(by rw[hQ];rcases(show j=0∨j=1 by omega)with rfl|rfl<;>simp)⟩ (fun F=>by rw[show Q++El m n=Q++CG 0++[acN 2 n]++CG m by simp[El,List.append_assoc],S4 _ (CG m),← List.append_assoc l];exact F)
  ·refine tI ((decide ((j:Int)<2))) false (decide_eq_false (by omega)) ?_;obtain rfl:j=2:=by omega
   refine tR 6 [] fun σ35 _ _=>?_;have hS:Q=Ea L n:=by rw[hQ,hmi];simp[Ea]
   rw[← hS];exact tX fun F C=>qE (S3.v y) fun _=>⟨y,rfl,F.1.1.own C,CgQ.below C⟩
end Go.Proofs.YtaeckakjdagddadGreatDoor
