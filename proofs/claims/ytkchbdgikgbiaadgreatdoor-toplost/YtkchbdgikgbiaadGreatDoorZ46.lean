/- Part 46 of the walk. -/
import Derived.Deep.Slices
import Derived.Test.YtkchbdgikgbiaadGreatDoorZ44
import Derived.Test.YtkchbdgikgbiaadGreatDoorZ45
set_option maxRecDepth 100000
set_option maxHeartbeats 4000000
open Go.Proofs.Tryz
set_option linter.unusedVariables false
namespace Go.Proofs.YtkchbdgikgbiaadGreatDoor
section
theorem Xl(g:Gr)(cr:Bool):LacOk (Ny g cr):=by
 have h1:=Ba g.a 5 (by omega);have h2:=Ba g.c 20 (by omega);have h3:=Ba g.c 90 (by omega);have hl:(pkB g).length≤63:=by
  have:(pkP g).length=63:=JY (V0 g);unfold pkB;split
  ·rw[List.length_take];omega
  ·omega
 rw[← Ri];unfold Ny acN
 repeat' split
 all_goals simp[ZG,FG,Hc,Hd];try omega
theorem VK{P:Lac→Prop}(h7:P (acN 7 0)){cr:Bool}(hg:∀ g,P (Ny g cr))(s:Nat)(l:List Gr):∀ x∈M0 cr s l,P x:=by
 induction l generalizing s with
 | nil=>intro x hx;cases hx
 | cons g l ih =>
  intro x hx;rcases List.mem_cons.1 hx with rfl|hx
  ·unfold VJ;split
   ·exact h7
   ·exact hg g
  ·exact ih _ x hx
theorem aE(l:List Gr)(m:Nat)(cr:Bool):∀ x∈scr l m cr,LacOk x:=VK (by rw[← Ri];decide) (fun g=>Xl g cr) _ _
theorem VL(cr:Bool)(s:Nat)(l:List Gr):(M0 cr s l).length=l.length:=by
 induction l generalizing s with
 | nil=>rfl
 | cons g l ih=>rw[M0,List.length_cons,ih,List.length_cons]
theorem Ye(l:List Gr)(m:Nat)(cr:Bool):(scr l m cr).length≤m:=by unfold scr;rw[VL,List.length_take];omega
def Iy(x:Lac):Bool:=x.k != 4&&(x.k != 6&&x.k != 7)
def Ct(p:Lac × S3):Bool:=Iy p.1
structure Aln(i:Nat)(p:Nod):Prop where
 ag:p.agreed=[]
 dn:p.done=0
 pr:∀ j,j≠i→p.rnd.pro j=false
 pe:∀ q∈p.pend,q=.start∨∃ b vs,q=.began b vs
theorem Aln.enough{i:Nat}{p:Nod}(h:Aln i p):p.rnd.enough=false:=by
 refine decide_eq_false ?_;unfold WU;by_cases h0:i=0
 ·rw[h.pr 1 (by omega),h.pr 2 (by omega),h.pr 3 (by omega),h.pr 4 (by omega)];cases p.rnd.pro 0<;>decide
 ·rw[h.pr 0 (by omega)];by_cases h1:i=1
  ·rw[h.pr 2 (by omega),h.pr 3 (by omega),h.pr 4 (by omega)];cases p.rnd.pro 1<;>decide
  ·rw[h.pr 1 (by omega)];by_cases h2:i=2
   ·rw[h.pr 3 (by omega),h.pr 4 (by omega)];cases p.rnd.pro 2<;>decide
   ·rw[h.pr 2 (by omega)];by_cases h3:i=3
    ·rw[h.pr 4 (by omega)];cases p.rnd.pro 3<;>decide
    ·rw[h.pr 3 (by omega)];cases p.rnd.pro 4<;>decide
theorem Mu(p:Nod)(b:Bal):(p.promise b).1.agreed=p.agreed∧(p.promise b).1.done=p.done∧(p.promise b).1.pend=p.pend∧(p.promise b).1.rnd=p.rnd:=by
 unfold Nod.promise;split
 ·exact⟨rfl,rfl,rfl,rfl⟩
 ·split
  ·exact⟨rfl,rfl,rfl,rfl⟩
  ·split<;>exact⟨rfl,rfl,rfl,rfl⟩
theorem WI(i:Nat):NInv ⟨false,true,true,true⟩ i (fun _=>True) (fun _=>True) (Aln i) where
 take:=fun e=>by cases e
 one:=fun p c h _ hc _=>by rw[h.ag]at hc;simp at hc
 ask:=fun p h _=>⟨by
  unfold Nod.askd;split
  ·exact⟨h.ag,h.dn,h.pr,h.pe⟩
  ·split
   ·unfold Nod.enqueue;split<;>exact⟨h.ag,h.dn,h.pr,h.pe⟩
   ·exact⟨h.ag,h.dn,h.pr,h.pe⟩,fun _ _=>trivial⟩
 prop:=fun p h _=>by unfold Nod.propose;rw[if_pos (.inr (.inl h.enough))];exact h
 syn:=fun p h _=>by
  unfold Nod.syn;split
  ·exact⟨h.ag,h.dn,h.pr,h.pe⟩
  ·exact h
 run:=fun p q l h _ he _=>by
  refine⟨?_,fun _ _=>trivial⟩;have hl:∀ q∈l,q=.start∨∃ b vs,q=.began b vs:=fun q hq=>h.pe q (by rw[he];exact List.mem_cons_of_mem _ hq);rcases h.pe q (by rw[he];exact List.mem_cons_self)with rfl|⟨b,vs,rfl⟩
  ·exact⟨h.ag,h.dn,h.pr,hl⟩
  ·unfold Nod.runP;simp only;split
   ·exact⟨h.ag,h.dn,h.pr,hl⟩
   ·refine⟨h.ag,h.dn,fun j hj=>?_,hl⟩;show upN p.rnd.pro i true j=false;unfold upN;rw[if_neg hj];exact h.pr j hj
 teach:=fun p h _ _=>⟨⟨h.ag,h.dn,h.pr,h.pe⟩,fun _ _=>trivial⟩
 lead:=fun _ p h _=>by
  unfold Nod.lead;simp only;split
  ·exact h
  ·have hk:=Mu p ⟨max p.rounds p.vo.p.r+1,(i:Int)⟩;refine⟨hk.1.trans h.ag,hk.2.1.trans h.dn,fun j hj=>rfl,fun q hq=>?_⟩;rcases List.mem_append.1 hq with hq|hq
   ·exact h.pe q (hk.2.2.1▸hq)
   ·exact .inr ⟨_,_,List.mem_singleton.1 hq⟩
 sub:=fun p d ts h _ _=>by
  unfold Nod.subm Nod.sub0;split
  ·exact h
  ·split
   ·exact⟨h.ag,h.dn,h.pr,h.pe⟩
   ·split
    ·exact h
    ·show Aln i (Nod.want _ _);unfold Nod.want;split
     ·exact h
     ·exact⟨h.ag,h.dn,h.pr,h.pe⟩
 crash:=fun _ p k h _ _=>by
  unfold Nod.crash;split
  ·exact h
  ·exact⟨rfl,rfl,fun _ _=>rfl,fun q hq=>by cases hq⟩
 start:=fun _ p h _=>by
  unfold Nod.start;split
  ·exact h
  ·split<;>exact⟨rfl,rfl,fun _ _=>rfl,fun q hq=>.inl (List.mem_singleton.1 hq)⟩
theorem TE(i:Nat):TInv i (fun _=>True) (Aln i) (fun ts=>ts=[]) where
 one:=fun p c ts h _ hc _ _ _=>by rw[h.ag]at hc;simp at hc
 sub:=fun p d ts h _ _ _ hm _=>by rw[h.ag]at hm;simp at hm
theorem dK(L:List Lac)(h:∀ x∈L,LacOk x∧Iy x=true)(hl:L.length≤100000):(∀ i,i<5→(CT.acts L).log i=[])∧(CT.acts L).told=[]:=by
 obtain⟨h1,h2,_⟩:=GInv.acts (D:=fun _ _=>True) (Q:=fun _=>True) (P:=Aln) (fun i _=>WI i) (fun i _=>TE i) L MOk.zero (by omega) ⟨fun _ _=>⟨rfl,rfl,fun _ _=>rfl,fun q hq=>by cases hq⟩,fun _ _=>trivial⟩ rfl fun x hx=>⟨(h x hx).1,⟨fun e=>by have:=(h x hx).2;unfold Iy at this;simp at this;omega,fun _=>rfl,fun _=>rfl,fun _=>rfl⟩,fun _=>trivial⟩;refine⟨fun i hi=>?_,h2⟩;unfold Meet.log;rw[(h1.node i hi).ag,List.take_nil]
end
section
open Go.RowKit
theorem MG{l:S3}{G:List Gr}{w:World}(h:RdV w l 5 (grL G))(hG:∀ g∈G,GrOk g)(hT:RI w) :
  Calls prog 5 #[l.v] w fun e w'=>e=.returned (.bool true)∧Bw w w':=by
 obtain⟨L,hL⟩:∃ L,scr G 80 true=L:=⟨_,rfl⟩;have hok:=aE G 80 true;have hln:=Ye G 80 true;rw[hL]at hok hln
 refine tIn [] func5 trivial ?_;refine tR 7 [] fun σ1 _ _=>?_;refine tC 1 (fun F C=>Td (most:=80) (cr:=true) (h.below (CgQ.below C)) hG (by decide) (tbA hT.1 C)) fun Nz=>?_;rintro _ _ ⟨s,P,rfl,hP,hN,b2⟩;refine⟨_,Fa.ac s P::_,rfl,b2,fun F=>⟨hN.ac Nz,F⟩,?_⟩;rw[hL]at hP
 have hPl:P.length=L.length:=by rw[← hP,List.length_map]
 refine tF fun F _=>?_;have hsn:=(AcR.of F.1 hP).n;refine tR 12 [] fun σ3 _ _=>?_;refine LI 82 [(3,S3.v s),(4,sn),(5,iv 0)] [] [] [Fa.ac s P,Fa.oa 0 s30 (([]:List (Lac × S3)).filter Ct)] (fun kk ee LL ΦΦ=>∃ (i:Nat) (y:S3),kk=P.length-i∧ee=[(3,S3.v s),(4,S3.v y),(5,iv (i:Int))]∧LL=[]∧ΦΦ=[Fa.ac s P,Fa.oa 0 y ((P.take i).filter Ct)]∧i≤P.length∧y.n=((P.take i).filter Ct).length) (P.length) ⟨0,s30,rfl,rfl,rfl,rfl,by omega,rfl⟩ (fun F=>⟨F.1,⟨OwnS.nil _ _ _ _ _ _,(fun p hp=>by cases hp)⟩,trivial⟩) ?_;rintro k _ _ _ ⟨i,y,rfl,rfl,rfl,rfl,hi,hyn⟩ _ _ _ J hJ;refine tR 8 [] fun σ4 _ _=>?_;by_cases h1:i<P.length
 ·refine tI ((decide ((i:Int)<(s.n:Int)))) true (decide_eq_true (by omega)) ?_;obtain⟨⟨a,yd⟩,ha⟩:∃ a,P[i]?=some a:=⟨_,List.getElem?_eq_getElem (by omega)⟩;refine tF fun F _=>?_;obtain⟨b,off,hxa,_,hin⟩:=YB F.1 ha;have htk:P.take (i+1)=P.take i++[(a,yd)]:=by rw[List.take_add_one,ha];rfl
  have hyl:=List.length_filter_le Ct (P.take i);rw[List.length_take]at hyl
  refine tR 7 [] fun σ5 _ _=>?_;refine tV 2 (pt b (off+5*i)) (fun F C=>(LA (c:=s.c) hxa i hin)) ?_;refine tR 1 [] fun σ6 _ _=>?_;refine tF fun F _=>?_;refine tV 4 (iv a.k) (fun F C=>(C1 underlying3 rfl (acK F.1 hxa ha))) ?_;by_cases h2:a.k≠4
  ·refine tV 5 (.bool true) (fun F C=>(DS (t:=3) (m:=a.k) (n:=4) (x:=(.tmp 22)) (y:=(.const (iv 4))) (by simpa using h2))) ?_;refine tR 3 [] fun σ8 _ _=>?_;refine tV 9 (pt b (off+5*i)) (fun F C=>(LA (c:=s.c) hxa i hin)) ?_;refine tR 1 [] fun σ9 _ _=>?_;refine tF fun F _=>?_;refine tV 11 (iv a.k) (fun F C=>(C1 underlying3 rfl (acK F.1 hxa ha))) ?_;by_cases h3:a.k≠6
   ·refine tV 12 (.bool true) (fun F C=>(DS (t:=3) (m:=a.k) (n:=6) (x:=(.tmp 29)) (y:=(.const (iv 6))) (by simpa using h3))) ?_;refine tR 4 [] fun σ11 _ _=>?_;refine tV 17 (pt b (off+5*i)) (fun F C=>(LA (c:=s.c) hxa i hin)) ?_;refine tR 1 [] fun σ12 _ _=>?_;refine tF fun F _=>?_;refine tV 19 (iv a.k) (fun F C=>(C1 underlying3 rfl (acK F.1 hxa ha))) ?_;by_cases h4:a.k≠7
    ·refine tV 20 (.bool true) (fun F C=>(DS (t:=3) (m:=a.k) (n:=7) (x:=(.tmp 37)) (y:=(.const (iv 7))) (by simpa using h4))) ?_;refine tR 7 [] fun σ14 _ _=>?_;refine tV 3 (pt b (off+5*i)) (fun F C=>(LA (c:=s.c) hxa i hin)) ?_;refine tF fun F _=>?_;refine tV 4 (.agg #[iv a.k,iv a.n,iv a.a,iv a.p,S3.v yd]) (fun F C=>(al (acS F.1 hxa ha))) ?_;refine tR 1 [0,0] fun σ16 _ _=>?_;refine Wf 6 0 (x:=y) 23 23 27 5 56 zLa ⟨(σ16 0),0,none⟩ 1 1 [iv a.k,iv a.n,iv a.a,iv a.p,S3.v yd] (fun F=>F.2.1.1) [Fa.ac s P,Fa.dt ((P.take i).filter Ct++[(a,yd)])] (fun F=>⟨F.1,Dat.snoc F.2.1.2 (F.1.2 _ (List.mem_of_getElem? ha)),trivial⟩) rfl (by simp[TQ]) rfl (by simp[Value.oneCell']) (fun F K=>CE K 0 (σ16 0) [iv a.k,iv a.n,iv a.a,iv a.p,S3.v yd] 27 .z true (by kernel_rfl)) (by unfold maxLen;omega) (by omega) fun y17 _ _ n17=>?_;refine tR 5 [] fun σ18 _ _=>?_;refine tV 1 (iv ((i:Int)+1)) (fun F C=>(AN (x:=(.tmp 16)) (y:=(.const (iv 1))) (i:Int) 1 underlying3 (by omega))) ?_;refine tR 2 [] fun σ19 _ _=>?_;have hfl:(P.take (i+1)).filter Ct=(P.take i).filter Ct++[(a,yd)]:=by rw[htk,List.filter_append];simp[Ct,Iy,h2,h3,h4]
     exact tB hJ (P.length-(i+1)) (by omega) [false] ⟨i+1,y17,rfl,rfl,rfl,rfl,by omega,(by rw[hfl,List.length_append,List.length_singleton];omega)⟩ (fun F=>by rw[hfl];exact⟨F.2.1,⟨(by rw[Gs];exact F.1),F.2.2.1⟩,trivial⟩)
    ·refine tV 20 (.bool false) (fun F C=>(DS (t:=3) (m:=a.k) (n:=7) (x:=(.tmp 37)) (y:=(.const (iv 7))) (by simpa using h4))) ?_;refine tR 7 [] fun σ20 _ _=>?_;refine tV 1 (iv ((i:Int)+1)) (fun F C=>(AN (x:=(.tmp 16)) (y:=(.const (iv 1))) (i:Int) 1 underlying3 (by omega))) ?_;refine tR 2 [] fun σ21 _ _=>?_;have hfl:(P.take (i+1)).filter Ct=(P.take i).filter Ct:=by rw[htk,List.filter_append];simp[Ct,Iy,show a.k=7 from by simpa using h4]
     exact tB hJ (P.length-(i+1)) (by omega) [] ⟨i+1,y,rfl,rfl,rfl,rfl,by omega,(by rw[hfl];exact hyn)⟩ (fun F=>by rw[hfl];exact⟨F.1,F.2.1,trivial⟩)
   ·refine tV 12 (.bool false) (fun F C=>(DS (t:=3) (m:=a.k) (n:=6) (x:=(.tmp 29)) (y:=(.const (iv 6))) (by simpa using h3))) ?_;refine tR 15 [] fun σ22 _ _=>?_;refine tV 1 (iv ((i:Int)+1)) (fun F C=>(AN (x:=(.tmp 16)) (y:=(.const (iv 1))) (i:Int) 1 underlying3 (by omega))) ?_;refine tR 2 [] fun σ23 _ _=>?_;have hfl:(P.take (i+1)).filter Ct=(P.take i).filter Ct:=by rw[htk,List.filter_append];simp[Ct,Iy,show a.k=6 from by simpa using h3]
    exact tB hJ (P.length-(i+1)) (by omega) [] ⟨i+1,y,rfl,rfl,rfl,rfl,by omega,(by rw[hfl];exact hyn)⟩ (fun F=>by rw[hfl];exact⟨F.1,F.2.1,trivial⟩)
  ·refine tV 5 (.bool false) (fun F C=>(DS (t:=3) (m:=a.k) (n:=4) (x:=(.tmp 22)) (y:=(.const (iv 4))) (by simpa using h2))) ?_;refine tR 22 [] fun σ24 _ _=>?_;refine tV 1 (iv ((i:Int)+1)) (fun F C=>(AN (x:=(.tmp 16)) (y:=(.const (iv 1))) (i:Int) 1 underlying3 (by omega))) ?_;refine tR 2 [] fun σ25 _ _=>?_;have hfl:(P.take (i+1)).filter Ct=(P.take i).filter Ct:=by rw[htk,List.filter_append];simp[Ct,Iy,show a.k=4 from by simpa using h2]
   exact tB hJ (P.length-(i+1)) (by omega) [] ⟨i+1,y,rfl,rfl,rfl,rfl,by omega,(by rw[hfl];exact hyn)⟩ (fun F=>by rw[hfl];exact⟨F.1,F.2.1,trivial⟩)
 ·refine tI ((decide ((i:Int)<(s.n:Int)))) false (decide_eq_false (by omega)) ?_;obtain rfl:i=P.length:=by omega
  rw[List.take_length]at hyn ⊢
  have hfl:=List.length_filter_le Ct P;obtain⟨Q,hQ⟩:∃ Q,(P.filter Ct).map (·.1)=Q:=⟨_,rfl⟩;have hQm:∀ x∈Q,LacOk x∧Iy x=true:=by
   intro x hx;rw[← hQ]at hx
   obtain⟨p,hp,rfl⟩:=List.mem_map.1 hx;obtain⟨hp1,hp2⟩:=List.mem_filter.1 hp;exact⟨hok _ (by rw[← hP];exact List.mem_map.2 ⟨p,hp1,rfl⟩),hp2⟩
  have hQl:Q.length≤80:=by rw[← hQ,List.length_map];omega
  obtain⟨M,hM⟩:∃ M,CT.acts Q=M:=⟨_,rfl⟩;have hno:=dK Q hQm (by omega);rw[hM]at hno
  refine tR 4 [] fun σ26 _ _=>?_;refine tC 1 (fun F C=>VA (AcR.oo F.2.1 hQ) (fun x hx=>(hQm x hx).1) (by omega) (tb5 hT C) hM) fun Nz=>?_;rintro _ _ ⟨ly,tv,ys,rfl,hW,hO,b27⟩;refine⟨_,Fa.ot ly tv ys M::_,rfl,b27,fun F=>⟨Ru hW hO Nz,F⟩,?_⟩;refine tF fun F _=>?_;have htn:=dk F.1.told.rd;rw[hno.2]at htn
  have hlg:=X6 hno.1 (Nat.le_refl 5);refine tR 9 [0,0,0,0] fun σ28 _ _=>?_;refine tC 0 (fun F C=>cX (tb5 hT C)) fun Nz=>?_;rintro _ _ ⟨lz,tz,zs,rfl,hW0,hO0,b29⟩;refine⟨_,_,rfl,b29,id,?_⟩;refine tR 25 [0,0,1,0,1,1,0] fun σ30 _ _=>?_;refine tC 16 (fun F C=>PQ (Rv F.1)) fun Nz=>?_;rintro _ _ ⟨rfl,b31⟩;refine⟨_,_,rfl,b31,id,?_⟩;refine tR 1 [] fun σ32 _ _=>?_;refine tV 18 (.bool true) (fun F C=>(Eh (t:=3) (m:=((lgY ys (lgN M 5)).n:Int)) (n:=0) (x:=(.tmp 73)) (y:=(.const (iv 0))) (by rw[hlg];rfl))) ?_;refine tR 5 [0] fun σ33 _ _=>?_;refine tV 24 (.bool true) (fun F C=>(Eh (t:=3) (m:=(tv.n:Int)) (n:=0) (x:=(.tmp 79)) (y:=(.const (iv 0))) (by rw[htn];rfl))) ?_;refine tR 3 [] fun σ34 _ _=>?_;exact tE (.bool true) fun _ B=>⟨rfl,B⟩
end
section
open Go.RowKit Go.ChangeShapes Go.WideShapes Go.ChangeAt
theorem MH{P:Program}{H:Type}{enc:TypeId × Value→H}{w:World}{base:Nat}{spare:Nat→Bool}{held:Bool}{t:TypeId}{f0 f1 f2 f3 f4:Field}{fuel:Nat}{cs:List Value}{x:DataW H × List MemPlace}(ht:P.underlying t=some (.struct #[f0,f1,f2,f3,f4]))(h:DataW.trod enc P w base spare held fuel t cs=some x) :
  ∃ y0 y1 y2 y3 y4 n,x=(.agg [y0.1,y1.1,y2.1,y3.1,y4.1],y0.2++(y1.2++(y2.2++(y3.2++y4.2))))∧cs.length=P.cellsOf t∧DataW.trod enc P w base spare held n f0.type ((cs.drop f0.offset).take (P.cellsOf f0.type))=some y0 ∧
   DataW.trod enc P w base spare held n f1.type ((cs.drop f1.offset).take (P.cellsOf f1.type))=some y1∧DataW.trod enc P w base spare held n f2.type ((cs.drop f2.offset).take (P.cellsOf f2.type))=some y2 ∧
   DataW.trod enc P w base spare held n f3.type ((cs.drop f3.offset).take (P.cellsOf f3.type))=some y3∧DataW.trod enc P w base spare held n f4.type ((cs.drop f4.offset).take (P.cellsOf f4.type))=some y4:=by
 obtain⟨xs,n,_,rfl,hl,hlen,hf⟩:=DataW.trod_struct ht h
 match xs,hlen with
 | [y0,y1,y2,y3,y4],_=>exact⟨y0,y1,y2,y3,y4,n,by simp,hl,by simpa using hf 0 f0 rfl,by simpa using hf 1 f1 rfl,by simpa using hf 2 f2 rfl,by simpa using hf 3 f3 rfl,by simpa using hf 4 f4 rfl⟩
theorem Zi:prog.cellsOf 3=1:=by kernel_rfl
theorem JH{n:Int}(h:(Lit.int .i64 n).wf=true):I64 n:=by have:=bounds_i64 h;unfold I64;omega
instance:Inhabited Gr:=⟨⟨0,0,0,0,0⟩⟩
theorem Zz{H:Type}{enc:TypeId × Value→H}{W:World}{base:Nat}{sp:Nat→Bool}{held:Bool}{fuel:Nat}{cs:List Value}{x:DataW H × List MemPlace}
  (h:DataW.trod enc prog W base sp held fuel 71 cs=some x):∃ g,cs=grV g∧GrOk g:=by
 obtain⟨y0,y1,y2,y3,y4,m,_,hl,h0,h1,h2,h3,h4⟩:=MH underlying71 h;rw[show prog.cellsOf 71=5 by kernel_rfl]at hl
 simp only[Zi]at h0 h1 h2 h3 h4
 match cs,hl with
 | [c0,c1,c2,c3,c4],_ =>
  obtain⟨a0,e0,_,w0⟩:=DataW.trod_int underlying3 h0;obtain⟨a1,e1,_,w1⟩:=DataW.trod_int underlying3 h1;obtain⟨a2,e2,_,w2⟩:=DataW.trod_int underlying3 h2;obtain⟨a3,e3,_,w3⟩:=DataW.trod_int underlying3 h3;obtain⟨a4,e4,_,w4⟩:=DataW.trod_int underlying3 h4;simp at e0 e1 e2 e3 e4;subst e0 e1 e2 e3 e4;exact⟨⟨a0,a1,a2,a3,a4⟩,rfl,JH w0,JH w1,JH w2,JH w3,JH w4⟩
theorem Zy{n:Nat}{f:Nat→Gr}{i j:Nat}{u:Value}(h:(((List.range n).map f).flatMap grV)[j]?=some u)(hi:i=j/5):∃ q,j=5*i+q∧i<n∧(grV (f i))[q]?=some u:=by
 subst hi;have hlt:j<(((List.range n).map f).flatMap grV).length:=(List.getElem?_eq_some_iff.1 h).1;rw[Ec (f:=grV) (sz:=5) (fun _=>rfl),List.length_map,List.length_range]at hlt
 have hin:j/5<n:=by omega
 refine⟨j%5,by omega,hin,?_⟩;obtain⟨v,hv⟩:∃ v,(grV (f (j/5)))[j%5]?=some v:=⟨_,List.getElem?_eq_getElem (by show j%5<5;omega)⟩;have:=Jf (f:=grV) (sz:=5) (fun _=>rfl) ((List.range n).map f) (i:=j/5) (j:=j%5) (a:=f (j/5)) (by simp[hin]) hv;rw[show 5*(j/5)+j%5=j by omega,h]at this
 rw[hv];exact this.symm
theorem UB{H:Type}{enc:TypeId × Value→H}{W:World}{fuel:Nat}{a:Option Addr}{n c:Nat}{d:DataW H}{p:List MemPlace}
  (hf:DataW.trod enc prog W 0 (fun _=>true) true fuel 22 [.slice a n c]=some (d,p)):∃ G,RdV W ⟨a,n,c⟩ 5 (grL G)∧∀ g∈G,GrOk g:=by
 rcases Deep.open_slice underlying22 hf with⟨h1,_⟩|⟨a',len,cap,m,k,D,Pl,h1,hb,hl,hm,hmm,hx,hel⟩
 ·simp at h1;obtain⟨rfl,rfl,rfl⟩:=h1;exact⟨[],⟨rfl,Nat.le_refl _,fun _=>rfl,.inl rfl⟩,fun g hg=>by cases hg⟩
 ·simp at h1;obtain⟨rfl,rfl,rfl⟩:=h1;simp only[if_true]at hmm;rw[show prog.cellsOf 71=5 by kernel_rfl]at hel
  have hin:∀ i,i<n→∃ g,(∀ j u,(grV g)[j]?=some u→W.cell? ((a'.add (i*5)).add j)=some u)∧GrOk g:=by
   intro i hi;obtain⟨cs',h1,h2⟩:=hel i (by omega);obtain⟨g,rfl,hg⟩:=Zz h2;obtain⟨_,_,h3⟩:=World.cells?_some h1;refine⟨g,fun j u hj=>?_,hg⟩;have hj8:j<5:=(List.getElem?_eq_some_iff.1 hj).1;rw[h3 j hj8,hj]
  obtain⟨f,hff⟩:=Deep.choose_lt hin;refine⟨(List.range n).map f,⟨by rw[show(grL ((List.range n).map f)).length=_ from Ec (f:=grV) (sz:=5) (fun _=>rfl) _,List.length_map,List.length_range],hl,(fun h=>by cases h),?_⟩,fun g hg=>?_⟩
  ·by_cases h0:n=0
   ·exact .inl h0
   ·right;obtain⟨b,off,spot⟩:=a';have hc0:=(hff 0 (by omega)).1 0 _ rfl;have hspot:spot=none:=by simpa[Addr.add]using World.cell?_spot hc0
    subst hspot;have hadd:∀ o k,(⟨b,o,none⟩:Addr).add k=⟨b,o+k,none⟩:=fun o k=>by unfold Addr.add;split<;>simp_all
    refine⟨b,off,rfl,?_,fun j u hj=>?_⟩
    ·rw[hadd,hadd]at hc0
     exact World.block_lt_of_cell? W _ hc0
    ·obtain⟨q,hq,hi,hu⟩:=Zy hj rfl;have:=(hff (j/5) hi).1 q u hu;rw[hadd,hadd]at this
     rw[show off+j=off+j/5*5+q by omega];exact this
  ·obtain⟨i,hi,rfl⟩:=List.mem_map.1 hg;exact(hff i (List.mem_range.1 hi)).2
end
section
open Go.ChangeShapes Go.WideShapes Go.ChangeAt Go.RowKit
theorem Ii(H:Type)(enc:TypeId × Value→H)(W:World)(base:Nat)(args:Array Value)(ds gs:List (DataW H))(before:List MemPlace)
  (hval:∀ (j:Nat) t v,f5.params[j]?=some t→args[j]?=some v→Value.okWide prog W .any base t v)
  (hW:DataW.Whole enc prog f5.params.toList Rows.topLostSpec.vars false W args.toList ds gs before)
  (hsz:(DataW.weightsEach prog (f5.params.toList++Rows.topLostSpec.plain.varTypes prog) (ds++gs)).all (·≤reachBytes)=true)(hL:laidMetH prog Rows.topLostRow.laid W) :
  Calls prog 5 args W fun e W'=>∃ v,e=.returned v∧Rows.topLostSpec.post enc prog f5 false true false false W args v W':=by
 have hW':=hW;obtain⟨p,q,hA0,hV,rfl,hfz,hnd⟩:=hW;have hA:DataW.TrodAll enc prog W 0 (fun _=>true) true f5.params.toList args.toList ds p:=hA0;rw[params5]at hA hval hsz
 obtain⟨v0,vs0,d0,ds0,p0,q0,hargs,rfl,rfl,h0,r0⟩:=trodAll_cons hA;obtain⟨rfl,rfl,rfl⟩:=trodAll_nil r0;obtain rfl:args=#[v0]:=by cases args;simp_all
 obtain⟨rfl,rfl⟩:=trodVars_none hV;obtain⟨a0,len0,cap0,rfl⟩:=okWide_slice underlying22 (hval 0 22 v0 rfl rfl);have k0:=h0;have lt0:∀ x∈p0,x.block<W.heap.size:=by obtain⟨m,hm⟩:=k0;exact DataW.trod_lt m _ _ _ hm
 obtain⟨l0,w0,i0⟩:∃ G,RdV W ⟨a0,len0,cap0⟩ 5 (grL G)∧∀ g∈G,GrOk g:=by obtain⟨fuel,hf⟩:=h0;exact UB hf
 clear hA0;refine(MG (l:=⟨a0,len0,cap0⟩) w0 i0 (eb hL)).mono fun e W' ⟨he,bel⟩=>?_;subst he;exact⟨_,rfl,_,_,_,[],_,[],hW',trodAll_mk1 (shut_bool underlying4 _),(trodAll_cons_mk (Below.trod X4 (by kernel_rfl) (of_decide_eq_true (by kernel_rfl)) k0 bel lt0) trodAll_mk0),rfl,bel.frame _,fun h=>by cases h⟩
theorem OO{os:Os}{W:World}(h:Hg os W):laidMet prog Rows.topLostRow.laid (W.forCall (fun _ _=>0) ⟨#[],#[.slice none 0 0],[]⟩).memory:=by
 unfold Hg at h;subst h;exact laidMet_of_run' 8 (by kernel_rfl) (by kernel_rfl)
theorem KX{os:Os}{W:World}(h:Hg os W){H:Type}(enc:TypeId × Value→H):∃ places,DataW.whole enc prog (W.forCall (fun _ _=>0) ⟨#[],#[.slice none 0 0],[]⟩).memory f5.params.toList Rows.topLostSpec.vars false (#[.slice none 0 0]:Array Value).toList 8=some ([.nil],[],places):=by
 unfold Hg at h;subst h;exact⟨[],by kernel_rfl⟩
theorem Ku(os:Os)(started:os.Started)(H:Type)(enc:TypeId × Value→H)(F:Stop.Interp) :
  ReturnsInHanded {} Tryz.checked os 5 .any ((OpenSpec.ofChange Rows.topLostSpec).preRow enc prog f5 Rows.topLostRow.domain false Rows.topLostRow.laid) (((OpenSpec.ofChange Rows.topLostSpec).at F).post enc prog f5 false true false false):=by
 obtain⟨W0,hW0⟩:=Xh os;obtain⟨places,hx⟩:=KX hW0 enc;have hm:=OO hW0;refine returnsInHanded_of_row (C:=Tryz.checked) (s:=OpenSpec.ofChange Rows.topLostSpec) own started (by kernel_rfl) func5 ?_ ?_
 ·unfold Hg at hW0;subst hW0;exact witness_row_at (enc:=enc) (C:=Tryz.checked) false _ #[.slice none 0 0] rfl (by kernel_rfl) (by kernel_rfl) (by kernel_rfl)
   (OpenSpec.preRow_of_cond 8 hx (by kernel_rfl) (fun k hk=>by cases hk) (by kernel_rfl) hm)
 ·intro W base args ds gs before hval hW _ _ hsz hL _ _;exact Ii H enc W base args ds gs before hval hW hsz hL
theorem MF:Rows.TopLostSaid :=
 OpenClaim.holds_of_cond 5 f5 rfl rfl rfl rfl rfl rfl rfl ⟨rfl,rfl,rfl,rfl,rfl⟩ rfl rfl rfl rfl rfl (by kernel_rfl) func5 (by kernel_rfl)
  (of_decide_eq_true (by kernel_rfl)) (by unfold Func.isWrapper;first|(rw[if_pos (by decide +kernel)];kernel_rfl)|(rw[if_neg (by decide +kernel)];exact⟨rfl,rfl⟩))
  (fun os started H enc _ F=>by rw[OpenClaim.pre_eq_preRow];exact Ku os started H enc F)
theorem KW (f : FuncId) (fn : Func) (hf : Tryz.pinned.checked.prog.funcNamed "conclave/conclavetop.TopLost" = some f) (hfn : Tryz.pinned.checked.prog.funcs[f]? = some fn) :
  false=Tryz.pinned.checked.prog.looks []∧∀ (j:Nat) t,fn.params[j]?=some t→Tryz.pinned.checked.prog.wantsStandIn t=false:=by
 obtain rfl : f = 5 := Option.some.inj ((show prog.funcNamed "conclave/conclavetop.TopLost" = some 5 by kernel_rfl).symm.trans hf) |>.symm
 obtain rfl:fn=f5:=(Option.some.inj (func5.symm.trans hfn)).symm;refine⟨by kernel_rfl,fun j t ht=>?_⟩;rw[params5]at ht
 obtain rfl:t=22:=by simpa using Array.mem_of_getElem? ht
 exact(show prog.wantsStandIn 22=false by kernel_rfl)
theorem topLost_card:Rows.TopLostCardSaid :=
 Claim7.holds_tied_plain_at .later [] _ _ _ _ MF (fun _ h=>by cases h) (by kernel_rfl) (fun _ h=>by cases h) topLost_row_tie rfl ⟨rfl,rfl⟩ (by kernel_rfl) rfl KW (by kernel_rfl)
#print axioms topLost_card
end
end Go.Proofs.YtkchbdgikgbiaadGreatDoor
