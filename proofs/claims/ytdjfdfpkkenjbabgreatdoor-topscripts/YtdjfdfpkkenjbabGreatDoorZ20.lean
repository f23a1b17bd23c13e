/- Part 20 of the walk. -/
import Derived.ChangeKeysEq
import Derived.Deep.Slices
import Derived.Test.YtdjfdfpkkenjbabGreatDoorZ19
import Derived.Test.YtdjfdfpkkenjbabGreatDoorZ10
set_option maxRecDepth 100000
set_option maxHeartbeats 4000000
open Go.Proofs.Tryz
set_option linter.unusedVariables false
namespace Go.Proofs.YtdjfdfpkkenjbabGreatDoor
section
open Go.RowKit
theorem Hd{P:Program}{w:World}{d c:Nat}{e:TypeId}{a:Array Value}:∀ l:List Nat,(∀ i∈l,∃ v,(part e a (i*c)).run P w=.ok v w/\(Op.equalIn d e v v).run P w=.ok true w)->(Op.eqItems d e c a a l).run P w=.ok true w
 | [],_=>by simp[Op.eqItems]
 | i::l,h=>by
  obtain⟨v,h1,h2⟩:=h i (j' ..);have f:=Hd l (λj b=>h j (V' _ b));simp[Op.eqItems,Sem.run_bind,h1,h2,f,Result.andThen_ok]
theorem in5{i:Nat}(h:i∈List.range 5):i=0\/i=1\/i=2\/i=3\/i=4:=by have:=o8.1 h;omega
theorem mo(a b c d e:Int)(n:Nat)(w:World):(Op.equalIn (n+2) 32 (.agg #[iv a,iv b,iv c,iv d,iv e]) (.agg #[iv a,iv b,iv c,iv d,iv e])).run prog w=.ok true w:=by
 rw[run_equalIn_array (P:=prog) w (n+1) (t:=32) (e:=3) (n:=5) _ _ underlying32 (show prog.info? 3=some _ from rfl)];rw[show prog.cellsOf 3=1 by kernel_rfl];have f:∀ z:Int,(Op.equalIn (n+1) 3 (iv z) (iv z)).run prog w=.ok true w:=λz=>by rw[run_equalIn_int w n 3 .i64 .i64 _ _ underlying3];simp
 refine Hd _ (λi h=>?_);rcases in5 h with rfl|rfl|rfl|rfl|rfl
 .exact⟨iv a,by kernel_rfl,f _⟩
 .exact⟨iv b,by kernel_rfl,f _⟩
 .exact⟨iv c,by kernel_rfl,f _⟩
 .exact⟨iv d,by kernel_rfl,f _⟩
 .exact⟨iv e,by kernel_rfl,f _⟩
theorem mx{W:World}{x y:Operand}{a b c d e f g h i j:Int}(k:a=f)(l:b=g)(m:c=h)(n:d=i)(o:e=j):(do Go.eqGuard .neq 32 x y (.agg #[iv a,iv b,iv c,iv d,iv e]) (.agg #[iv f,iv g,iv h,iv i,iv j]);Go.binOp .neq 32 (.agg #[iv a,iv b,iv c,iv d,iv e]) (.agg #[iv f,iv g,iv h,iv i,iv j]):Sem Value).run prog W=.ok (.bool false) W:=by
 subst k l m n o;have p:(Go.eqGuard .neq 32 x y (.agg #[iv a,iv b,iv c,iv d,iv e]) (.agg #[iv a,iv b,iv c,iv d,iv e])).run prog W=.ok () W:=by kernel_rfl
 rw[Sem.run_bind,p,Result.andThen_ok,run_neq_struct,mo a b c d e 9998 W];rfl
theorem mh(a b c d e:Bool)(n:Nat)(w:World):(Op.equalIn (n+2) 30 (.agg #[.bool a,.bool b,.bool c,.bool d,.bool e]) (.agg #[.bool a,.bool b,.bool c,.bool d,.bool e])).run prog w=.ok true w:=by
 rw[run_equalIn_array (P:=prog) w (n+1) (t:=30) (e:=4) (n:=5) _ _ underlying30 (show prog.info? 4=some _ from rfl)];rw[show prog.cellsOf 4=1 by kernel_rfl];have f:∀ z:Bool,(Op.equalIn (n+1) 4 (.bool z) (.bool z)).run prog w=.ok true w:=λz=>by rw[run_equalIn_bool' w n 4 _ _ underlying4];simp
 refine Hd _ (λi h=>?_);rcases in5 h with rfl|rfl|rfl|rfl|rfl
 .exact⟨.bool a,by kernel_rfl,f _⟩
 .exact⟨.bool b,by kernel_rfl,f _⟩
 .exact⟨.bool c,by kernel_rfl,f _⟩
 .exact⟨.bool d,by kernel_rfl,f _⟩
 .exact⟨.bool e,by kernel_rfl,f _⟩
end
section
theorem Vl(M:Meet)(L:List Lac)(x:Lac):M.pk (L++[x])=(M.pk L).act x:=by unfold Meet.pk;rw[List.foldl_append];rfl
theorem Vm{M:Meet}{L:List Lac}{i:Nat}{x:Lac}(h:L[i]?=some x):M.pk (L.take (i+1))=(M.pk (L.take i)).act x:=by rw[qx,h];exact Vl M (L.take i) x
theorem Xx(L:List Lac)(h:∀ x∈L,LacOk x)(d:L.length<=100000):MOk L.length (D3.pk L):=by
 suffices ∀ i,i<=L.length->MOk i (D3.pk (L.take i))by have a:=this L.length (A' _);rwa [oZ]at a
 intro i;induction i with
 | zero=>intro _;exact MOk.zero
 | succ i ih =>
  intro c;have b:L[i]?=some L[i]:=H' (by omega);rw[Vm b];exact(ih (by omega)).act (by omega) (h _ (na _))
theorem cW(g:Gr)(b:Bool):LacOk (PX g b):=by
 have d:=Bl g.a 5 (by omega);have e:=Bl g.c 20 (by omega);have f:=Bl g.c 90 (by omega);have h:(pkB g).length<=63:=by
  have:(pkP g).length=63:=LV (ZC g);unfold pkB;split
  .rw[mH];omega
  .omega
 rw[<- Iq];unfold PX acN
 repeat' split
 all_goals simp[YL,Aw,AA,AC];try omega
theorem ZY{P:Lac->Prop}(b:P (acN 7 0)){a:Bool}(c:∀ g,P (PX g a))(s:Nat)(l:List Gr):∀ x∈Ph a s l,P x:=by
 induction l generalizing s with
 | nil=>intro x hx;cases hx
 | cons g l ih =>
  intro x hx;rcases mK.1 hx with rfl|hx
  .unfold ZX;split
   .exact b
   .exact c g
  .exact ih _ x hx
theorem jh(l:List Gr)(m:Nat)(a:Bool):∀ x∈scr l m a,LacOk x:=ZY (by rw[<- Iq];decide) (λg=>cW g a) _ _
theorem ah(a:Bool)(s:Nat)(l:List Gr):(Ph a s l).length=l.length:=by
 induction l generalizing s with
 | nil=>rfl
 | cons g l ih=>rw[Ph,mR,ih,mR]
theorem eI(l:List Gr)(m:Nat)(a:Bool):(scr l m a).length<=m:=by unfold scr;rw[ah,mH];omega
end
section
open Go.RowKit
theorem kP{W:World}{x y:Operand}{a b c d e:Bool}:(do Go.eqGuard .eql 30 x y (.agg #[.bool a,.bool b,.bool c,.bool d,.bool e]) (.agg #[.bool a,.bool b,.bool c,.bool d,.bool e]);Go.binOp .eql 30 (.agg #[.bool a,.bool b,.bool c,.bool d,.bool e]) (.agg #[.bool a,.bool b,.bool c,.bool d,.bool e]):Sem Value).run prog W=.ok (.bool true) W:=by
 have f:(Go.eqGuard .eql 30 x y (.agg #[.bool a,.bool b,.bool c,.bool d,.bool e]) (.agg #[.bool a,.bool b,.bool c,.bool d,.bool e])).run prog W=.ok () W:=by kernel_rfl
 rw[Sem.run_bind,f,Result.andThen_ok,run_eql_struct,mh a b c d e 9998 W];rfl
theorem H6(l:List Cmd):alk l l=true:=by
 induction l with
 | nil=>exact Uh _
 | cons c l ih=>rw[alk,ih];simp
theorem KH{l:S3}{G:List Gr}{w:World}(h:RdV w l 5 (grL G))(hG:∀ g∈G,GrOk g)(R:Vi w)(hM:LMTab w)(hP:LPTab w) :
  Calls prog 3 #[l.v] w λe w'=>e=.returned (.bool true)/\Bw w w':=by
 obtain⟨L,hL⟩:∃ L,scr G 60 true=L:=⟨_,rfl⟩;have o:=jh G 60 true;have a5:=eI G 60 true;rw[hL]at o a5
 have d7:=Lu o;obtain⟨M,P⟩:∃ M,D3.pk L=M:=⟨_,rfl⟩;refine tIn [] func3 trivial (tR 7 [] λe0 _ _=>tC 1 (λF C=>WL (kv:=60) (cr:=true) (h.ab (CgQ.ab C)) hG (by decide) (tbA R.1 C)) λU=>?_);rintro _ _ ⟨s,Q,rfl,W,hN,b2⟩;refine⟨_,Fa.ac s Q::_,rfl,b2,λF=>⟨hN.ac U,F⟩,?_⟩;rw[hL]at W
 have a6:∀ {g w},AllF g w [Fa.ac s Q]->Sk w s.v (laF L) L.length:=λF=>(AcR.of F.1 W).sk (by omega);have a3:∀ {g w},AllF g w [Fa.ac s Q]->∀ x∈L,IQ x:=λF x hx=>by
  obtain⟨p,hp,rfl⟩:=nG.1 (W▸hx);exact(F.1.2 p hp).s.byte
 refine tR 5 [] λe1 _ _=>tF λF _=>?_;have S:=a3 F;have a7:=(AcR.of F.1 W).n;refine tC1 1 (λF C=>eM s.v L _ (a6 F) o S (by omega) (R.2.1.ab (CgQ.ab C)) (R.2.2.ab (CgQ.ab C)) (hP.ab hP.lt (CgQ.ab C))) λ_=>tR 11 [] λe2 _ _=>tC 1 (λF C=>Wc (AP L) (JM S) (by omega) _ ⟨R.2.1.ab (CgQ.ab C),R.2.2.ab (CgQ.ab C),hM.ab (CgQ.ab C)⟩) λU=>?_;rintro _ _ ⟨⟨v3,i3,E3,l3,r3,rfl,h3,_,s3⟩,b6⟩;obtain⟨rfl,rfl,a4⟩:=(ZM (λx hx=>⟨o x hx,S x hx⟩) (by omega) (by omega)).unique h3;obtain rfl:=a4 rfl;obtain⟨z,Y,rfl,hz⟩:=(s3 rfl).z;refine⟨_,_,rfl,b6,id,?_⟩;refine tZ [Fa.sk z L Y,Fa.ac s Q] (λF=>⟨hz,⟨F.1.1.rd.fz,λp hp=>⟨(F.1.2 p hp).s,λ_ _ _=>rfl⟩⟩,trivial⟩) ?_;have a9:=hz.n;refine tR 11 [] λe3 _ _=>tC 1 (λF C=>jb (AcR.of F.2.1 W) o (by omega) (tb5 R C) P) λU=>?_;rintro _ _ ⟨O,H,u,rfl,hW,hO,b8⟩;refine⟨_,Fa.ot O H u M::_,rfl,b8,λF=>⟨OV hW hO U,F⟩,?_⟩;refine tR 10 [1,0,0,0] λD _ _=>tC 1 (λF C=>ZK F.2.1.sk o (by omega) (tb5 R C) P) λU=>?_;rintro _ _ ⟨T,N,A,rfl,a2,a1,a0⟩;refine⟨_,[Fa.ot T N A M,Fa.ot O H u M],rfl,a0,λF=>⟨OV a2 a1 U,F.1,trivial⟩,?_⟩;refine tF λF _=>?_;have d8:=(OW F.2.1).n5;obtain⟨bl,fl,I,_⟩:=F.2.1.mv.rd.spot (i:=0) (by omega);have d9:=(OW F.1).n5;obtain⟨bm,fm,K,_⟩:=F.1.mv.rd.spot (i:=0) (by omega);have X:∀ j,j<5->(u j).n=(A j).n:=λj Z=>by rw[cB (F.2.1.log j Z).rd,cB (F.1.log j Z).rd]
 have a8:H.n=N.n:=by rw[gk F.2.1.cF.rd,gk F.1.cF.rd]
 have q:∀ j,j<5->(M.log j).length<=40:=λj Z=>by unfold Meet.log;rw[mH];have:=((Xx L o (by omega)).ao j Z).ag;rw[P]at this;omega
 refine tR 29 [1,0,1,0] λf _ _=>tV 19 (.bool false) (λF C=>(EP (t:=3) (m:=(z.n:Int)) (n:=(s.n:Int)) (x:=(.tmp 55)) (y:=(.tmp 57)) (by rw[a9,a7];simp))) (tR 6 [0,1] λb0 _ _=>tV 26 (.bool false) (λF C=>(EP (t:=3) (m:=(M.bN.length:Int)) (n:=(M.bN.length:Int)) (x:=(.tmp 62)) (y:=(.tmp 64)) (by simp))) (tR 8 [0,1] λb1 _ _=>tV 35 (.bool false) (λF C=>(EP (t:=3) (m:=(H.n:Int)) (n:=(N.n:Int)) (x:=(.tmp 70)) (y:=(.tmp 73)) (by rw[a8];simp))) (tR 6 [0,1] λb3 _ _=>tV 42 (.bool false) (λF C=>(mx (x:=(.tmp 78)) (y:=(.tmp 80)) (a:=((M.ao 0).bad:Int)) (b:=((M.ao 1).bad:Int)) (c:=((M.ao 2).bad:Int)) (d:=((M.ao 3).bad:Int)) (e:=((M.ao 4).bad:Int)) rfl rfl rfl rfl rfl)) (tR 10 [] λb4 _ _=>GU 119 [(10,pt (D 0) 0),(12,pt (f 0) 0),(14,iv 0)] [true,true] [⟨(D 0),.cells #[iv (M.bN.length:Int),.bool (M.ao 0).up,.bool (M.ao 1).up,.bool (M.ao 2).up,.bool (M.ao 3).up,.bool (M.ao 4).up,S3.v O,iv ((M.ao 0).bad:Int),iv ((M.ao 1).bad:Int),iv ((M.ao 2).bad:Int),iv ((M.ao 3).bad:Int),iv ((M.ao 4).bad:Int),S3.v H] 35,.l,false⟩,⟨(f 0),.cells #[iv (M.bN.length:Int),.bool (M.ao 0).up,.bool (M.ao 1).up,.bool (M.ao 2).up,.bool (M.ao 3).up,.bool (M.ao 4).up,S3.v T,iv ((M.ao 0).bad:Int),iv ((M.ao 1).bad:Int),iv ((M.ao 2).bad:Int),iv ((M.ao 3).bad:Int),iv ((M.ao 4).bad:Int),S3.v N] 35,.l,false⟩] [Fa.ot T N A M,Fa.ot O H u M] (λkk ee LL E=>∃ (i:Nat),kk=5-i/\ee=[(10,pt (D 0) 0),(12,pt (f 0) 0),(14,iv (i:Int))]/\LL=[⟨(D 0),.cells (Ix M O H) 35,.l,false⟩,⟨(f 0),.cells (Ix M T N) 35,.l,false⟩]/\E=[Fa.ot T N A M,Fa.ot O H u M]/\i<=5) (5) ⟨0,rfl,rfl,rfl,rfl,by omega⟩ (λF=>⟨F.1,F.2.1,trivial⟩) ?_))));rintro k _ _ _ ⟨i,rfl,rfl,rfl,rfl,hi⟩ _ _ _ J V;refine tR 6 [] λb5 _ _=>?_;by_cases h1:i<5
 .refine tI ((decide ((i:Int)<5))) true (N' (by omega)) (tR 4 [] λb7 _ _=>K7 119 (λee LL E=>∃ (_:Unit),ee=[(10,pt (D 0) 0),(12,pt (f 0) 0),(14,iv (i:Int)),(113,.bool false)]/\LL=[⟨(D 0),.cells (Ix M O H) 35,.l,false⟩,⟨(f 0),.cells (Ix M T N) 35,.l,false⟩]/\E=[Fa.ot T N A M,Fa.ot O H u M]) (λJ V=>?_) ?_)
  .refine tR 4 [24,0,2,0,4] λb9 _ _=>tT 3 (pt bl (fl+i)) (λ_=>(Oa I i (by omega))) (tR 3 [12,14,1,16] λc0 _ _=>tT 9 (pt bm (fm+i)) (λ_=>(Oa K i (by omega))) (K8 4 10 ?_ ?_))
   .refine tV 4 (S3.v (u i)) (λF C=>(BW underlying38 rfl (Cz F.2.1.mv.rd I (by omega)))) (tR 1 [10] λc1 _ _=>tV 10 (S3.v (A i)) (λF C=>(BW underlying38 rfl (Cz F.1.mv.rd K (by omega)))) (tR 1 [22] λc2 _ _=>tT 12 (.bool false) (λ_=>(EP (t:=3) (m:=((u i).n:Int)) (n:=((A i).n:Int)) (x:=(.tmp 92)) (y:=(.tmp 98)) (by rw[X i (by omega)];simp))) (tR 4 [26,28,30,0,32] λc3 _ _=>tT 17 (pt bl (fl+i)) (λ_=>(Oa I i (by omega))) (tR 3 [38,40,1,42] λc4 _ _=>tT 22 (pt bm (fm+i)) (λ_=>(Oa K i (by omega))) (K8 18 23 ?_ ?_)))))
    .refine tV 18 (S3.v (u i)) (λF C=>(BW underlying38 rfl (Cz F.2.1.mv.rd I (by omega)))) (tV 23 (S3.v (A i)) (λF C=>(BW underlying38 rfl (Cz F.1.mv.rd K (by omega)))) (tC1 24 (λF C=>Hz (F.2.1.log i (by omega)).rd (F.1.log i (by omega)).rd (by have:=q i (by omega);omega) (r:=true) (H6 _)) λ_=>tR 3 [50,52] λc5 _ _=>tD V [true,true] ⟨(),rfl,rfl,rfl⟩ (λF=>⟨F.1,F.2.1,trivial⟩)))
    .refine tV 23 (S3.v (A i)) (λF C=>(BW underlying38 rfl (Cz F.1.mv.rd K (by omega)))) (tV 18 (S3.v (u i)) (λF C=>(BW underlying38 rfl (Cz F.2.1.mv.rd I (by omega)))) (tC1 24 (λF C=>Hz (F.2.1.log i (by omega)).rd (F.1.log i (by omega)).rd (by have:=q i (by omega);omega) (r:=true) (H6 _)) λ_=>tR 3 [50,52] λc6 _ _=>tD V [true,true] ⟨(),rfl,rfl,rfl⟩ (λF=>⟨F.1,F.2.1,trivial⟩)))
   .refine tV 10 (S3.v (A i)) (λF C=>(BW underlying38 rfl (Cz F.1.mv.rd K (by omega)))) (tR 1 [22] λc7 _ _=>tV 4 (S3.v (u i)) (λF C=>(BW underlying38 rfl (Cz F.2.1.mv.rd I (by omega)))) (tR 1 [10] λc8 _ _=>tT 12 (.bool false) (λ_=>(EP (t:=3) (m:=((u i).n:Int)) (n:=((A i).n:Int)) (x:=(.tmp 92)) (y:=(.tmp 98)) (by rw[X i (by omega)];simp))) (tR 4 [26,28,30,0,32] λc9 _ _=>tT 17 (pt bl (fl+i)) (λ_=>(Oa I i (by omega))) (tR 3 [38,40,1,42] λd0 _ _=>tT 22 (pt bm (fm+i)) (λ_=>(Oa K i (by omega))) (K8 18 23 ?_ ?_)))))
    .refine tV 18 (S3.v (u i)) (λF C=>(BW underlying38 rfl (Cz F.2.1.mv.rd I (by omega)))) (tV 23 (S3.v (A i)) (λF C=>(BW underlying38 rfl (Cz F.1.mv.rd K (by omega)))) (tC1 24 (λF C=>Hz (F.2.1.log i (by omega)).rd (F.1.log i (by omega)).rd (by have:=q i (by omega);omega) (r:=true) (H6 _)) λ_=>tR 3 [50,52] λd1 _ _=>tD V [true,true] ⟨(),rfl,rfl,rfl⟩ (λF=>⟨F.1,F.2.1,trivial⟩)))
    .refine tV 23 (S3.v (A i)) (λF C=>(BW underlying38 rfl (Cz F.1.mv.rd K (by omega)))) (tV 18 (S3.v (u i)) (λF C=>(BW underlying38 rfl (Cz F.2.1.mv.rd I (by omega)))) (tC1 24 (λF C=>Hz (F.2.1.log i (by omega)).rd (F.1.log i (by omega)).rd (by have:=q i (by omega);omega) (r:=true) (H6 _)) λ_=>tR 3 [50,52] λd2 _ _=>tD V [true,true] ⟨(),rfl,rfl,rfl⟩ (λF=>⟨F.1,F.2.1,trivial⟩)))
  rintro _ _ _ ⟨_,rfl,rfl,rfl⟩ _ _ _;refine tR 5 [] λd3 _ _=>tV 1 (iv ((i:Int)+1)) (λF C=>(AZ 85 (i:Int) underlying3 (by omega))) (tR 2 [] λd4 _ _=>tB V (5-(i+1)) (by omega) [true,true] ⟨i+1,rfl,rfl,rfl,rfl,by omega⟩ (λF=>⟨F.1,F.2.1,trivial⟩))
 .refine tI ((decide ((i:Int)<5))) false (G' (by omega)) (tR 7 [0,1] λd5 _ _=>tV 4 (.bool true) (λF C=>(kP (x:=(.tmp 115)) (y:=(.tmp 117)) (a:=(M.ao 0).up) (b:=(M.ao 1).up) (c:=(M.ao 2).up) (d:=(M.ao 3).up) (e:=(M.ao 4).up))) (tR 2 [] λd6 _ _=>tE (.bool true) λ_ B=>⟨rfl,B⟩))
end
section
open Go.RowKit Go.ChangeShapes Go.WideShapes Go.ChangeAt
section
variable{H:Type}{W:World}{base fuel n:Nat}{cs:List Value}{held:Bool}
theorem Pq{P:Program}{b:TypeId × Value->H}{w:World}{a:Nat->Bool}{t:TypeId}{c d e f g:Field}{x:DataW H × List MemPlace}(l:P.underlying t=some (.struct #[c,d,e,f,g]))(h:DataW.trod b P w base a held fuel t cs=some x) :
  ∃ y0 y1 y2 y3 y4 n,x=(.agg [y0.1,y1.1,y2.1,y3.1,y4.1],y0.2++(y1.2++(y2.2++(y3.2++y4.2))))/\cs.length=P.cellsOf t/\DataW.trod b P w base a held n c.type ((cs.drop c.offset).take (P.cellsOf c.type))=some y0 /\
   DataW.trod b P w base a held n d.type ((cs.drop d.offset).take (P.cellsOf d.type))=some y1/\DataW.trod b P w base a held n e.type ((cs.drop e.offset).take (P.cellsOf e.type))=some y2 /\
   DataW.trod b P w base a held n f.type ((cs.drop f.offset).take (P.cellsOf f.type))=some y3/\DataW.trod b P w base a held n g.type ((cs.drop g.offset).take (P.cellsOf g.type))=some y4:=by
 obtain⟨m,n,_,rfl,k,j,i⟩:=DataW.trod_struct l h
 match m,j with
 | [y0,y1,y2,y3,y4],_=>exact⟨y0,y1,y2,y3,y4,n,by simp,k,by simpa using i 0 c rfl,by simpa using i 1 d rfl,by simpa using i 2 e rfl,by simpa using i 3 f rfl,by simpa using i 4 g rfl⟩
theorem gU:prog.cellsOf 3=1:=by kernel_rfl
theorem LB{n:Int}(h:(Lit.int .i64 n).wf=true):I64 n:=by have:=bounds_i64 h;unfold I64;omega
instance:Inhabited Gr:=⟨⟨0,0,0,0,0⟩⟩
theorem iw{a:TypeId × Value->H}{t:Nat->Bool}{x:DataW H × List MemPlace}(h:DataW.trod a prog W base t held fuel 46 cs=some x):∃ g,cs=grV g/\GrOk g:=by
 obtain⟨A,B,C,D,E,m,_,o,i,j,k,l,n⟩:=Pq underlying46 h;rw[show prog.cellsOf 46=5 by kernel_rfl]at o
 simp only[gU]at i j k l n
 match cs,o with
 | [c0,c1,c2,c3,c4],_ =>
  obtain⟨a0,b,_,u⟩:=DataW.trod_int underlying3 i;obtain⟨p,c,_,v⟩:=DataW.trod_int underlying3 j;obtain⟨q,d,_,w⟩:=DataW.trod_int underlying3 k;obtain⟨r,e,_,y⟩:=DataW.trod_int underlying3 l;obtain⟨s,f,_,z⟩:=DataW.trod_int underlying3 n;simp at b c d e f;subst b c d e f;exact⟨⟨a0,p,q,r,s⟩,rfl,LB u,LB v,LB w,LB y,LB z⟩
theorem iu{f:Nat->Gr}{i j:Nat}{u:Value}(h:(((List.range n).map f).flatMap grV)[j]?=some u)(d:i=j/5):∃ q,j=5*i+q/\i<n/\(grV (f i))[q]?=some u:=by
 subst d;have b:j<(((List.range n).map f).flatMap grV).length:=(Q'.1 h).1;rw[EF (f:=grV) (sz:=5) (λ_=>rfl),mU,qv]at b
 have hin:j/5<n:=by omega
 refine⟨j%5,by omega,hin,?_⟩;obtain⟨v,c⟩:∃ v,(grV (f (j/5)))[j%5]?=some v:=⟨_,H' (by show j%5<5;omega)⟩;have:=OE (f:=grV) (sz:=5) (λ_=>rfl) ((List.range n).map f) (i:=j/5) (j:=j%5) (a:=f (j/5)) (by simp[hin]) c;rw[show 5*(j/5)+j%5=j by omega,h]at this
 rw[c];exact this.symm
theorem Yz{z:TypeId × Value->H}{a:Option Addr}{c:Nat}{d:DataW H}{p:List MemPlace}(F:DataW.trod z prog W 0 (λ_=>true) true fuel 22 [.slice a n c]=some (d,p)):∃ G,RdV W ⟨a,n,c⟩ 5 (grL G)/\∀ g∈G,GrOk g:=by
 rcases Deep.open_slice underlying22 F with⟨l,_⟩|⟨a',len,cap,m,k,D,Pl,l,hb,hl,hm,hmm,hx,hel⟩
 .simp at l;obtain⟨rfl,rfl,rfl⟩:=l;exact⟨[],⟨rfl,A' _,λ_=>rfl,.inl rfl⟩,λg w=>by cases w⟩
 .simp at l;obtain⟨rfl,rfl,rfl⟩:=l;simp only[if_true]at hmm;rw[show prog.cellsOf 46=5 by kernel_rfl]at hel
  have hin:∀ i,i<n->∃ g,(∀ j u,(grV g)[j]?=some u->W.cell? ((a'.add (i*5)).add j)=some u)/\GrOk g:=by
   intro i x;obtain⟨B,l,C⟩:=hel i (by omega);obtain⟨g,rfl,w⟩:=iw C;obtain⟨_,_,E⟩:=World.cells?_some l;refine⟨g,λj u y=>?_,w⟩;have A:j<5:=(Q'.1 y).1;rw[E j A,y]
  obtain⟨f,s⟩:=Deep.choose_lt hin;refine⟨(List.range n).map f,⟨by rw[show(grL ((List.range n).map f)).length=_ from EF (f:=grV) (sz:=5) (λ_=>rfl) _,mU,qv],hl,(λh=>by cases h),?_⟩,λg w=>?_⟩
  .by_cases h0:n=0
   .exact .inl h0
   .right;obtain⟨b,v,spot⟩:=a';have r:=(s 0 (by omega)).1 0 _ rfl;have t:spot=none:=by simpa[Addr.add]using World.cell?_spot r
    subst t;have e:∀ o k,(⟨b,o,none⟩:Addr).add k=⟨b,o+k,none⟩:=λo k=>by unfold Addr.add;split<;>simp_all
    refine⟨b,v,rfl,?_,λj u y=>?_⟩
    .rw[e,e]at r
     exact World.block_lt_of_cell? W _ r
    .obtain⟨q,hq,x,hu⟩:=iu y rfl;have:=(s (j/5) x).1 q u hu;rw[e,e]at this
     rw[show v+j=v+j/5*5+q by omega];exact this
  .obtain⟨i,x,rfl⟩:=nG.1 w;exact(s i (o8.1 x)).2
end
end
section
open Go.ChangeShapes Go.WideShapes Go.ChangeAt Go.RowKit
section
theorem GD(H:Type)(k:TypeId × Value->H)(W:World)(n:Nat)(a:Array Value)(s D:List (DataW H))(b:List MemPlace)(d:∀ (j:Nat) t v,f3.params[j]?=some t->a[j]?=some v->Value.okWide prog W .any n t v)(I:DataW.Whole k prog f3.params.toList Rows.topScriptsSpec.vars false W a.toList s D b)(A:(DataW.weightsEach prog (f3.params.toList++Rows.topScriptsSpec.plain.varTypes prog) (s++D)).all (·<=reachBytes)=true)(u:laidMetH prog Rows.topScriptsRow.laid W)(w:W.ShapedOpen prog) :
  Calls prog 3 a W λe W'=>∃ v,e=.returned v/\Rows.topScriptsSpec.post k prog f3 false true false false W a v W':=by
 have y:=I;obtain⟨p,q,r,M,rfl,P,R⟩:=I;have F:DataW.TrodAll k prog W 0 (λ_=>true) true f3.params.toList a.toList s p:=r;rw[params3]at F d A
 obtain⟨K,V,Y,L,T,q0,z,rfl,rfl,E,U⟩:=trodAll_cons F;obtain⟨rfl,rfl,rfl⟩:=trodAll_nil U;obtain rfl:a=#[K]:=by cases a;simp_all
 obtain⟨rfl,rfl⟩:=trodVars_none M;obtain⟨a0,i,c,rfl⟩:=okWide_slice underlying22 (d 0 22 K rfl rfl);have J:=E;have B:∀ x∈T,x.block<W.heap.size:=by obtain⟨m,Q⟩:=J;exact DataW.trod_lt m _ _ _ Q
 obtain⟨Z,X,S⟩:∃ G,RdV W ⟨a0,i,c⟩ 5 (grL G)/\∀ g∈G,GrOk g:=by obtain⟨C,O⟩:=E;exact Yz O
 clear r;refine(KH (l:=⟨a0,i,c⟩) X S (jx u w).1 (jx u w).2.1 (jx u w).2.2).mono λe W' ⟨N,o⟩=>?_;subst N;exact⟨_,rfl,_,_,_,[],_,[],y,trodAll_mk1 (shut_bool underlying4 _),(trodAll_cons_mk (Below.trod dD (by kernel_rfl) (nX (by kernel_rfl)) J o B) trodAll_mk0),rfl,o.frame _,λh=>by cases h⟩
variable{W:World}{os:Os}
theorem Ms(h:IS os W):laidMet prog Rows.topScriptsRow.laid (W.forCall (λ_ _=>0) ⟨#[],#[.slice none 0 0],[]⟩).memory:=by
 unfold IS at h;subst h;exact laidMet_of_run' 8 (by kernel_rfl) (by kernel_rfl)
theorem J9(h:IS os W){H:Type}(a:TypeId × Value->H):∃ places,DataW.whole a prog (W.forCall (λ_ _=>0) ⟨#[],#[.slice none 0 0],[]⟩).memory f3.params.toList Rows.topScriptsSpec.vars false (#[.slice none 0 0]:Array Value).toList 8=some ([.nil],[],places):=by
 unfold IS at h;subst h;exact⟨[],by kernel_rfl⟩
theorem IJ(d:Os)(a:d.Started)(H:Type)(enc:TypeId × Value->H)(F:Stop.Interp) :
  ReturnsInHanded {} Tryz.checked d 3 .any ((OpenSpec.ofChange Rows.topScriptsSpec).preRow enc prog f3 Rows.topScriptsRow.domain false Rows.topScriptsRow.laid) (((OpenSpec.ofChange Rows.topScriptsSpec).at F).post enc prog f3 false true false false):=by
 obtain⟨i,b⟩:=cS d;obtain⟨c,h⟩:=J9 b enc;have g:=Ms b;refine returnsInHanded_of_row (C:=Tryz.checked) (s:=OpenSpec.ofChange Rows.topScriptsSpec) own a (by kernel_rfl) func3 ?_ ?_
 .unfold IS at b;subst b;exact witness_row_at (enc:=enc) (C:=Tryz.checked) false _ #[.slice none 0 0] rfl (by kernel_rfl) (by kernel_rfl) (by kernel_rfl)
   (OpenSpec.preRow_of_cond 8 h (by kernel_rfl) (λk e=>by cases e) (by kernel_rfl) g)
 .intro W base args ds gs before hval hW _ _ hsz hL hS _;exact GD H enc W base args ds gs before hval hW hsz hL hS
theorem KG:Rows.TopScriptsSaid :=
 OpenClaim.holds_of_cond 3 f3 rfl rfl rfl rfl rfl rfl rfl ⟨rfl,rfl,rfl,rfl,rfl⟩ rfl rfl rfl rfl rfl (by kernel_rfl) func3 (by kernel_rfl)
  (nX (by kernel_rfl)) (by unfold Func.isWrapper;first|(rw[if_pos (by decide +kernel)];kernel_rfl)|(rw[if_neg (by decide +kernel)];exact⟨rfl,rfl⟩))
  (λc a H b _ F=>by rw[OpenClaim.pre_eq_preRow];exact IJ c a H b F)
theorem J8(f : FuncId)(a : Func)(d : Tryz.pinned.checked.prog.funcNamed "conclave/conclavetop.TopScripts" = some f)(b : Tryz.pinned.checked.prog.funcs[f]? = some a) :
  false=Tryz.pinned.checked.prog.looks []/\∀ (j:Nat) t,a.params[j]?=some t->Tryz.pinned.checked.prog.wantsStandIn t=false:=by
 obtain rfl : f = 3 := Option.some.inj ((show prog.funcNamed "conclave/conclavetop.TopScripts" = some 3 by kernel_rfl).symm.trans d) |>.symm
 obtain rfl:a=f3:=(nL (func3.symm.trans b)).symm;refine⟨by kernel_rfl,λj t c=>?_⟩;rw[params3]at c
 obtain rfl:t=22:=by simpa using Array.mem_of_getElem? c
 exact(show prog.wantsStandIn 22=false by kernel_rfl)
theorem topScripts_card:Rows.TopScriptsCardSaid :=
 Claim7.holds_tied_plain_at .later [] _ _ _ _ KG (λ_ h=>by cases h) (by kernel_rfl) (λ_ h=>by cases h) topScripts_row_tie rfl ⟨rfl,rfl⟩ (by kernel_rfl) rfl J8 (by kernel_rfl)
#print axioms topScripts_card
end
end
end Go.Proofs.YtdjfdfpkkenjbabGreatDoor
