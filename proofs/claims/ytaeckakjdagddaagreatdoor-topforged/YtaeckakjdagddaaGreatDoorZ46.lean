/- Part 46 of the walk. -/
import Derived.ChangeKeysEq
import Derived.Test.YtaeckakjdagddaaGreatDoorZ45
set_option maxRecDepth 100000
set_option maxHeartbeats 4000000
open Go.Proofs.Tryz
set_option linter.unusedVariables false
namespace Go.Proofs.YtaeckakjdagddaaGreatDoor
open Go.RowKit
theorem JV{P:Program}{w:World}{d c:Nat}{e:TypeId}{xs:Array Value}:∀ l:List Nat,(∀ i∈l,∃ v,(part e xs (i*c)).run P w=.ok v w∧(Op.equalIn d e v v).run P w=.ok true w)→(Op.eqItems d e c xs xs l).run P w=.ok true w
 | [],_=>by simp[Op.eqItems]
 | i::l,h=>by
  obtain⟨v,h1,h2⟩:=h i (List.mem_cons_self ..);have ih:=JV l (fun j hj=>h j (List.mem_cons_of_mem _ hj));simp[Op.eqItems,Sem.run_bind,h1,h2,ih,Result.andThen_ok]
theorem in5{i:Nat}(h:i∈List.range 5):i=0∨i=1∨i=2∨i=3∨i=4:=by have:=List.mem_range.1 h;omega
theorem eL(a b c d e:Bool)(n:Nat)(w:World):(Op.equalIn (n+2) 35 (.agg #[.bool a,.bool b,.bool c,.bool d,.bool e]) (.agg #[.bool a,.bool b,.bool c,.bool d,.bool e])).run prog w=.ok true w:=by
 rw[run_equalIn_array (P:=prog) w (n+1) (t:=35) (e:=4) (n:=5) _ _ underlying35 (show prog.info? 4=some _ from rfl)];rw[show prog.cellsOf 4=1 by kernel_rfl];have hi:∀ z:Bool,(Op.equalIn (n+1) 4 (.bool z) (.bool z)).run prog w=.ok true w:=fun z=>by rw[run_equalIn_bool' w n 4 _ _ underlying4];simp
 refine JV _ (fun i h=>?_);rcases in5 h with rfl|rfl|rfl|rfl|rfl
 ·exact⟨.bool a,by kernel_rfl,hi _⟩
 ·exact⟨.bool b,by kernel_rfl,hi _⟩
 ·exact⟨.bool c,by kernel_rfl,hi _⟩
 ·exact⟨.bool d,by kernel_rfl,hi _⟩
 ·exact⟨.bool e,by kernel_rfl,hi _⟩
theorem dO{W:World}{x y:Operand}{a b c d e a' b' c' d' e':Bool}(h1:a=a')(h2:b=b')(h3:c=c')(h4:d=d')(h5:e=e'):(do Go.eqGuard .neq 35 x y (.agg #[.bool a,.bool b,.bool c,.bool d,.bool e]) (.agg #[.bool a',.bool b',.bool c',.bool d',.bool e']);Go.binOp .neq 35 (.agg #[.bool a,.bool b,.bool c,.bool d,.bool e]) (.agg #[.bool a',.bool b',.bool c',.bool d',.bool e']):Sem Value).run prog W=.ok (.bool false) W:=by
 subst h1 h2 h3 h4 h5;have hg:(Go.eqGuard .neq 35 x y (.agg #[.bool a,.bool b,.bool c,.bool d,.bool e]) (.agg #[.bool a,.bool b,.bool c,.bool d,.bool e])).run prog W=.ok () W:=by kernel_rfl
 rw[Sem.run_bind,hg,Result.andThen_ok,run_neq_struct,eL a b c d e 9998 W];rfl
def alk:List Cmd→List Cmd→Bool
 | c::a,d::b=>decide (c=d)&&alk a b
 | _,_=>true
theorem Xn(a:List Cmd):alk a []=true:=by cases a<;>rfl
theorem Rk{a b:List Cmd}{i:Nat}(h:¬ (i<a.length∧i<b.length)):alk (a.drop i) (b.drop i)=true:=by
 by_cases h1:i<a.length
 ·rw[show b.drop i=[]from List.drop_eq_nil_of_le (by omega),Xn]
 ·rw[show a.drop i=[]from List.drop_eq_nil_of_le (by omega)];rfl
theorem Uc{a b:List Cmd}{i:Nat}{c d:Cmd}(ha:a[i]?=some c)(hb:b[i]?=some d):alk (a.drop i) (b.drop i)=(decide (c=d)&&alk (a.drop (i+1)) (b.drop (i+1))):=by
 obtain⟨h1,rfl⟩:=List.getElem?_eq_some_iff.1 ha;obtain⟨h2,rfl⟩:=List.getElem?_eq_some_iff.1 hb;rw[List.drop_eq_getElem_cons h1,List.drop_eq_getElem_cons h2,alk]
theorem eS(a b c d e a' b' c' d' e':Int):∀ w,(binOp .neq 29 (.agg #[.int .i64 a,.int .i64 b,.int .i64 c,.int .i64 d,.int .i64 e]) (.agg #[.int .i64 a',.int .i64 b',.int .i64 c',.int .i64 d',.int .i64 e'])).run prog w=.ok (.bool (!decide (a=a'∧b=b'∧c=c'∧d=d'∧e=e'))) w:=by
 intro w;rw[run_neq_struct,run_equalIn_agg w 9999 _ _ _ (by kernel_rfl) (by kernel_rfl)];unfold Program.fieldsOf;rw[underlying29];have h3:=underlying3;simp[Op.eqFields,go_sem,h3]
 repeat' split
 all_goals simp_all
theorem dP{W:World}{x y:Operand}(a b:Cmd):(do Go.eqGuard .neq 29 x y (.agg #[iv a.k,iv a.c,iv a.s,iv a.n,iv a.v]) (.agg #[iv b.k,iv b.c,iv b.s,iv b.n,iv b.v]);Go.binOp .neq 29 (.agg #[iv a.k,iv a.c,iv a.s,iv a.n,iv a.v]) (.agg #[iv b.k,iv b.c,iv b.s,iv b.n,iv b.v]):Sem Value).run prog W=.ok (.bool (!decide (a=b))) W:=by
 have h1:=eS a.k a.c a.s a.n a.v b.k b.c b.s b.n b.v W;rw[Ms]at h1
 have hg:(Go.eqGuard .neq 29 x y (.agg #[iv a.k,iv a.c,iv a.s,iv a.n,iv a.v]) (.agg #[iv b.k,iv b.c,iv b.s,iv b.n,iv b.v])).run prog W=.ok () W:=by kernel_rfl
 rw[Sem.run_bind,hg,Result.andThen_ok];exact h1
theorem G3{x y:S3}{a b:List Cmd}{w:World}(h:RdV w x 5 (cmL a))(k:RdV w y 5 (cmL b))(hb:a.length<1000000){r:Bool}(hr:alk a b=r) :
  Calls prog 8 #[x.v,y.v] w fun e w'=>e=.returned (.bool r)∧Bw w w':=by
 have hx:=X0 h;have hy:=X0 k;refine tIn [Fa.zv x 5 (cmL a),Fa.zv y 5 (cmL b)] func8 ⟨h.fz,k.fz,trivial⟩ ?_;refine tR 10 [] fun σ1 _ _=>?_;refine K4 27 [(0,S3.v x),(1,S3.v y),(5,iv 0)] [] [] [Fa.zv x 5 (cmL a),Fa.zv y 5 (cmL b)] (fun kk ee LL ΦΦ=>∃ (i:Nat),kk=a.length-i∧ee=[(0,S3.v x),(1,S3.v y),(5,iv (i:Int))]∧LL=[]∧ΦΦ=[Fa.zv x 5 (cmL a),Fa.zv y 5 (cmL b)]∧i≤a.length∧alk (a.drop i) (b.drop i)=r) (a.length) ⟨0,rfl,rfl,rfl,rfl,by omega,hr⟩ (fun F=>F) ?_;rintro k _ _ _ ⟨i,rfl,rfl,rfl,rfl,hi,hI⟩ _ _ _ J hJ;refine tR 6 [] fun σ2 _ _=>?_;by_cases h1:i<a.length
 ·refine tV 3 (.bool true) (fun F C=>(rLt (t:=3) (m:=(i:Int)) (n:=(x.n:Int)) (x:=(.tmp 6)) (y:=(.tmp 8)) (decide_eq_true (by omega)))) ?_;refine tR 7 [] fun σ3 _ _=>?_;by_cases h2:i<b.length
  ·refine tI ((decide ((i:Int)<(y.n:Int)))) true (decide_eq_true (by omega)) ?_;obtain⟨c,hc⟩:∃ c,a[i]?=some c:=⟨_,List.getElem?_eq_getElem (by omega)⟩;obtain⟨d,hd⟩:∃ d,b[i]?=some d:=⟨_,List.getElem?_eq_getElem (by omega)⟩;rw[Uc hc hd]at hI
   refine tF fun F _=>?_;obtain⟨bx,ox,hxa⟩:=F.1.rd.rc.addr (k:=i) (by omega);obtain⟨by_,oy,hya⟩:=F.2.1.rd.rc.addr (k:=i) (by omega);refine tR 7 [9,0,2] fun σ4 _ _=>?_;refine tT 2 (pt bx (ox+5*i)) (fun _=>(Kp hxa i (by omega))) ?_;refine tR 2 [8,10] fun σ5 _ _=>?_;refine tT 6 (pt by_ (oy+5*i)) (fun _=>(Kp hya i (by omega))) ?_;refine Lk 27 (fun ee LL ΦΦ=>∃ (_:Unit),ee=[(0,S3.v x),(1,S3.v y),(5,iv (i:Int)),(26,.bool (!decide (c=d)))]∧LL=[]∧ΦΦ=[Fa.zv x 5 (cmL a),Fa.zv y 5 (cmL b)]) (fun J hJ=>?_) ?_
   ·refine K7 3 7 ?_ ?_
    ·refine tV 3 (.agg #[iv c.k,iv c.c,iv c.s,iv c.n,iv c.v]) (fun F C=>(MT c fun q_ u hu=>F.1.rd.rc.cellAt hxa hc hu)) ?_;refine tV 7 (.agg #[iv d.k,iv d.c,iv d.s,iv d.n,iv d.v]) (fun F C=>(MT d fun q_ u hu=>F.2.1.rd.rc.cellAt hya hd hu)) ?_;refine tT 8 (.bool (!decide (c=d))) (fun _=>(dP (x:=(.tmp 21)) (y:=(.tmp 25)) c d)) ?_;refine tR 1 [] fun σ10 _ _=>?_;exact tD hJ [] ⟨(),rfl,rfl,rfl⟩ (fun F=>F)
    ·refine tV 7 (.agg #[iv d.k,iv d.c,iv d.s,iv d.n,iv d.v]) (fun F C=>(MT d fun q_ u hu=>F.2.1.rd.rc.cellAt hya hd hu)) ?_;refine tV 3 (.agg #[iv c.k,iv c.c,iv c.s,iv c.n,iv c.v]) (fun F C=>(MT c fun q_ u hu=>F.1.rd.rc.cellAt hxa hc hu)) ?_;refine tT 8 (.bool (!decide (c=d))) (fun _=>(dP (x:=(.tmp 21)) (y:=(.tmp 25)) c d)) ?_;refine tR 1 [] fun σ14 _ _=>?_;exact tD hJ [] ⟨(),rfl,rfl,rfl⟩ (fun F=>F)
   rintro _ _ _ ⟨_,rfl,rfl,rfl⟩ _ _ _;by_cases h3:¬ c=d
   ·refine tI ((!decide (c=d))) true (by simpa using h3) ?_;refine tR 4 [] fun σ16 _ _=>?_;rw[decide_eq_false h3]at hI
    subst hI;exact tE (.bool false) fun _ B=>⟨rfl,B⟩
   ·refine tI ((!decide (c=d))) false (by simpa using h3) ?_;rw[decide_eq_true (Decidable.not_not.1 h3),Bool.true_and]at hI
    refine tR 4 [] fun σ17 _ _=>?_;refine tV 1 (iv ((i:Int)+1)) (fun F C=>(AN (x:=(.tmp 16)) (y:=(.const (iv 1))) (i:Int) 1 underlying3 (by omega))) ?_;refine tR 2 [] fun σ18 _ _=>?_;exact tB hJ (a.length-(i+1)) (by omega) [] ⟨i+1,rfl,rfl,rfl,rfl,by omega,hI⟩ (fun F=>F)
  ·refine tI ((decide ((i:Int)<(y.n:Int)))) false (decide_eq_false (by omega)) ?_;refine tR 5 [] fun σ19 _ _=>?_;rw[Rk (by omega)]at hI
   subst hI;exact tE (.bool true) fun _ B=>⟨rfl,B⟩
 ·refine tV 3 (.bool false) (fun F C=>(rLt (t:=3) (m:=(i:Int)) (n:=(x.n:Int)) (x:=(.tmp 6)) (y:=(.tmp 8)) (decide_eq_false (by omega)))) ?_;refine tR 13 [] fun σ20 _ _=>?_;rw[Rk (by omega)]at hI
  subst hI;exact tE (.bool true) fun _ B=>⟨rfl,B⟩
structure Bl(w:World)(v:Value)(ls:List (List Int)):Prop where
 ex:∃ a cap,v=.slice a ls.length cap∧ls.length≤cap∧(ls=[]∨∃ b off,a=some ⟨b,off,none⟩∧b<w.heap.size∧∀ i,i<ls.length→∃ u,w.cell? ⟨b,off+i,none⟩=some u∧Sl w u (ls.getD i []))
 len:ls.length≤140737488351232
theorem TV{n many c:Int}{w:World}(h:I64 n)(hc:pick n many=c)(hm:0<many:=by decide)(hm2:many≤9223372036854775807:=by decide) :
  Calls prog 5 #[iv n,iv many] w fun e w'=>e=.returned (iv c)∧Bw w w':=by subst hc;exact BC h many hm hm2
theorem G4(l:List Cmd):alk l l=true:=by
 induction l with
 | nil=>rfl
 | cons c l ih=>rw[alk,ih];simp
theorem Yp{v:S3}{l:List Int}{now:Int}{w:World}(h:Sl w v.v l)(hT:Tabs w){c:Cmd}(hc:MK l now=c){E:Int}(hE:opE l now=E) :
  Calls prog 6 #[v.v,iv now] w fun e w'=>e=.returned (.tuple #[.agg #[iv c.k,iv c.c,iv c.s,iv c.n,iv c.v],iv E])∧Bw w w':=by
 subst hc hE;have:=LH v.v l now w h hT.t hT.q hT.n;rw[VC]at this
 exact this
theorem cX{w:World}{d:S3}{DS:List (List Int)}(h:Bl w d.v DS):d.n=DS.length∧∀ i,i<d.n→∃ b off,d.a=some ⟨b,off,none⟩:=by
 obtain⟨⟨a,cap,e,_,h1⟩,_⟩:=h;obtain⟨da,dn,dc⟩:=d;simp only[S3.v,Value.slice.injEq]at e;obtain⟨rfl,rfl,rfl⟩:=e;refine⟨rfl,fun i hi=>?_⟩;rcases h1 with rfl|⟨b,off,ha,_⟩
 ·simp at hi
 ·exact⟨b,off,ha⟩
theorem Xu{w:World}{d:S3}{DS:List (List Int)}(h:Bl w d.v DS){b off:Nat}(ha:d.a=some ⟨b,off,none⟩){i:Nat}(hi:i<d.n):∃ x:S3,b<w.heap.size∧w.cell? ⟨b,off+i,none⟩=some x.v∧Sl w x.v (DS.getD i []):=by
 obtain⟨⟨a,cap,e,_,h1⟩,_⟩:=h;obtain⟨da,dn,dc⟩:=d;simp only[S3.v,Value.slice.injEq]at e;obtain⟨rfl,rfl,rfl⟩:=e;rcases h1 with rfl|⟨b',off',h2,h2b,h3⟩
 ·simp at hi
 ·simp only at ha;rw[h2]at ha;cases ha
  obtain⟨u,h4,h5⟩:=h3 i hi;obtain⟨a,c,rfl,_⟩:=h5.ex;exact⟨⟨a,_,c⟩,h2b,h4,h5⟩
theorem Zy{W:World}{x:S3}{b off:Nat}(ha:x.a=some ⟨b,off,none⟩)(j:Nat)(hj:j<x.n):(Instr.indexAt 23 x.v (iv (j:Int))).run prog W=.ok (pt b (off+j)) W:=by
 obtain⟨xa,xn,xc⟩:=x;simp only at ha hj;subst ha;exact MQ (P:=prog) (e:=27) (z:=1) underlying23 (by kernel_rfl) (by kernel_rfl) hj _ (by rw[Nat.one_mul])
theorem ZD{P:Program}{W:World}(ts:Array TypeId)(t:TypeId)(a b m:Nat)(h:m=min a b):(Builtin.min_ ts t #[iv (a:Int),iv (b:Int)]).run P W=.ok (iv (m:Int)) W:=by
 rw[Y2,show min (a:Int) (b:Int)=(m:Int)by omega]
theorem bX{w:World}{x:S3}{l:List Int}(h:Sl w x.v l):x.n=l.length:=by
 obtain⟨a,c,e,_⟩:=h.ex;simp only[S3.v,Value.slice.injEq]at e;exact e.2.1
theorem eo{n:Nat}(hn:n<5){d:List Int}(h:d.length≤90):LacOk ⟨1,(n:Int),0,0,d⟩:=by
 rw[← MA];simp[Yb,FM,Gz,G0];omega
theorem MR{W:World}{b k n:Nat}(hn:n<5):(Instr.indexAt 37 (pt b k) (iv (n:Int))).run prog W=.ok (pt b (k+n)) W:=by
 rcases five hn with rfl|rfl|rfl|rfl|rfl<;>kernel_rfl
theorem RF{M:Meet}{ly tv:S3}{n:Nat}(hn:n<5):(EN M ly tv).toList[7+n]?=some (iv ((M.node n).bad:Int)):=by
 rcases five hn with rfl|rfl|rfl|rfl|rfl<;>rfl
theorem KC{l d:S3}{G:List Gr}{DS:List (List Int)}{at_:Int}{w:World}(h:RdV w l 5 (grL G))(hG:∀ g∈G,GrOk g)(hD:Bl w d.v DS)(hat:I64 at_)(hT:TW w) :
  Calls prog 3 #[l.v,d.v,iv at_] w fun e w'=>e=.returned (.bool true)∧Bw w w':=by
 obtain⟨L,hL⟩:∃ L,scr G 60 true=L:=⟨_,rfl⟩;have hok:=bQ G 60 true;have hln:=YF G 60 true;rw[hL]at hok hln
 have hr:=AQ at_ 5 (by omega);obtain⟨n,hn,hn5⟩:∃ n:Nat,pick at_ 5=(n:Int)∧n<5:=⟨(pick at_ 5).toNat,by omega,by omega⟩;obtain⟨hdn,hda⟩:=cX hD;refine tIn [] func3 trivial ?_;refine tR 7 [] fun σ1 _ _=>?_;refine tC 1 (fun F C=>Tw (most:=60) (cr:=true) (h.below (CgQ.below C)) hG (by decide) (tbA hT.1 C)) fun Nz=>?_;rintro _ _ ⟨s,P,rfl,hP,hN,b2⟩;refine⟨_,Fa.ac s P::_,rfl,b2,fun F=>⟨hN.ac Nz,F⟩,?_⟩;rw[hL]at hP
 have hPl:P.length=L.length:=by rw[← hP,List.length_map]
 refine tF fun F _=>?_;have hsn:=(AcR.of F.1 hP).n;refine tR 5 [] fun σ3 _ _=>?_;refine tC 1 (fun F C=>TV hat hn) fun Nz=>?_;rintro _ _ ⟨rfl,b4⟩;refine⟨_,_,rfl,b4,id,?_⟩;refine tR 16 [] fun σ5 _ _=>?_;refine K4 165 [(1,S3.v d),(7,S3.v s),(8,iv (n:Int)),(9,sn),(10,iv 0),(11,iv 0)] [] [] [Fa.ac s P,Fa.oa 0 s30 []] (fun kk ee LL ΦΦ=>∃ (i k:Nat) (y:S3) (Q:List (Lac × S3)),kk=L.length-i∧ee=[(1,S3.v d),(7,S3.v s),(8,iv (n:Int)),(9,S3.v y),(10,iv (k:Int)),(11,iv (i:Int))]∧LL=[]∧ΦΦ=[Fa.ac s P,Fa.oa 0 y Q]∧i≤L.length∧y.n=Q.length∧Weave n (L.take i) (Q.map (·.1)) k∧k≤i∧Q.length≤i+k∧∀ a∈Q.map (·.1),LacOk a) (L.length) ⟨0,0,s30,[],rfl,rfl,rfl,rfl,by omega,rfl,.nil,by omega,by simp,fun a ha=>by cases ha⟩ (fun F=>⟨F.1,⟨OwnS.nil _ _ _ _ _ _,(fun p hp=>by cases hp)⟩,trivial⟩) ?_;rintro k _ _ _ ⟨i,k,y,Q,rfl,rfl,rfl,rfl,hi,hyn,hwv,hki,hql,hqo⟩ _ _ _ J hJ;refine tR 8 [] fun σ6 _ _=>?_;by_cases h1:i<L.length
 ·refine tI ((decide ((i:Int)<(s.n:Int)))) true (decide_eq_true (by omega)) ?_;obtain⟨⟨a,yd⟩,ha⟩:∃ a,P[i]?=some a:=⟨_,List.getElem?_eq_getElem (by omega)⟩;have haL:L[i]?=some a:=by rw[← hP,List.getElem?_map,ha];rfl
  have htk:L.take (i+1)=L.take i++[a]:=by rw[List.take_add_one,haL];rfl
  refine tF fun F _=>?_;obtain⟨b,off,hxa,_,hin⟩:=Zo F.1 ha;refine tR 11 [] fun σ7 _ _=>?_;refine Lk 165 (fun ee LL ΦΦ=>∃ (y9:S3) (Q9:List (Lac × S3)) (k9:Nat),ee=[(1,S3.v d),(7,S3.v s),(8,iv (n:Int)),(9,S3.v y9),(10,iv (k9:Int)),(11,iv (i:Int))]∧LL=[]∧ΦΦ=[Fa.ac s P,Fa.oa 0 y9 Q9]∧y9.n=Q9.length∧Weave n (L.take i) (Q9.map (·.1)) k9∧k9≤i+1∧Q9.length≤i+k9∧∀ a∈Q9.map (·.1),LacOk a) (fun J hJ=>?_) ?_
  ·by_cases h2:i<d.n
   ·refine tI ((decide ((i:Int)<(d.n:Int)))) true (decide_eq_true (by omega)) ?_;obtain⟨db,doff,hdb⟩:=hda i h2;obtain⟨u,hub,hu1,hu2⟩:=Xu hD hdb h2;have hun:=bX hu2;obtain⟨m,hm⟩:∃ m,m=min u.n 90:=⟨_,rfl⟩;obtain⟨u2,hu3,hu4⟩:=slT hu2 m (by omega);generalize hdd:(DS.getD i []).take m=dd at hu4;have hdl:dd.length≤90:=by rw[← hdd,List.length_take];omega
    refine tR 4 [13,0,2] fun σ8 _ _=>?_;refine tT 2 (pt db (doff+i)) (fun _=>(Zy hdb i h2)) ?_;refine tR 2 [8,10] fun σ9 _ _=>?_;refine tT 6 (pt db (doff+i)) (fun _=>(Zy hdb i h2)) ?_;refine Lk 165 (fun ee LL ΦΦ=>∃ (x:S3),ee=[(1,S3.v d),(7,S3.v s),(8,iv (n:Int)),(9,S3.v y),(10,iv (k:Int)),(11,iv (i:Int)),(12,S3.v x)]∧LL=[]∧ΦΦ=[Fa.sl x dd,Fa.ac s P,Fa.oa 0 y Q]) (fun J hJ=>?_) ?_
    ·refine K7 3 7 ?_ ?_
     ·refine tV 3 (S3.v u) (fun F C=>(Bh underlying27 rfl (((CgQ.below C).cell (p:=⟨db,doff+i,none⟩) hub).trans hu1))) ?_;refine tV 7 (S3.v u) (fun F C=>(Bh underlying27 rfl (((CgQ.below C).cell (p:=⟨db,doff+i,none⟩) hub).trans hu1))) ?_;refine tR 1 [16] fun σ13 _ _=>?_;refine tT 9 (iv (m:Int)) (fun _=>(ZD #[3,3] 3 u.n 90 m hm)) ?_;refine tT 10 (S3.v u2) (fun _=>(hu3 _)) ?_;refine eq 11 u2 dd 27 27 5 (.int .u8 0) (fun F C=>hu4.below (CgQ.below C)) (by omega) fun x16 _ _=>?_;refine tR 2 [24] fun σ17 _ _=>?_;exact tD hJ [] ⟨x16,rfl,rfl,rfl⟩ (fun F=>F)
     ·refine tV 7 (S3.v u) (fun F C=>(Bh underlying27 rfl (((CgQ.below C).cell (p:=⟨db,doff+i,none⟩) hub).trans hu1))) ?_;refine tR 1 [16] fun σ19 _ _=>?_;refine tT 9 (iv (m:Int)) (fun _=>(ZD #[3,3] 3 u.n 90 m hm)) ?_;refine tV 3 (S3.v u) (fun F C=>(Bh underlying27 rfl (((CgQ.below C).cell (p:=⟨db,doff+i,none⟩) hub).trans hu1))) ?_;refine tT 10 (S3.v u2) (fun _=>(hu3 _)) ?_;refine eq 11 u2 dd 27 27 5 (.int .u8 0) (fun F C=>hu4.below (CgQ.below C)) (by omega) fun x23 _ _=>?_;refine tR 2 [24] fun σ24 _ _=>?_;exact tD hJ [] ⟨x23,rfl,rfl,rfl⟩ (fun F=>F)
    rintro _ _ _ ⟨x,rfl,rfl,rfl⟩ _ _ _;refine tR 3 [] fun σ25 _ _=>?_;obtain⟨c,hc⟩:∃ c,MK dd 0=c:=⟨_,rfl⟩;obtain⟨E,hE⟩:∃ E,opE dd 0=E:=⟨_,rfl⟩;refine tC 1 (fun F C=>Yp F.1.s (tbA hT.1 C) hc hE) fun Nz=>?_;rintro _ _ ⟨rfl,b26⟩;refine⟨_,_,rfl,b26,id,?_⟩;refine tR 12 [0,0,0,0] fun σ27 _ _=>?_;by_cases h3:E≠0
    ·refine tI ((E != 0)) true (by simpa using h3) ?_;refine tR 7 [0,0] fun σ28 _ _=>?_;refine T3 5 0 (x:=y) 24 24 34 5 56 zLa ⟨(σ28 0),0,none⟩ 1 1 [iv 1,iv (n:Int),iv 0,iv 0,S3.v x] (fun F=>F.2.2.1.1) [Fa.ac s P,Fa.dt (Q++[((⟨1,(n:Int),0,0,dd⟩:Lac),x)])] (fun F=>⟨F.2.1,Dat.snoc F.2.2.1.2 (F.1),trivial⟩) rfl (by simp[TQ]) rfl (by simp[Value.oneCell']) (fun F K=>Cz K 1 (σ28 0) [iv 1,iv (n:Int),iv 0,iv 0,S3.v x] 34 .z true (by kernel_rfl)) (by unfold maxLen;omega) (by omega) fun y29 _ _ n29=>?_;refine tCv [Fa.oa 0 y29 (Q++[((⟨1,(n:Int),0,0,dd⟩:Lac),x)]),Fa.ac s P] (fun F=>⟨⟨(by rw[ES];exact F.1),F.2.2.1⟩,F.2.1,trivial⟩) ?_;refine tR 4 [] fun σ30 _ _=>?_;refine tV 1 (iv ((k:Int)+1)) (fun F C=>(AN (x:=(.tmp 59)) (y:=(.const (iv 1))) (k:Int) 1 underlying3 (by omega))) ?_;refine tR 2 [] fun σ31 _ _=>?_;exact tD hJ [false,false] ⟨y29,Q++[((⟨1,(n:Int),0,0,dd⟩:Lac),x)],k+1,rfl,rfl,rfl,(by rw[List.length_append,List.length_singleton];omega),(by rw[List.map_append];exact hwv.bad _ rfl (Int.toNat_natCast n) (by rw[hE];exact h3)),by omega,(by rw[List.length_append,List.length_singleton];omega),(fun e he=>by rw[List.map_append]at he;exact(List.mem_append.1 he).elim (hqo e) fun g=>by rw[List.mem_singleton.1 g];exact eo hn5 hdl)⟩ (fun F=>⟨F.2.1,F.1,trivial⟩)
    ·refine tI ((E != 0)) false (by simpa using h3) ?_;refine tR 1 [] fun σ32 _ _=>?_;exact tD hJ [false] ⟨y,Q,k,rfl,rfl,rfl,hyn,hwv,by omega,by omega,hqo⟩ (fun F=>⟨F.2.1,F.2.2.1,trivial⟩)
   ·refine tI ((decide ((i:Int)<(d.n:Int)))) false (decide_eq_false (by omega)) ?_;refine tR 1 [] fun σ33 _ _=>?_;exact tD hJ [] ⟨y,Q,k,rfl,rfl,rfl,hyn,hwv,by omega,by omega,hqo⟩ (fun F=>F)
  rintro _ _ _ ⟨y9,Q9,k9,rfl,rfl,rfl,hyn9,hwv9,hk9,hq9,hqo9⟩ _ _ _;refine tR 4 [] fun σ34 _ _=>?_;refine tV 3 (pt b (off+5*i)) (fun F C=>(VZ (c:=s.c) hxa i hin)) ?_;refine tF fun F _=>?_;refine tV 4 (.agg #[iv a.k,iv a.n,iv a.a,iv a.p,S3.v yd]) (fun F C=>(bF (acS F.1 hxa ha))) ?_;refine tR 1 [0,0] fun σ36 _ _=>?_;refine T3 6 0 (x:=y9) 24 24 34 5 56 zLa ⟨(σ36 0),0,none⟩ 1 1 [iv a.k,iv a.n,iv a.a,iv a.p,S3.v yd] (fun F=>F.2.1.1) [Fa.ac s P,Fa.dt (Q9++[(a,yd)])] (fun F=>⟨F.1,Dat.snoc F.2.1.2 (F.1.2 _ (List.mem_of_getElem? ha)),trivial⟩) rfl (by simp[TQ]) rfl (by simp[Value.oneCell']) (fun F K=>Cz K 0 (σ36 0) [iv a.k,iv a.n,iv a.a,iv a.p,S3.v yd] 34 .z true (by kernel_rfl)) (by unfold maxLen;omega) (by omega) fun y37 _ _ n37=>?_;refine tCv [Fa.oa 0 y37 (Q9++[(a,yd)]),Fa.ac s P] (fun F=>⟨⟨(by rw[ES];exact F.1),F.2.2.1⟩,F.2.1,trivial⟩) ?_;refine tR 5 [] fun σ38 _ _=>?_;refine tV 1 (iv ((i:Int)+1)) (fun F C=>(AN (x:=(.tmp 28)) (y:=(.const (iv 1))) (i:Int) 1 underlying3 (by omega))) ?_;refine tR 2 [] fun σ39 _ _=>?_;exact tB hJ (L.length-(i+1)) (by omega) [false] ⟨i+1,k9,y37,Q9++[(a,yd)],rfl,rfl,rfl,rfl,by omega,(by rw[List.length_append,List.length_singleton];omega),(by rw[List.map_append,htk];exact hwv9.act a),by omega,(by rw[List.length_append,List.length_singleton];omega),(fun e he=>by rw[List.map_append]at he;exact(List.mem_append.1 he).elim (hqo9 e) fun g=>by rw[List.mem_singleton.1 g];exact hok a (List.mem_of_getElem? haL))⟩ (fun F=>⟨F.2.1,F.1,trivial⟩)
 ·refine tI ((decide ((i:Int)<(s.n:Int)))) false (decide_eq_false (by omega)) ?_;obtain rfl:i=L.length:=by omega
  rw[List.take_length]at hwv
  obtain⟨f,hf1,hf2,hf3,hf4⟩:=hwv.meet;obtain⟨K,hK⟩:∃ K,Q.map (·.1)=K:=⟨_,rfl⟩;rw[hK]at hf1 hqo
  have hKl:K.length=Q.length:=by rw[← hK,List.length_map]
  obtain⟨M,hM⟩:∃ M,BN.acts L=M:=⟨_,rfl⟩;rw[hM]at hf1 hf2 hf3 hf4
  refine tR 4 [] fun σ40 _ _=>?_;refine tC 1 (fun F C=>Wc (AcR.of F.1 hP) hok (by omega) (tb5 hT C) hM) fun Nz=>?_;rintro _ _ ⟨l1,v1,y1,rfl,hW1,hO1,b41⟩;refine⟨_,Fa.ot l1 v1 y1 M::_,rfl,b41,fun F=>⟨MM hW1 hO1 Nz,F⟩,?_⟩;refine tR 10 [1,0,0,0] fun σ42 _ _=>?_;refine tC 1 (fun F C=>Wc (AcR.oo F.2.2.1 hK) hqo (by omega) (tb5 hT C) hf1) fun Nz=>?_;rintro _ _ ⟨l2,v2,y2,rfl,hW2,hO2,b43⟩;refine⟨_,[Fa.ot l2 v2 y2 (M.wb f),Fa.ot l1 v1 y1 M],rfl,b43,fun F=>⟨MM hW2 hO2 Nz,F.1,trivial⟩,?_⟩;refine tF fun F _=>?_;have n1:=ZF F.2.1.told.rd;have n2:v2.n=M.told.length:=ZF F.1.told.rd;have hmb:=(Nt L hok (by omega)).bad n hn5;rw[hM]at hmb
  refine tR 21 [1,0,1,0,53,0,2,4,6,8,10,12,14,16,0,18,20,1] fun σ44 _ _=>?_;refine tT 11 (.bool false) (fun _=>(E8 (t:=3) (m:=(M.lets.length:Int)) (n:=(M.lets.length:Int)) (x:=(.tmp 86)) (y:=(.tmp 88)) (by simp))) ?_;refine tR 8 [24,26,28,30,0,32,34,36,1,38] fun σ45 _ _=>?_;refine tT 20 (.bool false) (fun _=>(E8 (t:=3) (m:=(v1.n:Int)) (n:=(v2.n:Int)) (x:=(.tmp 94)) (y:=(.tmp 97)) (by rw[n1,n2];simp))) ?_;refine tR 6 [42,44,46,48,0,50,52,1] fun σ46 _ _=>?_;refine tT 27 (.bool false) (fun _=>(dO (x:=(.tmp 102)) (y:=(.tmp 104)) (a:=(M.node 0).up) (b:=(M.node 1).up) (c:=(M.node 2).up) (d:=(M.node 3).up) (e:=(M.node 4).up) rfl rfl rfl rfl rfl)) ?_;refine tR 4 [56,58,60,62] fun σ47 _ _=>?_;refine tT 32 (pt (σ44 0) (7+n)) (fun _=>(MR hn5)) ?_;refine tU 33 (iv (f n:Int)) (fun W hW=>Bh underlying3 rfl (YA (hW rfl) 1 (σ44 0) (EN (M.wb f) l2 v2).toList 40 .l false (by kernel_rfl) (RF (M:=M.wb f) hn5))) ?_;refine tR 2 [68,70] fun σ49 _ _=>?_;refine tT 36 (pt (σ42 0) (7+n)) (fun _=>(MR hn5)) ?_;refine tU 37 (iv ((M.node n).bad:Int)) (fun W hW=>Bh underlying3 rfl (YA (hW rfl) 0 (σ42 0) (EN M l1 v1).toList 40 .l false (by kernel_rfl) (RF hn5))) ?_;refine tT 38 (iv ((f n:Int)-((M.node n).bad:Int))) (fun _=>(bJ (x:=(.tmp 111)) (y:=(.tmp 115)) (f n:Int) ((M.node n).bad:Int) underlying3 (by omega))) ?_;refine tR 1 [78] fun σ52 _ _=>?_;refine tT 40 (.bool false) (fun _=>(rGt (t:=3) (m:=(f n:Int)-((M.node n).bad:Int)) (n:=(k:Int)) (x:=(.tmp 116)) (y:=(.tmp 117)) (decide_eq_false (by omega)))) ?_;refine tR 4 [82,84,86,88] fun σ53 _ _=>?_;refine tT 45 (pt (σ44 0) (7+n)) (fun _=>(MR hn5)) ?_;refine tU 46 (iv (f n:Int)) (fun W hW=>Bh underlying3 rfl (YA (hW rfl) 1 (σ44 0) (EN (M.wb f) l2 v2).toList 40 .l false (by kernel_rfl) (RF (M:=M.wb f) hn5))) ?_;refine tR 2 [94,96] fun σ55 _ _=>?_;refine tT 49 (pt (σ42 0) (7+n)) (fun _=>(MR hn5)) ?_;refine tU 50 (iv ((M.node n).bad:Int)) (fun W hW=>Bh underlying3 rfl (YA (hW rfl) 0 (σ42 0) (EN M l1 v1).toList 40 .l false (by kernel_rfl) (RF hn5))) ?_;refine tT 51 (.bool false) (fun _=>(rLt (t:=3) (m:=(f n:Int)) (n:=((M.node n).bad:Int)) (x:=(.tmp 124)) (y:=(.tmp 128)) (decide_eq_false (by omega)))) ?_;refine tR 10 [104] fun σ58 _ _=>?_;have e1:=(MN F.2.1).n5;have hNl:∀ j,j<5→(M.log j).length≤40:=fun j hj=>by
   have h1:=((Nt L hok (by omega)).node j hj).ag;rw[hM]at h1
   unfold Meet.log;rw[List.length_take];omega
  refine K4 165 [(15,pt (σ42 0) 0),(17,pt (σ44 0) 0),(19,iv 0)] [true,true] [⟨(σ42 0),.cells #[iv (M.lets.length:Int),.bool (M.node 0).up,.bool (M.node 1).up,.bool (M.node 2).up,.bool (M.node 3).up,.bool (M.node 4).up,S3.v l1,iv ((M.node 0).bad:Int),iv ((M.node 1).bad:Int),iv ((M.node 2).bad:Int),iv ((M.node 3).bad:Int),iv ((M.node 4).bad:Int),S3.v v1] 40,.l,false⟩,⟨(σ44 0),.cells #[iv ((M.wb f).lets.length:Int),.bool ((M.wb f).node 0).up,.bool ((M.wb f).node 1).up,.bool ((M.wb f).node 2).up,.bool ((M.wb f).node 3).up,.bool ((M.wb f).node 4).up,S3.v l2,iv (((M.wb f).node 0).bad:Int),iv (((M.wb f).node 1).bad:Int),iv (((M.wb f).node 2).bad:Int),iv (((M.wb f).node 3).bad:Int),iv (((M.wb f).node 4).bad:Int),S3.v v2] 40,.l,false⟩] [Fa.ot l1 v1 y1 M,Fa.ot l2 v2 y2 (M.wb f)] (fun kk ee LL ΦΦ=>∃ (i:Nat),kk=5-i∧ee=[(15,pt (σ42 0) 0),(17,pt (σ44 0) 0),(19,iv (i:Int))]∧LL=[⟨(σ42 0),.cells (EN M l1 v1) 40,.l,false⟩,⟨(σ44 0),.cells (EN (M.wb f) l2 v2) 40,.l,false⟩]∧ΦΦ=[Fa.ot l1 v1 y1 M,Fa.ot l2 v2 y2 (M.wb f)]∧i≤5) (5) ⟨0,rfl,rfl,rfl,rfl,by omega⟩ (fun F=>⟨F.2.1,F.1,trivial⟩) ?_;rintro k _ _ _ ⟨i,rfl,rfl,rfl,rfl,hi⟩ _ _ _ J hJ;refine tR 9 [0] fun σ59 _ _=>?_;by_cases h1:i<5
  ·refine tI ((decide ((i:Int)<(l1.n:Int)))) true (decide_eq_true (by omega)) ?_;refine tF fun F _=>?_;have e2:=(MN F.2.1).n5;obtain⟨b3,f3,a3,_⟩:=F.1.logs.rd.spot (i:=i) (by omega);obtain⟨b4,f4,a4,_⟩:=F.2.1.logs.rd.spot (i:=i) (by omega);have g3:=X0 (F.1.log i (by omega)).rd;have g4:(y2 i).n=(M.log i).length:=X0 (F.2.1.log i (by omega)).rd;refine tR 8 [24,0,2,0,4] fun σ60 _ _=>?_;refine tT 3 (pt b3 (f3+i)) (fun _=>(LS a3 i (by omega))) ?_;refine tR 3 [12,14,1,16] fun σ61 _ _=>?_;refine tT 9 (pt b4 (f4+i)) (fun _=>(LS a4 i (by omega))) ?_;refine Lk 165 (fun ee LL ΦΦ=>∃ (_:Unit),ee=[(15,pt (σ42 0) 0),(17,pt (σ44 0) 0),(19,iv (i:Int)),(164,.bool false)]∧LL=[⟨(σ42 0),.cells (EN M l1 v1) 40,.l,false⟩,⟨(σ44 0),.cells (EN (M.wb f) l2 v2) 40,.l,false⟩]∧ΦΦ=[Fa.ot l1 v1 y1 M,Fa.ot l2 v2 y2 (M.wb f)]) (fun J hJ=>?_) ?_
   ·refine K7 4 10 ?_ ?_
    ·refine tV 4 (S3.v (y1 i)) (fun F C=>(Bh underlying43 rfl (Ch F.1.logs.rd a3 (by omega)))) ?_;refine tR 1 [10] fun σ64 _ _=>?_;refine tV 10 (S3.v (y2 i)) (fun F C=>(Bh underlying43 rfl (Ch F.2.1.logs.rd a4 (by omega)))) ?_;refine tR 1 [22] fun σ65 _ _=>?_;refine tT 12 (.bool false) (fun _=>(E8 (t:=3) (m:=((y1 i).n:Int)) (n:=((y2 i).n:Int)) (x:=(.tmp 143)) (y:=(.tmp 149)) (by rw[g3,g4];simp))) ?_;refine tR 4 [26,28,30,0,32] fun σ66 _ _=>?_;refine tT 17 (pt b3 (f3+i)) (fun _=>(LS a3 i (by omega))) ?_;refine tR 3 [38,40,1,42] fun σ67 _ _=>?_;refine tT 22 (pt b4 (f4+i)) (fun _=>(LS a4 i (by omega))) ?_;refine K7 18 23 ?_ ?_
     ·refine tV 18 (S3.v (y1 i)) (fun F C=>(Bh underlying43 rfl (Ch F.1.logs.rd a3 (by omega)))) ?_;refine tV 23 (S3.v (y2 i)) (fun F C=>(Bh underlying43 rfl (Ch F.2.1.logs.rd a4 (by omega)))) ?_;refine tC 24 (fun F C=>G3 (F.1.log i (by omega)).rd (F.2.1.log i (by omega)).rd (by have:=hNl i (by omega);omega) (G4 (M.log i))) fun Nz=>?_;rintro _ _ ⟨rfl,b72⟩;refine⟨_,_,rfl,b72,id,?_⟩;refine tR 3 [50,52] fun σ73 _ _=>?_;exact tD hJ [true,true] ⟨(),rfl,rfl,rfl⟩ (fun F=>⟨F.1,F.2.1,trivial⟩)
     ·refine tV 23 (S3.v (y2 i)) (fun F C=>(Bh underlying43 rfl (Ch F.2.1.logs.rd a4 (by omega)))) ?_;refine tV 18 (S3.v (y1 i)) (fun F C=>(Bh underlying43 rfl (Ch F.1.logs.rd a3 (by omega)))) ?_;refine tC 24 (fun F C=>G3 (F.1.log i (by omega)).rd (F.2.1.log i (by omega)).rd (by have:=hNl i (by omega);omega) (G4 (M.log i))) fun Nz=>?_;rintro _ _ ⟨rfl,b77⟩;refine⟨_,_,rfl,b77,id,?_⟩;refine tR 3 [50,52] fun σ78 _ _=>?_;exact tD hJ [true,true] ⟨(),rfl,rfl,rfl⟩ (fun F=>⟨F.1,F.2.1,trivial⟩)
    ·refine tV 10 (S3.v (y2 i)) (fun F C=>(Bh underlying43 rfl (Ch F.2.1.logs.rd a4 (by omega)))) ?_;refine tR 1 [22] fun σ80 _ _=>?_;refine tV 4 (S3.v (y1 i)) (fun F C=>(Bh underlying43 rfl (Ch F.1.logs.rd a3 (by omega)))) ?_;refine tR 1 [10] fun σ81 _ _=>?_;refine tT 12 (.bool false) (fun _=>(E8 (t:=3) (m:=((y1 i).n:Int)) (n:=((y2 i).n:Int)) (x:=(.tmp 143)) (y:=(.tmp 149)) (by rw[g3,g4];simp))) ?_;refine tR 4 [26,28,30,0,32] fun σ82 _ _=>?_;refine tT 17 (pt b3 (f3+i)) (fun _=>(LS a3 i (by omega))) ?_;refine tR 3 [38,40,1,42] fun σ83 _ _=>?_;refine tT 22 (pt b4 (f4+i)) (fun _=>(LS a4 i (by omega))) ?_;refine K7 18 23 ?_ ?_
     ·refine tV 18 (S3.v (y1 i)) (fun F C=>(Bh underlying43 rfl (Ch F.1.logs.rd a3 (by omega)))) ?_;refine tV 23 (S3.v (y2 i)) (fun F C=>(Bh underlying43 rfl (Ch F.2.1.logs.rd a4 (by omega)))) ?_;refine tC 24 (fun F C=>G3 (F.1.log i (by omega)).rd (F.2.1.log i (by omega)).rd (by have:=hNl i (by omega);omega) (G4 (M.log i))) fun Nz=>?_;rintro _ _ ⟨rfl,b88⟩;refine⟨_,_,rfl,b88,id,?_⟩;refine tR 3 [50,52] fun σ89 _ _=>?_;exact tD hJ [true,true] ⟨(),rfl,rfl,rfl⟩ (fun F=>⟨F.1,F.2.1,trivial⟩)
     ·refine tV 23 (S3.v (y2 i)) (fun F C=>(Bh underlying43 rfl (Ch F.2.1.logs.rd a4 (by omega)))) ?_;refine tV 18 (S3.v (y1 i)) (fun F C=>(Bh underlying43 rfl (Ch F.1.logs.rd a3 (by omega)))) ?_;refine tC 24 (fun F C=>G3 (F.1.log i (by omega)).rd (F.2.1.log i (by omega)).rd (by have:=hNl i (by omega);omega) (G4 (M.log i))) fun Nz=>?_;rintro _ _ ⟨rfl,b93⟩;refine⟨_,_,rfl,b93,id,?_⟩;refine tR 3 [50,52] fun σ94 _ _=>?_;exact tD hJ [true,true] ⟨(),rfl,rfl,rfl⟩ (fun F=>⟨F.1,F.2.1,trivial⟩)
   rintro _ _ _ ⟨_,rfl,rfl,rfl⟩ _ _ _;refine tR 5 [] fun σ95 _ _=>?_;refine tV 1 (iv ((i:Int)+1)) (fun F C=>(AN (x:=(.tmp 136)) (y:=(.const (iv 1))) (i:Int) 1 underlying3 (by omega))) ?_;refine tR 2 [] fun σ96 _ _=>?_;exact tB hJ (5-(i+1)) (by omega) [true,true] ⟨i+1,rfl,rfl,rfl,rfl,by omega⟩ (fun F=>⟨F.1,F.2.1,trivial⟩)
  ·refine tI ((decide ((i:Int)<(l1.n:Int)))) false (decide_eq_false (by omega)) ?_;refine tR 5 [] fun σ97 _ _=>?_;exact tE (.bool true) fun _ B=>⟨rfl,B⟩
end Go.Proofs.YtaeckakjdagddaaGreatDoor
