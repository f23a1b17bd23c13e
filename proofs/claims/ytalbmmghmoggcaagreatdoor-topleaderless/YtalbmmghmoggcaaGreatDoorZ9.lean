/- Part 9 of the walk. -/
import Derived.Test.YtalbmmghmoggcaaGreatDoorZ8
set_option maxRecDepth 100000
set_option maxHeartbeats 4000000
open Go.Proofs.Tryz
set_option linter.unusedVariables false
namespace Go.Proofs.YtalbmmghmoggcaaGreatDoor
open Go.RowKit
def dif(la lb:List Int):Nat->Int
 | 0=>0
 | k+1=>bits .or .u8 (dif la lb k) (bits .xor .u8 (la.getD k 0) (lb.getD k 0))
theorem fe{a b:Nat}:a ||| b=0↔a=0/\b=0:=by
 constructor
 .intro h;have h1:∀ i,(a ||| b).testBit i=false:=by intro i;rw[h];simp
  constructor
  .apply Nat.eq_of_testBit_eq;intro i;have:=h1 i;rw[Nat.testBit_or]at this;simp at this;simp[this.1]
  .apply Nat.eq_of_testBit_eq;intro i;have:=h1 i;rw[Nat.testBit_or]at this;simp at this;simp[this.2]
 .rintro⟨rfl,rfl⟩;rfl
theorem eX{a b:Nat}:a ^^^ b=0↔a=b:=by
 constructor
 .intro h;have h1:∀ i,(a ^^^ b).testBit i=false:=by intro i;rw[h];simp
  apply Nat.eq_of_testBit_eq;intro i;have:=h1 i;rw[Nat.testBit_xor]at this;simpa using this
 .rintro rfl;simp
theorem UO{la lb:List Int}(ha:∀ x∈la,0<=x/\x<256)(hb:∀ x∈lb,0<=x/\x<256)(k:Nat) :
  0<=dif la lb k/\dif la lb k<256/\(dif la lb k=0↔∀ i,i<k->la.getD i 0=lb.getD i 0):=by
 induction k with
 | zero=>simp[dif]
 | succ k ih =>
  obtain⟨h1,h2,h3⟩:=ih;have hx:=Aj ha k;have hy:=Aj hb k;have e1:=u8_xor _ _ hx.1 hx.2 hy.1 hy.2;have hlt:(la.getD k 0).toNat ^^^ (lb.getD k 0).toNat<256:=Nat.xor_lt_two_pow (n:=8) (by omega) (by omega);have e2:=u8_or (dif la lb k) (((la.getD k 0).toNat ^^^ (lb.getD k 0).toNat:Nat):Int) h1 h2 (by omega) (by omega);have e3:dif la lb (k+1)=(((dif la lb k).toNat ||| ((la.getD k 0).toNat ^^^ (lb.getD k 0).toNat):Nat):Int):=by
   show bits .or .u8 (dif la lb k) (bits .xor .u8 (la.getD k 0) (lb.getD k 0))=_;rw[e1,e2];simp
  have hlt2:(dif la lb k).toNat ||| ((la.getD k 0).toNat ^^^ (lb.getD k 0).toNat)<256:=Nat.or_lt_two_pow (n:=8) (by omega) hlt;refine⟨by rw[e3];omega,by rw[e3];omega,?_⟩;have e4:dif la lb (k+1)=0↔dif la lb k=0/\la.getD k 0=lb.getD k 0:=by
   rw[e3];have:=@fe (dif la lb k).toNat ((la.getD k 0).toNat ^^^ (lb.getD k 0).toNat);have h5:=@eX (la.getD k 0).toNat (lb.getD k 0).toNat;rw[h5]at this
   constructor
   .intro h;have:=this.1 (by omega);omega
   .intro h;have:=this.2 (by omega);omega
  rw[e4,h3];constructor
  .intro h i hi;rcases Nat.lt_or_ge i k with h'|h'
   .exact h.1 i h'
   .obtain rfl:i=k:=by omega
    exact h.2
  .intro h;exact⟨fun i hi=>h i (by omega),h k (by omega)⟩
theorem XM{la lb:List Int}(ha:∀ x∈la,0<=x/\x<256)(hb:∀ x∈lb,0<=x/\x<256)(hl:la.length=lb.length):(dif la lb lb.length==0)=decide (la=lb):=by
 rw[Bool.eq_iff_iff,decide_eq_true_iff,beq_iff_eq,(UO ha hb _).2.2];constructor
 .intro h;apply List.ext_getElem hl;intro i h1 h2;have:=h i h2
  rwa [AK h1,AK h2]at this
 .rintro rfl _ _;rfl
theorem Hd(va vb:Value)(la lb:List Int)(w:World)(ha:Sl w va la)(hb:Sl w vb lb) :
  Calls prog 158 #[va,vb] w fun e w'=>e=.returned (.bool (decide (la=lb)))/\∃ n,w'=w.drewN n:=by
 obtain⟨⟨a,cap,rfl,hc,hn,h1⟩,hla,hba⟩:=ha;obtain⟨⟨b,cap',rfl,hc',hn',h1'⟩,hlb,hbb⟩:=hb;by_cases hl:la.length=lb.length
 .rcases h1 with rfl|⟨ba,oa,rfl,_,hca⟩
  .obtain rfl:lb=[]:=List.eq_nil_of_length_eq_zero (by simpa using hl.symm);go_enter func158,ntmps158
   go_wp2
   refine wp_loop_rounds 1 ?_;rw[rounds_succ];go_wp2
   go_ret;exact⟨rfl,0,rfl⟩
  .rcases h1' with rfl|⟨bb,ob,rfl,_,hcb⟩
   .obtain rfl:la=[]:=List.eq_nil_of_length_eq_zero (by simpa using hl);go_enter func158,ntmps158
    go_wp2
    refine wp_loop_rounds 1 ?_;rw[rounds_succ];go_wp2
    go_ret;exact⟨rfl,0,rfl⟩
   .have HD:Hid ((dif la lb lb.length==0)=decide (la=lb)):=XM hba hbb hl;go_enter func158,ntmps158
    go_wp2
    go_loopw [5,14] (fun d i wr=>∃ k n:Nat,k<=lb.length/\i=.int .i64 k/\d=.int .u8 (dif la lb k)/\wr=w.drewN n) (fun _ i _=>lb.length-(intOf i).toNat)
    case atStart=>exact⟨0,0,Nat.zero_le _,rfl,rfl,rfl⟩
    case round =>
     obtain⟨k,n,hk,rfl,rfl,rfl⟩:=hrel;by_cases hlt:k<lb.length
     .have hx:=hca k (by omega);have hy:=hcb k hlt;clear hca hcb hba hbb;have hka:k<la.length:=by omega
      go_wp2
      go_quiet (fail)
      go_wp2
      go_roundw
      case rel=>exact⟨k+1,_,by omega,by go_num,by simp only[dif,AK hka,AK hlt],rfl⟩
      case measure=>simp[intOf];omega
     .obtain rfl:k=lb.length:=by omega
      clear hca hcb;go_wp2
      go_ret;exact⟨Ac HD.out,n,rfl⟩
 .have hne:((la.length:Int)==(lb.length:Int))=false:=by simp;omega
  have hdd:decide (la=lb)=false:=decide_eq_false (fun e=>hl (by rw[e]));go_enter func158,ntmps158
  go_wp2
  go_ret;exact⟨Ac hdd.symm,0,rfl⟩
theorem Mg(v:Value)(l:List Int)(w:World)(h:Sl w v l)(hl:l.length<=2000)(ht:AA w) :
  Calls prog 165 #[v] w fun e w'=>∃ a c,e=.returned (.tuple #[.slice a 4 c,.int .i64 0])/\Sl w' (.slice a 4 c) ((dig l).take 4)/\Bw w w':=by
 go_enter func165,ntmps165
 go_wp2_with fail
 refine(cR v l w h hl ht).mono ?_;rintro e w1 ⟨y,rfl,f1⟩;obtain⟨g,cap,hy,hg,hcap⟩:=f1.shape;rw[Ay]at hy hcap
 subst hy;obtain⟨a4,c4,r4,s4⟩:=f1.sl.upTo 4 (by rw[Ay];decide);have b1:=f1.bel;clear f1;have hcap4:(4:Int)<=(cap:Int):=by omega
 replace r4:∀ W,(Instr.slice 25 (.slice (some ⟨g,0,none⟩) 32 cap) none (some (.int .i64 4)) none).run prog W=.ok (.slice a4 4 c4) W:=r4;go_wp2
 go_ret2
 exact⟨a4,c4,rfl,s4,b1⟩
theorem Le(v:Value)(r:List Int)(w:World)(h:Sl w v r)(ht:AA w){u:World}(hu:Sl u v r) :
  Calls prog 140 #[v] w fun e w'=>∃ a n c,e=.returned (.tuple #[.slice a n c,.bool (fbO r).isSome])/\Sl u (.slice a n c) ((fbO r).getD [])/\Bw w w':=by
 have hlen:=h.len;have hx:=Aj h.byte 0;obtain⟨ax,cp,rfl⟩:=h.shapeT;by_cases h0:r=[]
 .subst h0;have HO:Hid (fbO []=none):=if_pos rfl;rw[HO.out];go_enter func140,ntmps140
  go_wp2
  go_ret2
  exact⟨none,0,0,rfl,Sl.nil _ _,Below.refl _ _⟩
 .have hp:0<r.length:=by
   rcases Nat.eq_zero_or_pos r.length with g|g
   .exact absurd (List.eq_nil_of_length_eq_zero g) h0
   .exact g
  obtain⟨bd,od,rfl,hbd,hc⟩:=h.spotO 0 hp;obtain⟨x,hx0⟩:∃ x:Nat,r.getD 0 0=(x:Int):=⟨(r.getD 0 0).toNat,by omega⟩;have hxn:(r.getD 0 0).toNat=x:=by rw[hx0];exact Int.toNat_natCast _
  rw[hx0]at hc hx
  obtain⟨M,hM⟩:∃ M,r.length=M:=⟨_,rfl⟩;have HM:Hid (r.length=M):=hM;have HX:Hid ((r.getD 0 0).toNat=x):=hxn;have hz:(0:Int)<(M:Int):=by omega
  have hne:((M:Int)==0)=false:=by simp;omega
  rw[hM]at h hu hlen hp ⊢
  have hx2:x<256:=by omega
  have H0:Hid (¬ r=[]):=h0;clear hM hx0 hxn hx h0;rw[Nat.add_zero]at hc
  by_cases h1:M<x+5
  .have HO:Hid (fbO r=none):=by
    unfold Hid fbO;rw[if_neg H0.out,HX.out,HM.out,if_pos h1]
   rw[HO.out];have h1i:(M:Int)<1+(x:Int)+4:=by omega
   clear H0 HX;go_enter func140,ntmps140
   go_wp2
   go_ret2
   exact⟨none,0,0,rfl,Sl.nil _ _,Below.refl _ _⟩
  .have h1i:¬ (M:Int)<1+(x:Int)+4:=by omega
   obtain⟨E,hE⟩:∃ E:Nat,E=x+1:=⟨_,rfl⟩;have HE:Hid (E=x+1):=hE;have hEi:1+(x:Int)=(E:Int):=by omega
   have hE2:E+4<=M:=by omega
   have hE3:E<=256:=by omega
   have hE4:1<=E:=by omega
   rw[hEi]at h1i
   obtain⟨au,cu,ru,su⟩:=h.upTo E (by rw[HM.out];omega);obtain⟨af,cf,rf,sf⟩:=h.cutT E (E+4) 4 (by omega) (by rw[HM.out];omega) (by omega) (E:Int) ((E:Int)+4) rfl (by omega);obtain⟨ab,cb,rb,sb⟩:=hu.cutT 1 E x hE4 (by rw[HM.out];omega) (by omega) 1 (E:Int) rfl rfl;have hl:(r.take E).length=E:=by rw[List.length_take,HM.out];omega
   have HF:Hid ((r.take (E+4)).drop E=(r.drop E).take 4):=by unfold Hid;rw[List.drop_take,show E+4-E=4 by omega]
   rw[HF.out]at sf
   clear hE h1 hE4 HF;go_enter func140,ntmps140
   go_wp2_with fail
   refine(Mg (.slice au E cu) (r.take E) w su (by omega) ht).mono ?_;rintro e w1 ⟨ag,cg,rfl,sg,b1⟩;have sf1:=sf.below b1;have sb1:=sb;clear su sf sb ru hc hbd hl;go_wp2_with fail
   refine(Hd (.slice ag 4 cg) (.slice af 4 cf) ((dig (r.take E)).take 4) ((r.drop E).take 4) w1 sg sf1).mono ?_;rintro e w2 ⟨rfl,n2,hw2⟩;have b2:Bw w1 w2:=by rw[hw2];exact An (Below.refl _ _) n2
   clear hw2;have d2:=b1.trans (b2.mono b1.size);have sb2:=sb1;clear b1 b2 sb1 sg sf1 rf;by_cases h2:(dig (r.take E)).take 4=(r.drop E).take 4
   .have HO:Hid (fbO r=some ((r.take E).drop 1)):=by
     unfold Hid fbO;have:=HE.out;rw[if_neg H0.out,HX.out,HM.out,if_neg (by omega),<- this,if_neg (fun g=>g h2)]
    rw[decide_eq_true h2];clear h2 H0 HX HE;go_wp2
    go_ret2
    rw[HO.out];exact⟨ab,x,cb,rfl,sb2,d2⟩
   .have HO:Hid (fbO r=none):=by
     unfold Hid fbO;have:=HE.out;rw[if_neg H0.out,HX.out,HM.out,if_neg (by omega),<- this,if_pos h2]
    rw[decide_eq_false h2];clear h2 H0 HX HE sb2;go_wp2
    go_ret2
    rw[HO.out];exact⟨none,0,0,rfl,Sl.nil _ _,d2⟩
theorem MO(v:Value)(b:List Int)(w:World)(h:Sl w v b)(hb:b.length<=255)(ht:AA w) :
  Calls prog 161 #[v] w fun e w'=>∃ y,e=.returned (.tuple #[y,.int .i64 0])/\w'.ownsRow w.heap.size 5 1 y (BH b).length ((BH b).map (Value.int .u8))/\Bw w w':=by
 obtain⟨ax,cp,rfl⟩:=h.shapeT;obtain⟨N,hN⟩:∃ N,b.length=N:=⟨_,rfl⟩;have HN:Hid (b.length=N):=hN;have HR:Hid (D9 b++(dig (D9 b)).take 4=BH b):=rfl;have HF:Hid ([(N:Int)]++b=D9 b):=by unfold Hid D9;rw[hN];rfl
 have HFB:Hid ((D9 b).length=N+1/\∀ x∈D9 b,0<=x/\x<256):=⟨by rw[GJ,hN],JU h.byte hb⟩;rw[hN]at h hb ⊢
 have hwr:(N:Int)%256=(N:Int):=by omega
 have hll:[(N:Int)].length+b.length<=140737488355328:=by rw[hN];simp;omega
 clear hN;obtain⟨W1,hW1⟩:∃ W1,w.alloc (.cells #[.int .u8 (N:Int)] 5)=W1:=⟨_,rfl⟩;have b1:Bw w W1:=by rw[<- hW1];exact BD _ _
 have o1:W1.ownsRow w.heap.size 5 1 (.slice (some ⟨w.heap.size,0,none⟩) 1 1) [(N:Int)].length ([(N:Int)].map (Value.int .u8)):=by rw[<- hW1];exact It w N N 5 rfl (Nat.le_refl _) rfl
 have h1:=h.below b1;go_enter func161,ntmps161
 go_wp2_with (at_builtin;refine Aa _ rfl _ _ 25 rfl w.heap.size 5 underlying25 As _ _ rfl rfl [(N:Int)] b o1 h1 hll b1.size ?_)
 clear hW1;intro v2 w2 o2 g2;have hlt1:=o1.lt;have b2:Bw w w2:=b1.grown g2 b1.size (fun k hk=>(hlt1 k hk).1);replace o2:w2.ownsRow w.heap.size 5 1 v2 ([(N:Int)]++b).length (([(N:Int)]++b).map (Value.int .u8)):=by simpa using o2
 rw[HF.out]at o2
 have s2:=Sl.ofOwns o2 (by rw[HFB.out.1];omega) HFB.out.2;have hfl:(D9 b).length<=2000:=by rw[HFB.out.1];omega
 have hfd:(D9 b).length+((dig (D9 b)).take 4).length<=140737488355328:=by rw[HFB.out.1,List.length_take,Ay];omega
 clear o1 g2 hlt1 HF hll h1;generalize hFr:D9 b=F at o2 s2 hfl hfd HR;have HO2:Hid (w2.ownsRow w.heap.size 5 1 v2 F.length (F.map (Value.int .u8))):=o2;clear o2 hFr HFB;go_wp2_with fail
 refine(Mg v2 F w2 s2 hfl (ht.below b2)).mono ?_;rintro e w3 ⟨a4,c4,rfl,s4,b3⟩;have d3:=b2.trans (b3.mono b2.size);have HO3:Hid (w3.ownsRow w.heap.size 5 1 v2 F.length (F.map (Value.int .u8))):=CL HO2.out (fun k hk=>b3.block k (HO2.out.lt k hk).2);have hlt:=HO3.out.lt;generalize hD:(dig F).take 4=D at s4 HR hfd;clear HO2 b3 hD s2;have hz3:=d3.size;go_wp2_with (at_builtin;refine Aa _ rfl _ _ 25 rfl w.heap.size 5 underlying25 As _ _ rfl rfl F D HO3.out s4 hfd hz3 ?_)
 intro v5 w5 o5 g5;have d5:Bw w w5:=d3.grown g5 d3.size (fun k hk=>(hlt k hk).1);have HO5:Hid (w5.ownsRow w.heap.size 5 1 v5 (BH b).length ((BH b).map (Value.int .u8))):=by
  unfold Hid;rw[<- HR.out];simpa using o5
 clear o5 g5 HO3 hlt s4;go_wp2
 go_ret2
 exact⟨_,rfl,HO5.out,d5⟩
section
variable{P:Program}{md:Region.Mode}{ops:Array Oper}{Q:Exit->Act->World->Prop}{S:World->Prop}
theorem Tm{i d:Nat}{o:Oper}{a:Act}{w:World}{K:Act->World->Prop}(ho:ops[i]?=some o)(hw:Region.wanted o (yielded ops a.tmps)=true)(hd:o.dst=some d)(s x:Operand)(t:TypeId)
  (hop:o.op=.call { callee:=.builtin .append,args:=#[s,x],argTypes:=#[t,t] })
  (base e:Nat)(ht:P.underlying t=some (.slice e))(hinfo:(P.info? e).map (fun i=>(i.zero,i.size,i.bytes))=some (some (.int .u8 0),1,1))
  (v u:Value)(hs:a.eval s=v)(hx:a.eval x=u)(l m:List Int)(hown:w.ownsRow base e 1 v l.length (l.map (Value.int .u8)))(hu:Sl w u m)
  (hlen:l.length+m.length<=140737488355328)(hbase:base<=w.heap.size)
  (h:∀ v' w',w'.ownsRow base e 1 v' (l++m).length ((l++m).map (Value.int .u8))->w.grownBy w' v.ownBlock->K (a.put (some d) v') w'):wpOp P ops Q i K a w :=
 wpOp_step ho fun K' hK=>by
  rw[if_pos hw];obtain⟨v',w',hrun,r1,r2⟩:=FY (P:=P) w base t o.type e ht hinfo v l hown u m hu hlen hbase;unfold Oper.wp execOp;simp only[hop,resolve,invoke,builtin,Sem.run_bind,Sem.run_pure,Result.andThen_ok,List.map_toArray,List.map_cons,List.map_nil,hs,hx,hrun];exact hK _ _ (by rw[hd];exact h v' w' r1 r2)
end
theorem FR(x:Value)(d:List Int)(s:Int)(k:Nat)(hk:k<=1000)(w:World)(h:Sl w x d) :
  Calls prog 133 #[.agg (tpA x s),.int .i64 (k:Int)] w fun e w'=>e=.returned (.int .i64 (Gv d s k))/\Bw w w':=by
 have hlen:=h.len;obtain⟨ax,cp,rfl⟩:=h.shapeT;obtain⟨M,hM⟩:∃ M,d.length=M:=⟨_,rfl⟩;have HM:Hid (d.length=M):=hM;rw[hM]at h hlen ⊢
 clear hM;simp only[tpA];obtain⟨W0,hW0⟩:∃ W0,w.alloc (.cells #[.slice ax M cp,.int .i64 s] 94)=W0:=⟨_,rfl⟩;have r0_p:W0.heap[w.heap.size]?=some (.cells #[.slice ax M cp,.int .i64 s] 94):=by rw[<- hW0];exact D2 _ _
 have bb:Bw w W0:=by rw[<- hW0];exact BD _ _
 have l0_p:w.heap.size<W0.heap.size:=(Array.getElem?_eq_some_iff.1 r0_p).1;have sl0_x:=h.below bb;go_enter func133,ntmps133
 go_wp2_with ((with_reducible (refine DV ?_));(refine wpList_load_row rfl 94 _ rfl w.heap.size rfl 94 _ (0,0) _ r0_p underlying94 rfl KH ?_))
 clear hW0;refine(Kh (.slice ax M cp) d s W0 sl0_x).mono ?_;rintro e w1 ⟨rfl,bw1⟩;have d1:=bb.trans (bw1.mono bb.size);have rw1_p:=(bw1.block _ l0_p).trans r0_p;have lw1_p:=Nat.lt_of_lt_of_le l0_p bw1.size;have sl1_x:=sl0_x.below bw1;clear l0_p r0_p sl0_x;clear bw1;by_cases h1:Bf d s
 .rw[decide_eq_true h1];have hM1:M<=100000:=by rw[<- HM.out];exact h1.1
  have d9:=d1;by_cases h2:100000<M+k
  .have h2i:(100000:Int)<(M:Int)+(k:Int):=by omega
   have HE:Hid (Gv d s k=8):=by unfold Hid Gv;rw[if_neg (fun g=>g h1),HM.out,if_pos h2]
   clear h1 h2;have cc1_p0:w1.cell? ⟨w.heap.size,0,none⟩=some (.slice ax M cp):=cell_of_row _ _ 0 _ _ _ rw1_p;have cc1_p1:w1.cell? ⟨w.heap.size,1,none⟩=some (.int .i64 s):=cell_of_row _ _ 1 _ _ _ rw1_p;go_wp2
   go_ret;exact⟨by rw[HE.out];rfl,d9⟩
  .have h2i:¬ (100000:Int)<(M:Int)+(k:Int):=by omega
   have HE:Hid (Gv d s k=0):=by unfold Hid Gv;rw[if_neg (fun g=>g h1),HM.out,if_neg h2]
   clear h1 h2;have cc1_p0:w1.cell? ⟨w.heap.size,0,none⟩=some (.slice ax M cp):=cell_of_row _ _ 0 _ _ _ rw1_p;have cc1_p1:w1.cell? ⟨w.heap.size,1,none⟩=some (.int .i64 s):=cell_of_row _ _ 1 _ _ _ rw1_p;go_wp2
   go_ret;exact⟨by rw[HE.out];rfl,d9⟩
 .rw[decide_eq_false h1];have HE:Hid (Gv d s k=5):=if_pos h1;clear h1;have d9:=d1;go_wp2
  go_ret;exact⟨by rw[HE.out];rfl,d9⟩
theorem KO(x:Value)(d:List Int)(s:Int)(v:Value)(b:List Int)(w:World)(h:Sl w x d)(hv:Sl w v b)(hb:b.length<=255)(hd:d.length<=100000)(ht:AA w) :
  Calls prog 134 #[.agg (tpA x s),v] w fun e w'=>∃ y,e=.returned (.tuple #[.agg (tpA y s),.int .i64 0])/\w'.ownsRow w.heap.size 5 1 y (d++BH b).length ((d++BH b).map (Value.int .u8))/\Bw w w':=by
 have HD:Hid (∀ x∈d,0<=x/\x<256):=h.byte;have HRB:Hid (∀ x∈BH b,0<=x/\x<256):=K3 hv.byte hb;have hrl:(BH b).length<=260:=by rw[E9];omega
 have hlen:=h.len;obtain⟨ax,cp,rfl⟩:=h.shapeT;obtain⟨M,hM⟩:∃ M,d.length=M:=⟨_,rfl⟩;have HM:Hid (d.length=M):=hM;rw[hM]at h hlen ⊢
 clear hM;simp only[tpA];rw[HM.out]at hd
 obtain⟨i0,hi0,hz0,hz1,hz2⟩:=info_parts As;obtain⟨W0,hW0⟩:∃ W0,(w.alloc (.cells #[.slice ax M cp,.int .i64 s] 94)).alloc (.cells #[.slice none 0 0,.int .i64 0] 94)=W0:=⟨_,rfl⟩;have r0_p:W0.heap[w.heap.size]?=some (.cells #[.slice ax M cp,.int .i64 s] 94):=by rw[<- hW0];exact QX _ _ _
 have r0_r:W0.heap[w.heap.size+1]?=some (.cells #[.slice none 0 0,.int .i64 0] 94):=by rw[<- hW0];exact QY _ _ _
 have bb:Bw w W0:=by rw[<- hW0];exact TI _ _ _
 have l0_p:w.heap.size<W0.heap.size:=(Array.getElem?_eq_some_iff.1 r0_p).1;have l0_r:(w.heap.size+1)<W0.heap.size:=(Array.getElem?_eq_some_iff.1 r0_r).1;have t0_0:=ht.below bb;have sl0_x:=h.below bb;have sl0_v:=hv.below bb;go_enter func134,ntmps134
 go_wp2_with fail
 clear hW0;refine(MO v b W0 sl0_v hb t0_0).mono ?_;rintro e w1 ⟨y,rfl,oy,bw1⟩;obtain⟨R,hR⟩:∃ R,BH b=R:=⟨_,rfl⟩;rw[hR]at oy hrl HRB
 have HR:Hid (BH b=R):=hR;clear hR;have sy:=Sl.ofOwns oy (by omega) HRB.out;obtain⟨N,hN⟩:∃ N,R.length=N:=⟨_,rfl⟩;have HN:Hid (R.length=N):=hN;rw[hN]at oy hrl
 clear hN;obtain⟨ay,cy,rfl⟩:=DG oy;have d1:=bb.trans (bw1.mono bb.size);have tt1_0:=t0_0.below bw1;have rw1_p:=(bw1.block _ l0_p).trans r0_p;have lw1_p:=Nat.lt_of_lt_of_le l0_p bw1.size;have rw1_r:=(bw1.block _ l0_r).trans r0_r;have lw1_r:=Nat.lt_of_lt_of_le l0_r bw1.size;have sl1_x:=sl0_x.below bw1;have sl1_v:=sl0_v.below bw1;clear t0_0 l0_p r0_p l0_r r0_r sl0_x sl0_v;clear bw1;clear oy;have sy1:=sy;have hRB:w.heap.size+1<w1.heap.size:=lw1_r;have cc1_p0:w1.cell? ⟨w.heap.size,0,none⟩=some (.slice ax M cp):=cell_of_row _ _ 0 _ _ _ rw1_p;go_wp2_with (at_make;refine wpList_make_own _ rfl _ _ 25 rfl w1.heap.size 5 i0 (.int .u8 0) 1 underlying25 hi0 hz0 hz1 _ _ _ (M+N) rfl rfl (by omega) (by rw[hz2];omega) (by unfold maxLen;omega) (Nat.le_refl _) ?_)
 intro w2 o2 g2;have b2:Bw w1 w2:=(Below.refl _ _).grown g2 (Nat.le_refl _) (fun k hk=>by cases hk);clear g2 cc1_p0;have z12:=b2.size;have b12:=b2;have d2:=d1.trans (b2.mono d1.size);have tt2_0:=tt1_0.below b2;have rw2_p:=(b2.block _ lw1_p).trans rw1_p;have lw2_p:=Nat.lt_of_lt_of_le lw1_p b2.size;have rw2_r:=(b2.block _ lw1_r).trans rw1_r;have lw2_r:=Nat.lt_of_lt_of_le lw1_r b2.size;have sl2_x:=sl1_x.below b2;have sl2_v:=sl1_v.below b2;clear tt1_0 lw1_p rw1_p lw1_r rw1_r sl1_x sl1_v;clear b2;have HO2:Hid (w2.ownsRow w1.heap.size 5 1 (.slice (some ⟨w1.heap.size,0,none⟩) 0 (M+N)) ([]:List Int).length (([]:List Int).map (Value.int .u8))):=o2;have hlt2:=o2.lt;have hll:([]:List Int).length+d.length<=140737488355328:=by rw[HM.out];simp;omega
 clear o2;have cc2_p0:w2.cell? ⟨w.heap.size,0,none⟩=some (.slice ax M cp):=cell_of_row _ _ 0 _ _ _ rw2_p;go_wp2_with (at_builtin;refine Aa _ rfl _ _ 25 rfl w1.heap.size 5 underlying25 As _ _ rfl rfl [] d HO2.out sl2_x hll (by omega) ?_)
 intro v3 w3 o3 g3;have b3:Below w1.heap.size w2 w3:=(Below.refl _ _).grown g3 (by omega) (fun k hk=>(hlt2 k hk).1);have HO3:Hid (w3.ownsRow w1.heap.size 5 1 v3 d.length (d.map (Value.int .u8))):=by unfold Hid;simpa using o3
 have z23:=b3.size;have sy3:Sl w3 (.slice ay N cy) R:=sy1.below (show Bw w1 w3 from b12.trans b3);have rp3:=(b3.block w.heap.size (by omega)).trans rw2_p;have rr3:=(b3.block (w.heap.size+1) hRB).trans rw2_r;have d3:=d2.trans (b3.mono (show w.heap.size<=w1.heap.size by omega));have lr3:w.heap.size+1<w3.heap.size:=by omega
 have z13:w1.heap.size<=w3.heap.size:=by omega
 obtain⟨a3,c3,h3⟩:=DG HO3.out;rw[HM.out]at h3
 subst h3;have c1:w3.cell? ⟨w.heap.size,1,none⟩=some (.int .i64 s):=cell_of_row _ _ 1 _ _ _ rp3;obtain⟨T,hT⟩:∃ T,M+N=T:=⟨_,rfl⟩;have HT:Hid (M+N=T):=hT;clear hT;clear o3 g3 b3 hlt2 HO2 sl2_x cc2_p0;go_wp2_with fail
 apply WZ (fun g c Wz=>Wz.heap[w.heap.size+1]?=some (.cells #[.slice g T c,.int .i64 s] 94)/\Wz.ownsRow w1.heap.size 5 1 (.slice g T c) T ((d++R).map (Value.int .u8))/\Below (w.heap.size+1) w3 Wz)
 .intro K2 HK2;have ed0:Bw w3 w3.drew:=(Below.refl _ _).drew;refine wp_region_held (S:=fun w'=>Below (w.heap.size+1) w3 w') (by kernel_rfl) ?_;have hS0:(fun w'=>Below (w.heap.size+1) w3 w') w3.drew:=ed0.mono (Nat.le_of_lt lr3);refine Af (i:=0) 29 (v:=.slice a3 M c3) rfl rfl (by kernel_rfl) (by kernel_rfl) (by kernel_rfl) (fun _ _ _ h=>h) (Or.inl ⟨by rfl,fun _ _=>by kernel_rfl⟩) hS0 ?_;simp only[Act.put,List.setIfInBounds_toArray,List.set_cons_zero,List.set_cons_succ];refine Af (i:=1) 30 (v:=.slice ay N cy) rfl rfl (by kernel_rfl) (by kernel_rfl) (by kernel_rfl) (fun _ _ _ h=>h) (Or.inl ⟨by rfl,fun _ _=>by kernel_rfl⟩) hS0 ?_;simp only[Act.put,List.setIfInBounds_toArray,List.set_cons_zero,List.set_cons_succ];refine Af (i:=3) 32 (v:=.pointer (some ⟨w.heap.size,1,none⟩)) rfl rfl (by kernel_rfl) (by kernel_rfl) (by kernel_rfl) (fun _ _ _ h=>h) (Or.inl ⟨by rfl,fun _ _=>by kernel_rfl⟩) hS0 ?_;simp only[Act.put,List.setIfInBounds_toArray,List.set_cons_zero,List.set_cons_succ];refine Af (i:=4) 33 (v:=.int .i64 s) rfl rfl (by kernel_rfl) (by kernel_rfl) (by kernel_rfl) (fun _ _ _ h=>h) (FF (by rfl) 3 (.tmp 32) rfl _ underlying3 rfl ⟨w.heap.size,1,none⟩ rfl (.int .i64 s) (fun w' hw'=>(hw'.cell (p:=⟨w.heap.size,1,none⟩) (show w.heap.size<w.heap.size+1 by omega)).trans c1)) hS0 ?_;simp only[Act.put,List.setIfInBounds_toArray,List.set_cons_zero,List.set_cons_succ];have od:w3.drew.ownsRow w1.heap.size 5 1 (.slice a3 M c3) d.length (d.map (Value.int .u8)):=CL HO3.out (fun k hk=>ed0.block k (HO3.out.lt k hk).2);have rd:=(ed0.block (w.heap.size+1) lr3).trans rr3;have hlt:=od.lt;have hlen2:d.length+R.length<=140737488355328:=by rw[HM.out,HN.out];omega
  refine Bz (i:=2) (by kernel_rfl) (Tm (i:=2) (d:=31) rfl (by kernel_rfl) rfl (.tmp 29) (.tmp 30) 25 rfl w1.heap.size 5 underlying25 As (.slice a3 M c3) (.slice ay N cy) (by kernel_rfl) (by kernel_rfl) d R od (sy3.below ed0) hlen2 (Nat.le_trans z13 ed0.size) ?_);intro v4 w4 o4 g4;have b4:Below (w.heap.size+1) w3 w4:=(ed0.mono (Nat.le_of_lt lr3)).grown g4 (Nat.le_trans (Nat.le_of_lt lr3) ed0.size) (fun k hk=>Nat.le_trans (Nat.le_of_lt hRB) (hlt k hk).1);have r4:w4.heap[w.heap.size+1]?=some (.cells #[.slice none 0 0,.int .i64 0] 94):=(g4.block (w.heap.size+1) (Nat.lt_of_lt_of_le lr3 ed0.size) (fun e=>KD od rd (by decide) _ e.symm rfl)).trans rd;have hTT:(d++R).length=T:=by rw[List.length_append,HM.out,HN.out];exact HT.out
  rw[hTT]at o4
  obtain⟨a4,c4,h4⟩:=DG o4;subst h4;refine⟨b4,?_⟩;simp only[Act.put,List.setIfInBounds_toArray,List.set_cons_zero,List.set_cons_succ];refine Af (i:=5) 34 (v:=.agg #[.slice a4 T c4,.int .i64 s]) rfl rfl (by kernel_rfl) (by kernel_rfl) (by kernel_rfl) (fun _ _ _ h=>h) (Or.inl ⟨by rfl,fun _ _=>by kernel_rfl⟩) b4 ?_;simp only[Act.put,List.setIfInBounds_toArray,List.set_cons_zero,List.set_cons_succ];have hone:=Xh a4 T c4 s;have e7:Below (w.heap.size+1) w3 (w4.setRow (w.heap.size+1) #[.slice a4 T c4,.int .i64 s]):=Cj b4 (Nat.le_refl _) _;have q7:=setRow_heap w4 (w.heap.size+1) _ (#[.slice a4 T c4,.int .i64 s]) 94 _ r4;have o7:=TG o4 r4 (by decide) (#[.slice a4 T c4,.int .i64 s]);refine Bz (i:=6) (by kernel_rfl) (GW (i:=6) rfl (by kernel_rfl) rfl 94 (.tmp 4) (.tmp 34) rfl (w.heap.size+1) #[.slice a4 T c4,.int .i64 s] (by kernel_rfl) (by kernel_rfl) 94 _ r4 KH rfl hone ⟨e7,?_⟩);refine Af (i:=7) 5 (v:=.int .i64 0) rfl rfl (by kernel_rfl) (by kernel_rfl) (by kernel_rfl) (fun _ _ _ h=>h) (Or.inl ⟨by rfl,fun _ _=>by kernel_rfl⟩) e7 ?_;simp only[Act.put,List.setIfInBounds_toArray,List.set_cons_zero,List.set_cons_succ];exact wpAnyH_done (by kernel_rfl) (HK2.out a4 c4 _ ⟨q7,o7,e7⟩) _
 rintro g c Wz ⟨qR,oR,eR⟩;have dR:=d3.trans (eR.mono (by omega));have HTL:Hid ((d++BH b).length=T):=by unfold Hid;rw[HR.out,List.length_append,HM.out,HN.out];exact HT.out
 clear rp3 rr3 c1 HO3;go_wp2
 refine bodyPost_ret (RS rfl _ _ (w.heap.size+1) 94 _ (0,0) _ rfl qR underlying94 rfl KH) rfl ?_;rw[HTL.out,HR.out];exact⟨_,rfl,EE oR (by omega),dR⟩
theorem MX(b:Bal)(hb:Ad b)(w:World) :
  Calls prog 135 #[.agg (baA b)] w fun e w'=>∃ y,e=.returned y/\w'.ownsRow w.heap.size 5 1 y 9 ((BA b).map (Value.int .u8))/\Bw w w':=by
 obtain⟨br,bn⟩:=b;have hb':=hb;unfold Ad at hb';simp only at hb';have HB:Hid (Ad ⟨br,bn⟩):=hb;clear hb;simp only[baA];obtain⟨W0,hW0⟩:∃ W0,w.alloc (.cells #[.int .i64 br,.int .i64 bn] 74)=W0:=⟨_,rfl⟩;have r0_p:W0.heap[w.heap.size]?=some (.cells #[.int .i64 br,.int .i64 bn] 74):=by rw[<- hW0];exact D2 _ _
 have bb:Bw w W0:=by rw[<- hW0];exact BD _ _
 have l0_p:w.heap.size<W0.heap.size:=(Array.getElem?_eq_some_iff.1 r0_p).1;obtain⟨W1,hW1⟩:∃ W1,W0.alloc (.cells #[.int .u8 1] 5)=W1:=⟨_,rfl⟩;have b1:Bw W0 W1:=by rw[<- hW1];exact BD _ _
 have o1:W1.ownsRow W0.heap.size 5 1 (.slice (some ⟨W0.heap.size,0,none⟩) 1 1) [(1:Int)].length ([(1:Int)].map (Value.int .u8)):=by rw[<- hW1];exact It W0 1 1 5 rfl (Nat.le_refl _) rfl
 have d1:=bb.trans (b1.mono bb.size);have rw1_p:=(b1.block _ l0_p).trans r0_p;have lw1_p:=Nat.lt_of_lt_of_le l0_p b1.size;clear l0_p r0_p;have cc1_p0:W1.cell? ⟨w.heap.size,0,none⟩=some (.int .i64 br):=cell_of_row _ _ 0 _ _ _ rw1_p;have cc1_p1:W1.cell? ⟨w.heap.size,1,none⟩=some (.int .i64 bn):=cell_of_row _ _ 1 _ _ _ rw1_p;obtain⟨W2,hW2⟩:∃ W2,W1.alloc (.cells #[.int .i64 br,.int .i64 bn] 3)=W2:=⟨_,rfl⟩;have b2:Bw W1 W2:=by rw[<- hW2];exact BD _ _
 have rn:W2.heap[W1.heap.size]?=some (.cells ([br,bn].map (Value.int .i64)).toArray 3):=by rw[<- hW2];exact heap_alloc_new _ _
 have z1:W0.heap.size<=W2.heap.size:=Nat.le_trans b1.size b2.size;have d2:=d1.trans (b2.mono d1.size);have rw2_p:=(b2.block _ lw1_p).trans rw1_p;have lw2_p:=Nat.lt_of_lt_of_le lw1_p b2.size;have ow2_o:=CL o1 (fun k hk=>b2.block k (o1.lt k hk).2);clear lw1_p rw1_p o1;go_enter func135,ntmps135
 go_wp2_with fail
 clear hW0 hW1 hW2 cc1_p0 cc1_p1;refine(Fk (.slice (some ⟨W0.heap.size,0,none⟩) 1 1) [1] [br,bn] W0.heap.size W1.heap.size W2 ow2_o z1 (by simp) (by simp) (by intro x hx;simp at hx;omega) rn).mono ?_;rintro e w3 ⟨v3,rfl,o3,b3⟩;have d3:=d2.trans (b3.mono bb.size);have HO:Hid (w3.ownsRow w.heap.size 5 1 v3 9 ((BA ⟨br,bn⟩).map (Value.int .u8))):=EE o3 bb.size;clear o3 b3 rn ow2_o;go_wp2
 go_ret;exact⟨_,rfl,HO.out,d3⟩
theorem MZ(v:Vt)(hv:Am v)(x:Value)(w:World)(hx:Sl w x (Ia v.w.k v.w.c v.w.s v.w.n v.w.v)) :
  Calls prog 155 #[.agg (vtA v),x] w fun e w'=>∃ y,e=.returned y/\w'.ownsRow w.heap.size 5 1 y 33 ((B1 v).map (Value.int .u8))/\Bw w w':=by
 obtain⟨vs,⟨vr,vn⟩,⟨vk,vc,vq,vm,vx⟩⟩:=v;have hv':=hv;unfold Am Ad at hv';simp only at hv' hx;obtain⟨hv1,hv2,-⟩:=hv';clear hv;simp only[vtA,vtC];obtain⟨W0,hW0⟩:∃ W0,w.alloc (.cells #[.int .i64 vs,.int .i64 vr,.int .i64 vn,.int .i64 vk,.int .i64 vc,.int .i64 vq,.int .i64 vm,.int .i64 vx] 139)=W0:=⟨_,rfl⟩;have r0_p:W0.heap[w.heap.size]?=some (.cells #[.int .i64 vs,.int .i64 vr,.int .i64 vn,.int .i64 vk,.int .i64 vc,.int .i64 vq,.int .i64 vm,.int .i64 vx] 139):=by rw[<- hW0];exact D2 _ _
 have bb:Bw w W0:=by rw[<- hW0];exact BD _ _
 have l0_p:w.heap.size<W0.heap.size:=(Array.getElem?_eq_some_iff.1 r0_p).1;have sl0_x:=hx.below bb;obtain⟨W1,hW1⟩:∃ W1,W0.alloc (.cells #[.int .u8 2] 5)=W1:=⟨_,rfl⟩;have b1:Bw W0 W1:=by rw[<- hW1];exact BD _ _
 have o1:W1.ownsRow W0.heap.size 5 1 (.slice (some ⟨W0.heap.size,0,none⟩) 1 1) [(2:Int)].length ([(2:Int)].map (Value.int .u8)):=by rw[<- hW1];exact It W0 2 2 5 rfl (Nat.le_refl _) rfl
 have d1:=bb.trans (b1.mono bb.size);have rw1_p:=(b1.block _ l0_p).trans r0_p;have lw1_p:=Nat.lt_of_lt_of_le l0_p b1.size;have sl1_x:=sl0_x.below b1;clear l0_p r0_p sl0_x;have cc1_p0:W1.cell? ⟨w.heap.size,0,none⟩=some (.int .i64 vs):=cell_of_row _ _ 0 _ _ _ rw1_p;have cc1_p1:W1.cell? ⟨w.heap.size,1,none⟩=some (.int .i64 vr):=cell_of_row _ _ 1 _ _ _ rw1_p;have cc1_p2:W1.cell? ⟨w.heap.size,2,none⟩=some (.int .i64 vn):=cell_of_row _ _ 2 _ _ _ rw1_p;obtain⟨W2,hW2⟩:∃ W2,W1.alloc (.cells #[.int .i64 vs,.int .i64 vr,.int .i64 vn] 3)=W2:=⟨_,rfl⟩;have b2:Bw W1 W2:=by rw[<- hW2];exact BD _ _
 have rn:W2.heap[W1.heap.size]?=some (.cells ([vs,vr,vn].map (Value.int .i64)).toArray 3):=by rw[<- hW2];exact heap_alloc_new _ _
 have z1:W0.heap.size<=W2.heap.size:=Nat.le_trans b1.size b2.size;have d2:=d1.trans (b2.mono d1.size);have rw2_p:=(b2.block _ lw1_p).trans rw1_p;have lw2_p:=Nat.lt_of_lt_of_le lw1_p b2.size;have sl2_x:=sl1_x.below b2;have ow2_o:=CL o1 (fun k hk=>b2.block k (o1.lt k hk).2);clear lw1_p rw1_p sl1_x o1;go_enter func155,ntmps155
 go_wp2_with fail
 clear hW0 hW1 hW2 cc1_p0 cc1_p1 cc1_p2;refine(Fk (.slice (some ⟨W0.heap.size,0,none⟩) 1 1) [2] [vs,vr,vn] W0.heap.size W1.heap.size W2 ow2_o z1 (by simp) (by simp) (by intro x hx;simp at hx;omega) rn).mono ?_;rintro e w3 ⟨v3,rfl,o3,b3⟩;have d3:=d2.trans (b3.mono bb.size);have sx3:=hx.below d3;have z3:W0.heap.size<=w3.heap.size:=Nat.le_trans z1 b3.size;have hlt:=o3.lt;have HB:Hid ([2]++Co [vs,vr,vn]++Ia vk vc vq vm vx=B1 ⟨vs,⟨vr,vn⟩,⟨vk,vc,vq,vm,vx⟩⟩):=rfl;have hll:([(2:Int)]++Co [vs,vr,vn]).length+(Ia vk vc vq vm vx).length<=140737488355328:=by show 33<=_;decide
 generalize hL:[(2:Int)]++Co [vs,vr,vn]=L at o3 HB hll;generalize hC:Ia vk vc vq vm vx=C at sx3 HB hll;clear hL hC rn b3 ow2_o;go_wp2_with (at_builtin;refine Aa _ rfl _ _ 25 rfl W0.heap.size 5 underlying25 As _ _ rfl rfl L C o3 sx3 hll z3 ?_)
 intro v4 w4 o4 g4;have d4:Bw w w4:=d3.grown g4 (Nat.le_trans bb.size z3) (fun k hk=>Nat.le_trans bb.size (hlt k hk).1);have HO:Hid (w4.ownsRow w.heap.size 5 1 v4 33 ((B1 ⟨vs,⟨vr,vn⟩,⟨vk,vc,vq,vm,vx⟩⟩).map (Value.int .u8))):=by
  have o4b:w4.ownsRow W0.heap.size 5 1 v4 (L++C).length ((L++C).map (Value.int .u8)):=by simpa using o4
  have:=EE o4b bb.size;rw[HB.out]at this
  exact this
 clear o4 g4 o3 hlt HB;go_wp2
 go_ret;exact⟨_,rfl,HO.out,d4⟩
def Ib(l:List Int)(j:Nat):List Int:=(l.take j).flatMap Ag
theorem SG(l:List Int)(j:Nat)(h:j<l.length):Ib l (j+1)=Ib l j++Ag (l.getD j 0):=by
 unfold Ib;rw[List.take_succ_eq_append_getElem h,List.flatMap_append,AK h];simp
theorem NN(l:List Int)(j:Nat):(Ib l j).length<=4*j:=by
 unfold Ib;induction l generalizing j with
 | nil=>simp
 | cons x l ih =>
  cases j with
  | zero=>simp
  | succ j =>
   have:=ih j;rw[List.take_succ_cons,List.flatMap_cons,List.length_append,BP];omega
theorem SF(k c s n v:Int):Ib [k,c,s,n,v] 5=Ia k c s n v:=rfl
def SH(k c s n v:Int):List Int:=if AT k c s n v=0 then Ia k c s n v else[]
theorem Rw{k c s n v:Int}(h:AT k c s n v=0):SH k c s n v=Ia k c s n v:=if_pos h
theorem XQ{k c s n v:Int}(h:¬ AT k c s n v=0):SH k c s n v=[]:=if_neg h
def Mp:Array Value:=(List.replicate 20 (Value.int .u8 0)).toArray
theorem bF(w:World):(Instr.makeSlice 25 (.int .i64 0) (.int .i64 20)).run prog w=.ok (.slice (some ⟨w.heap.size,0,none⟩) 0 20) (w.alloc (.cells Mp 5)):=by
 obtain⟨i,hi,hz,hsz,hby⟩:=info_parts As;rw[run_makeSlice (P:=prog) w 25 5 i (.int .u8 0) underlying25 hi hz .i64 .i64 0 20 (by omega) (by omega) (by rw[hsz];decide) (by rw[hby];decide) (by omega),hsz];have e:madeCells (Value.int .u8 0).cells ((20:Int).toNat*1)=Mp:=by kernel_rfl
 rw[e];rfl
theorem Bc.num{w:World}{g:Nat}{k c s n v:Int}(h:Bc w g k c s n v)(j:Nat)(hj:j<5):w.cell? ⟨g,j,none⟩=some (.int .i64 ([k,c,s,n,v].getD j 0)):=by
 obtain⟨c0,c1,c2,c3,c4⟩:=Eb h.row;rcases(by omega:j=0\/j=1\/j=2\/j=3\/j=4)with rfl|rfl|rfl|rfl|rfl
 .exact c0
 .exact c1
 .exact c2
 .exact c3
 .exact c4
theorem Q7{w w':World}{base e:Nat}{v:Value}{n:Nat}{xs:List Value}(h:w.ownsRow base e 1 v n xs)(hk:∀ k,v.ownBlock=some k->w'.heap[k]?=w.heap[k]?):w'.ownsRow base e 1 v n xs:=by
 refine⟨h.1,?_⟩;rcases h.2 with h2|⟨g,cap,cur,hv,hb,hg,hr⟩
 .exact .inl h2
 .exact .inr ⟨g,cap,cur,hv,hb,(hk g (by rw[hv];rfl)).trans hg,hr⟩
theorem IG{w w':World}{base e:Nat}{v:Value}{n:Nat}{xs:List Value}(h:w.ownsRow base e 1 v n xs)(hb:Bw w w'):w'.ownsRow base e 1 v n xs :=
 Q7 h fun k hk=>hb.block k (h.lt k hk).2
theorem PJ(k c s n v:Int)(w:World)(ht:NTab w) :
  Calls prog 36 #[.agg (cmA k c s n v)] w fun e w'=>∃ v',e=.returned (.tuple #[v',.int .i64 (AT k c s n v)])/\w'.ownsRow w.heap.size 5 1 v' (SH k c s n v).length ((SH k c s n v).map (Value.int .u8))/\Bw w w':=by
 have bb:Bw w (w.alloc (.cells (cmA k c s n v) 54)):=(Below.refl _ _).alloc (Nat.le_refl _) _;have bc:=Bc.made w k c s n v;have hT:=ht.below bb;have hi:=F8 k c s n v;generalize hW:w.alloc (.cells (cmA k c s n v) 54)=W at bb bc hT;clear ht;go_enter func36,ntmps36
 go_wp2_with (refine wpList_load_row rfl 54 _ rfl w.heap.size rfl 54 _ (0,0) _ bc.row underlying54 rfl hi ?_)
 clear hW;refine(Du k c s n v W hT).mono ?_;rintro e w1 ⟨rfl,b1⟩;have d1:Bw w w1:=bb.trans (b1.mono bb.size);replace bc:=bc.below b1;clear b1 bb hT;by_cases h1:AT k c s n v=0
 .have HE:Hid (SH k c s n v=Ib [k,c,s,n,v] 5):=(Rw h1).trans (SF k c s n v).symm;have hz:=F7 h1;have HS:Hid (∀ j,j<5->0<=[k,c,s,n,v].getD j 0/\[k,c,s,n,v].getD j 0<2147483648):=by
   unfold Hid;obtain⟨hk,hc⟩:=hz;unfold InC at hc;intro j hj;rcases(by omega:j=0\/j=1\/j=2\/j=3\/j=4)with rfl|rfl|rfl|rfl|rfl
   .show 0<=k/\k<2147483648;omega
   .show 0<=c/\c<2147483648;omega
   .show 0<=s/\s<2147483648;omega
   .show 0<=n/\n<2147483648;omega
   .show 0<=v/\v<2147483648;omega
  have HL:Hid ([k,c,s,n,v].length=5):=rfl;have HZ:Hid (AT k c s n v=0):=h1;rw[h1];clear hz h1;have hmk:=bF w1;have b2:Below w1.heap.size w1 (w1.alloc (.cells Mp 5)):=(Below.refl _ _).alloc (Nat.le_refl _) _;have ho0:(w1.alloc (.cells Mp 5)).ownsRow w1.heap.size 5 1 (.slice (some ⟨w1.heap.size,0,none⟩) 0 20) ([]:List Int).length (([]:List Int).map (Value.int .u8)) :=
   ⟨rfl,.inr ⟨w1.heap.size,20,Mp,rfl,Nat.le_refl _,heap_alloc_new _ _,by decide,by simp[maxLen],rfl,rfl⟩⟩
  have HO0:Hid _:=ho0;clear ho0;generalize w1.alloc (.cells Mp 5)=W2 at hmk b2 HO0;go_wp2_with fail
  refine(FU w.heap.size W2).mono ?_;rintro e w3 ⟨rfl,b3⟩;have HO3:Hid (w3.ownsRow w1.heap.size 5 1 (.slice (some ⟨w1.heap.size,0,none⟩) 0 20) ([]:List Int).length (([]:List Int).map (Value.int .u8))):=IG HO0.out b3;have d3:Below w1.heap.size w1 w3:=b2.trans (b3.mono b2.size);have z3:=d3.size;clear HO0 b2 b3 hmk;have hlt:=bc.lt;have hN:∀ wr,Below w1.heap.size w1 wr->∀ j,j<5->wr.cell? ⟨w.heap.size,j,none⟩=some (.int .i64 ([k,c,s,n,v].getD j 0)):=fun wr hb j hj=>(bc.below hb).num j hj;have HN:Hid _:=hN;clear bc hN;generalize [k,c,s,n,v]=L at HE HS HN HL;have hBz:w1.heap.size<=w1.heap.size:=Nat.le_refl _;have hwB:w.heap.size<=w1.heap.size:=d1.size;generalize hB:w1.heap.size=B at d3 z3 HO3 HN hlt hwB;replace hBz:B<=w1.heap.size:=by omega
  clear hB;have hix:=OD w.heap.size;go_wp2_with fail
  go_loopw [5,15] (fun v iv wr=>∃ j:Nat,j<=5/\iv=.int .i64 (j:Int)/\wr.ownsRow B 5 1 v (Ib L j).length ((Ib L j).map (Value.int .u8))/\Below B w1 wr) (fun _ iv _=>(5-intOf iv).toNat)
  case atStart=>exact⟨0,by omega,rfl,HO3.out,d3⟩
  case round =>
   obtain⟨j,hj,rfl,hown,hbel⟩:=hrel;by_cases hj5:j<5
   .have hji:(j:Int)<5:=by omega
    have hij:=hix j hj5;have hcj:=HN.out _ hbel j hj5;have hsj:=HS.out j hj5;have HK:Hid (Ib L (j+1)=Ib L j++Ag (L.getD j 0)):=SG L j (by rw[HL.out];omega);have HQ:=NN L j;have HO:Hid _:=hown;have hz:B<=wr.heap.size:=Nat.le_trans hBz hbel.size;clear hown hix HO3;generalize L.getD j 0=X at hcj hsj HK;go_wp2_with fail
    refine(FW _ _ X B wr HO.out hz (by omega) hsj.1 hsj.2).mono ?_;rintro e w5 ⟨v5,rfl,o5,b5⟩;have HO5:Hid (w5.ownsRow B 5 1 v5 (Ib L (j+1)).length ((Ib L (j+1)).map (Value.int .u8))):=by unfold Hid;rw[HK.out];exact o5
    have d5:=hbel.trans b5;clear o5 b5 HO HK HQ hcj hij hsj;go_wp2
    go_roundw
    case rel=>exact⟨j+1,by omega,by go_num,HO5.out,d5⟩
    case measure=>simp[intOf];omega
   .obtain rfl:j=5:=by omega
    rw[show((5:Nat):Int)=5 from rfl];have HO:Hid _:=hown;clear hown hix HO3;go_wp2
    go_ret2
    rw[HE.out,HZ.out];exact⟨_,rfl,AM HO.out hwB,d1.trans (hbel.mono hwB)⟩
 .have HE:Hid (SH k c s n v=[]):=XQ h1;go_wp2
  go_ret2
  rw[HE.out];exact⟨_,rfl,World.ownsRow_nil _ _ _ _,d1⟩
theorem IE{P:Program}{fn:Func}{p u:Tmp}{ty:TypeId}(h:fn.results=#[.cell p ty,.tmp u])(tmps:Array Value)(w:World)(g:Nat)(t:TypeId)(cs:Array Value)(fr:Nat × Nat)(d:TypeDesc)
  (hp:tmps.getD p undef=.pointer (some ⟨g,0,none⟩))(hg:w.heap[g]?=some (.cells cs t fr))
  (hu:P.underlying ty=some d)(hd:(match d with|.struct _|.array _ _=>true|_=>false)=true)(hi:(P.info? ty).map (·.size)=some cs.size) :
  (results fn tmps).run P w=.ok (.tuple #[.agg cs,tmps.getD u undef]) w:=by
 have hp':tmps[p]?.getD undef=.pointer (some ⟨g,0,none⟩):=by simpa using hp
 simp[results,h,hp',asAddr,run_loadVar_row w g t ty cs fr d hg hu hd hi]
theorem Rq(k c s n v:Int):(cmA k c s n v).all (·.oneCell')=true:=by simp[cmA,Value.oneCell']
def Nb(B:Nat)(y:S3)(l:List Int):Prop:=l≠[]->∀ a,y.a=some a->B<=a.block
theorem Nb.mono{B C:Nat}{y:S3}{l:List Int}(h:Nb B y l)(hc:C<=B):Nb C y l:=fun hl a ha=>Nat.le_trans hc (h hl a ha)
theorem Q6{w:World}{B:Nat}{y:Value}{l:List Int}(h:w.ownsRow B 5 1 y l.length (l.map (Value.int .u8)))(hl:l.length<=140737488351232)(hb:∀ x∈l,0<=x/\x<256):∃ z:S3,y=z.v/\Sl w z.v l/\Nb B z l:=by
 have hs:=Sl.ofOwns h hl hb;rcases h.2 with⟨rfl,h0⟩|⟨b,cap,cur,rfl,hbb,_⟩
 .exact⟨s30,rfl,hs,fun hn=>absurd (List.eq_nil_of_length_eq_zero h0) hn⟩
 .exact⟨⟨some ⟨b,0,none⟩,l.length,cap⟩,rfl,hs,fun _ a ha=>by simp only[Option.some.injEq]at ha;subst ha;exact hbb⟩
theorem WT{w:World}{y:Value}{l:List Vt}(hs:Sv w y l):∃ z:S3,y=z.v:=by
 obtain⟨a,c,rfl⟩:=hs.shape;exact⟨⟨a,l.length,c⟩,rfl⟩
theorem eL(w:World):Sv w (.slice none 0 0) []:=⟨⟨none,0,rfl,Nat.le_refl _,fun _=>rfl,.inl rfl⟩,by simp⟩
theorem bS{b:Bal}{w:World}(hN:NTab w){E:Int}(hE:(if Ad b then 0 else 2)=E) :
  Calls prog 98 #[.agg #[iv 0,iv 0,S3.v s30],.agg #[iv b.r,iv b.n]] w fun e w'=>∃ (r n:Int) (y z:S3),e=.returned (.tuple #[.agg #[iv r,iv n,y.v],z.v,iv E])/\Bw w w':=by
 refine(OB ⟨0,0⟩ (.slice none 0 0) [] b w (eL w) hN).mono ?_;rintro e w' ⟨y,z,rfl,hy,hz,hb⟩;obtain⟨y,rfl⟩:=WT hy;obtain⟨z,rfl⟩:=WT hz;have h1:BL ⟨⟨0,0⟩,[]⟩ b=E:=(YF b).trans hE;rw[h1];exact⟨_,_,y,z,rfl,hb⟩
theorem DK{d:List Int}{s:Int}{may:Prop}[Decidable may] {b:List Int} {E:Int} (h:Cu d s may b=E) (h0:E≠0):F0 d s may b=[]/\G8 d s may b=0:=⟨if_neg (by rw[h];exact h0),if_neg (by rw[h];exact h0)⟩
theorem WK{b:Bal}(hb:Ad b){w:World}:Calls prog 135 #[.agg #[iv b.r,iv b.n]] w fun e w'=>∃ y:S3,e=.returned y.v/\Sl w' y.v (BA b)/\Bw w w':=by
 refine(MX b hb w).mono ?_;rintro e w' ⟨y,rfl,ho,h⟩;obtain⟨z,rfl,hz⟩:=Fi (l:=BA b) ho (by rw[show(BA b).length=9 from rfl];decide) (Tu b);exact⟨z,rfl,hz,h⟩
theorem Sj{x v:S3}{d b:List Int}(s:Int){w:World}(h:Sl w x.v d)(hv:Sl w v.v b)(hb:b.length<=255)(hd:d.length+5+b.length<=100000)(ht:AA w) :
  Calls prog 134 #[.agg #[x.v,iv s],v.v] w fun e w'=>∃ y:S3,e=.returned (.tuple #[.agg #[y.v,iv s],iv 0])/\Sl w' y.v (d++BH b)/\Nb w.heap.size y (d++BH b)/\Bw w w':=by
 refine(KO x.v d s v.v b w h hv hb (by omega) ht).mono ?_;rintro e w' ⟨y,rfl,ho,hw⟩;obtain⟨z,rfl,hz,hn⟩:=Q6 ho (by rw[List.length_append,E9];omega) (fun x hx=>(List.mem_append.1 hx).elim (h.byte x) (K3 hv.byte hb x));exact⟨z,rfl,hz,hn,hw⟩
theorem ah{v:Vt}{w:World}(hN:NTab w){E:Int}(hE:(if Am v then 0 else 2)=E) :
  Calls prog 100 #[.agg #[iv 0,iv 0,S3.v s30],.agg #[iv v.slot,iv v.b.r,iv v.b.n,iv v.w.k,iv v.w.c,iv v.w.s,iv v.w.n,iv v.w.v]] w fun e w'=>∃ (r n:Int) (y:S3),e=.returned (.tuple #[.agg #[iv r,iv n,y.v],iv E])/\Bw w w':=by
 refine(Pt ⟨0,0⟩ (.slice none 0 0) [] v w (eL w) hN).mono ?_;rintro e w' ⟨y,rfl,hy,hb⟩;obtain⟨y,rfl⟩:=WT hy;have h1:AW ⟨⟨0,0⟩,[]⟩ v=E:=(Zv v).trans hE;rw[h1];exact⟨_,_,y,rfl,hb⟩
theorem UZ{m:Cmd}{w:World}(hN:NTab w)(h0:m.e=0) :
  Calls prog 36 #[.agg #[iv m.k,iv m.c,iv m.s,iv m.n,iv m.v]] w fun e w'=>∃ y:S3,e=.returned (.tuple #[y.v,iv 0])/\Sl w' y.v (Ia m.k m.c m.s m.n m.v)/\Bw w w':=by
 refine(PJ m.k m.c m.s m.n m.v w hN).mono ?_;rintro e w' ⟨y,rfl,ho,hb⟩;have h1:AT m.k m.c m.s m.n m.v=0:=h0;rw[Rw h1]at ho
 rw[h1];obtain⟨y,rfl,hy⟩:=Fi ho (by rw[EX];decide) (L3 _ _ _ _ _);exact⟨y,rfl,hy,hb⟩
theorem WU{v:Vt}(hv:Am v){x:S3}{w:World}(hx:Sl w x.v (Ia v.w.k v.w.c v.w.s v.w.n v.w.v)) :
  Calls prog 155 #[.agg #[iv v.slot,iv v.b.r,iv v.b.n,iv v.w.k,iv v.w.c,iv v.w.s,iv v.w.n,iv v.w.v],x.v] w fun e w'=>∃ y:S3,e=.returned y.v/\Sl w' y.v (B1 v)/\Bw w w':=by
 refine(MZ v hv x.v w hx).mono ?_;rintro e w' ⟨y,rfl,ho,h⟩;obtain⟨z,rfl,hz⟩:=Fi (l:=B1 v) ho (by rw[Pk];decide) (Ue v);exact⟨z,rfl,hz,h⟩
theorem Ww{d:List Int}{s:Int}{k:Nat}(h:Gv d s k=0):d.length+k<=100000:=by
 unfold Gv at h;split at h
 .cases h
 .split at h
  .cases h
  .omega
theorem IR{x:S3}{d:List Int}{s:Int}{b:Bal}{w:World}(h:Sl w x.v d)(hT:AA w)(hN:NTab w) :
  Calls prog 99 #[.agg #[x.v,iv s],.agg #[iv b.r,iv b.n]] w fun e w'=>∃ y:S3,e=.returned (.tuple #[.agg #[y.v,iv (G8 d s (Ad b) (BA b))],iv (Cu d s (Ad b) (BA b))])/\Sl w' y.v (F0 d s (Ad b) (BA b))/\Nb w.heap.size y (F0 d s (Ad b) (BA b))/\Bw w w':=by
 obtain⟨E0,hE0⟩:∃ E0,Gv d s 14=E0:=⟨_,rfl⟩;obtain⟨E1,hE1⟩:∃ E1:Int,(if Ad b then 0 else 2)=E1:=⟨_,rfl⟩;have hW:Cu d s (Ad b) (BA b)=if E0≠0 then E0 else E1:=by rw[<- hE0,<- hE1];rfl
 refine kIn func99 ?_;refine kR 11 [0,0,0,0,1,0,0] fun σ1 w1 b1=>?_;refine kC 1 ((hE0▸FR x.v d s 14 (by decide) _ (h.below b1))) ?_;rintro _ w2 ⟨rfl,b2⟩;refine⟨_,rfl,b2,?_⟩;refine kR 7 [] fun σ3 w3 b3=>?_;by_cases h1:E0≠0
 .refine kI ((E0 != 0)) true (by simpa using h1) ?_;refine kF 7 [2,0] fun σ4 w4 b4 q4=>?_;have hw:=hW.trans (if_pos h1);rw[hw,(DK hw h1).1,(DK hw h1).2];have B5:=((btr (btr b1 b2) b3).trans b4);exact qE2 4 5 94 2 (σ1 2) #[S3.v s30,iv 0] (iv E0) fun K=>⟨s30,rfl,D7 _,fun h=>absurd rfl h,B5⟩
 .refine kI ((E0 != 0)) false (by simpa using h1) ?_;have h10:E0=0:=by simpa using h1
  have hd:=Ww (hE0.trans h10);refine kR 6 [1] fun σ6 w6 b6=>?_;have B7:=(btr (btr (btr b1 b2) b3) b6);refine kC 2 (bS (hN.below B7) hE1) ?_;rintro _ w8 ⟨r,n,ya,za,rfl,b8⟩;refine⟨_,rfl,b8,?_⟩;refine kR 14 [1,0,3,0] fun σ9 w9 b9=>?_;by_cases h2:E1≠0
  .refine kI ((E1 != 0)) true (by simpa using h2) ?_;refine kF 7 [2,0] fun σ10 w10 b10 q10=>?_;have hw:=hW.trans (if_neg h1);rw[hw,(DK hw h2).1,(DK hw h2).2];have B11:=((btr (btr B7 b8) b9).trans b10);exact qE2 4 5 94 2 (σ1 2) #[S3.v s30,iv 0] (iv E1) fun K=>⟨s30,rfl,D7 _,fun h=>absurd rfl h,B11⟩
  .refine kI ((E1 != 0)) false (by simpa using h2) ?_;have h20:E1=0:=by simpa using h2
   have hmay:Ad b:=by by_cases g:Ad b;exact g;rw[if_neg g,h20]at hE1;cases hE1
   have hw:Cu d s (Ad b) (BA b)=0:=hW.trans ((if_neg h1).trans h20);rw[hw,show F0 d s (Ad b) (BA b)=d++BH (BA b)from if_pos hw,show G8 d s (Ad b) (BA b)=s from if_pos hw];refine kR 4 [2,2,1] fun σ12 w12 b12=>?_;refine V1 33 (fun w' e L=>∃ (y:S3),e=[(4,pt (σ1 2) 0),(5,iv 0)]/\L=[⟨(σ1 0),.cells #[S3.v x,iv s] 94,.z,false⟩,⟨(σ1 1),.cells #[iv b.r,iv b.n] 74,.z,false⟩,⟨(σ1 2),.cells #[S3.v y,iv s] 94,.l,false⟩,⟨(σ9 0),.cells #[iv r,iv n,S3.v ya] 77,.l,false⟩]/\Sl w' y.v (d++BH (BA b))/\Nb w.heap.size y (d++BH (BA b))/\Bw w w') ?_ ?_
   .intro J hJ;refine SX 0 2 ?_ ?_
    .refine kR 1 [0] fun σ14 w14 b14=>?_;refine kC 2 (WK hmay) ?_;rintro _ w15 ⟨yb15,rfl,hb15,b15⟩;refine⟨_,rfl,b15,?_⟩;have B17:=(btr (btr (btr (btr (btr B7 b8) b9) b12) b14) b15);refine kC 3 (Sj s (h.below B17) hb15 (by rw[show(BA b).length=9 from rfl];decide) (by rw[show(BA b).length=9 from rfl];omega) (hT.below B17)) ?_;rintro _ w18 ⟨y18,rfl,hy18,hn18,b18⟩;refine⟨_,rfl,b18,?_⟩;refine kF 5 [8,10,13,2,0,14] fun σ19 w19 b19 q19=>?_;have B20:=((btr B17 b18).trans b19);exact kB [true,true,true,true] fun z K=>hJ _ _ z _ ⟨y18,rfl,rfl,(hy18.kept q19),hn18.mono B17.size,B20⟩ K
    .refine kC 2 (WK hmay) ?_;rintro _ w22 ⟨yb22,rfl,hb22,b22⟩;refine⟨_,rfl,b22,?_⟩;refine kR 1 [1,0] fun σ23 w23 b23=>?_;have B24:=(btr (btr (btr (btr (btr B7 b8) b9) b12) b22) b23);refine kC 3 (Sj s (h.below B24) (hb22.below b23) (by rw[show(BA b).length=9 from rfl];decide) (by rw[show(BA b).length=9 from rfl];omega) (hT.below B24)) ?_;rintro _ w25 ⟨y25,rfl,hy25,hn25,b25⟩;refine⟨_,rfl,b25,?_⟩;refine kF 5 [8,10,13,2,0,14] fun σ26 w26 b26 q26=>?_;have B27:=((btr B24 b25).trans b26);exact kB [true,true,true,true] fun z K=>hJ _ _ z _ ⟨y25,rfl,rfl,(hy25.kept q26),hn25.mono B24.size,B27⟩ K
   .rintro w13 _ z13 _ ⟨y,rfl,rfl,hy,hn,hb⟩;exact qE2 4 5 94 2 (σ1 2) #[S3.v y,iv s] (iv 0) fun K=>⟨y,rfl,hy,hn,hb⟩
theorem OZ{x:S3}{d:List Int}{s:Int}{v:Vt}{w:World}(h:Sl w x.v d)(hT:AA w)(hN:NTab w) :
  Calls prog 123 #[.agg #[x.v,iv s],.agg #[iv v.slot,iv v.b.r,iv v.b.n,iv v.w.k,iv v.w.c,iv v.w.s,iv v.w.n,iv v.w.v]] w fun e w'=>∃ y:S3,e=.returned (.tuple #[.agg #[y.v,iv (G8 d s (Am v) (B1 v))],iv (Cu d s (Am v) (B1 v))])/\Sl w' y.v (F0 d s (Am v) (B1 v))/\Nb w.heap.size y (F0 d s (Am v) (B1 v))/\Bw w w':=by
 obtain⟨E0,hE0⟩:∃ E0,Gv d s 38=E0:=⟨_,rfl⟩;obtain⟨E1,hE1⟩:∃ E1:Int,(if Am v then 0 else 2)=E1:=⟨_,rfl⟩;have hW:Cu d s (Am v) (B1 v)=if E0≠0 then E0 else E1:=by rw[<- hE0,<- hE1];rfl
 refine kIn func123 ?_;refine kR 11 [0,0,0,0,1,0,0] fun σ1 w1 b1=>?_;refine kC 1 ((hE0▸FR x.v d s 38 (by decide) _ (h.below b1))) ?_;rintro _ w2 ⟨rfl,b2⟩;refine⟨_,rfl,b2,?_⟩;refine kR 7 [] fun σ3 w3 b3=>?_;by_cases h1:E0≠0
 .refine kI ((E0 != 0)) true (by simpa using h1) ?_;refine kF 7 [2,0] fun σ4 w4 b4 q4=>?_;have hw:=hW.trans (if_pos h1);rw[hw,(DK hw h1).1,(DK hw h1).2];have B5:=((btr (btr b1 b2) b3).trans b4);exact qE2 4 5 94 2 (σ1 2) #[S3.v s30,iv 0] (iv E0) fun K=>⟨s30,rfl,D7 _,fun h=>absurd rfl h,B5⟩
 .refine kI ((E0 != 0)) false (by simpa using h1) ?_;have h10:E0=0:=by simpa using h1
  have hd:=Ww (hE0.trans h10);refine kR 6 [1] fun σ6 w6 b6=>?_;have B7:=(btr (btr (btr b1 b2) b3) b6);refine kC 2 (ah (hN.below B7) hE1) ?_;rintro _ w8 ⟨r,n,ya,rfl,b8⟩;refine⟨_,rfl,b8,?_⟩;refine kR 12 [1,0,3,0] fun σ9 w9 b9=>?_;by_cases h2:E1≠0
  .refine kI ((E1 != 0)) true (by simpa using h2) ?_;refine kF 7 [2,0] fun σ10 w10 b10 q10=>?_;have hw:=hW.trans (if_neg h1);rw[hw,(DK hw h2).1,(DK hw h2).2];have B11:=((btr (btr B7 b8) b9).trans b10);exact qE2 4 5 94 2 (σ1 2) #[S3.v s30,iv 0] (iv E1) fun K=>⟨s30,rfl,D7 _,fun h=>absurd rfl h,B11⟩
  .refine kI ((E1 != 0)) false (by simpa using h2) ?_;have h20:E1=0:=by simpa using h2
   have hmay:Am v:=by by_cases g:Am v;exact g;rw[if_neg g,h20]at hE1;cases hE1
   refine kR 5 [1] fun σ12 w12 b12=>?_;have B13:=(btr (btr (btr B7 b8) b9) b12);refine kC 2 (UZ (m:=v.w) (hN.below B13) hmay.2.2) ?_;rintro _ w14 ⟨yc,rfl,hyc,b14⟩;refine⟨_,rfl,b14,?_⟩;refine kR 18 [3,2,1,4] fun σ15 w15 b15=>?_;have hw:Cu d s (Am v) (B1 v)=0:=hW.trans ((if_neg h1).trans h20);rw[hw,show F0 d s (Am v) (B1 v)=d++BH (B1 v)from if_pos hw,show G8 d s (Am v) (B1 v)=s from if_pos hw];refine V1 44 (fun w' e L=>∃ (y:S3),e=[(4,pt (σ1 2) 0),(5,iv 0)]/\L=[⟨(σ1 0),.cells #[S3.v x,iv s] 94,.z,false⟩,⟨(σ1 1),.cells #[iv v.slot,iv v.b.r,iv v.b.n,iv v.w.k,iv v.w.c,iv v.w.s,iv v.w.n,iv v.w.v] 139,.z,false⟩,⟨(σ1 2),.cells #[S3.v y,iv s] 94,.l,false⟩,⟨(σ9 0),.cells #[iv r,iv n,S3.v ya] 77,.l,false⟩]/\Sl w' y.v (d++BH (B1 v))/\Nb w.heap.size y (d++BH (B1 v))/\Bw w w') ?_ ?_
   .intro J hJ;refine SX 0 3 ?_ ?_
    .refine kR 1 [0] fun σ18 w18 b18=>?_;refine kC 3 (WU hmay ((hyc.below b15).below b18)) ?_;rintro _ w19 ⟨yb19,rfl,hb19,b19⟩;refine⟨_,rfl,b19,?_⟩;have B21:=(btr (btr (btr (btr B13 b14) b15) b18) b19);refine kC 4 (Sj s (h.below B21) hb19 (by rw[show(B1 v).length=33 from rfl];decide) (by rw[show(B1 v).length=33 from rfl];omega) (hT.below B21)) ?_;rintro _ w22 ⟨y22,rfl,hy22,hn22,b22⟩;refine⟨_,rfl,b22,?_⟩;refine kF 5 [10,12,15,2,0,16] fun σ23 w23 b23 q23=>?_;have B24:=((btr B21 b22).trans b23);exact kB [true,true,true,true] fun z K=>hJ _ _ z _ ⟨y22,rfl,rfl,(hy22.kept q23),hn22.mono B21.size,B24⟩ K
    .refine kC 3 (WU hmay (hyc.below b15)) ?_;rintro _ w26 ⟨yb26,rfl,hb26,b26⟩;refine⟨_,rfl,b26,?_⟩;refine kR 1 [1,0] fun σ27 w27 b27=>?_;have B28:=(btr (btr (btr (btr B13 b14) b15) b26) b27);refine kC 4 (Sj s (h.below B28) (hb26.below b27) (by rw[show(B1 v).length=33 from rfl];decide) (by rw[show(B1 v).length=33 from rfl];omega) (hT.below B28)) ?_;rintro _ w29 ⟨y29,rfl,hy29,hn29,b29⟩;refine⟨_,rfl,b29,?_⟩;refine kF 5 [10,12,15,2,0,16] fun σ30 w30 b30 q30=>?_;have B31:=((btr B28 b29).trans b30);exact kB [true,true,true,true] fun z K=>hJ _ _ z _ ⟨y29,rfl,rfl,(hy29.kept q30),hn29.mono B28.size,B31⟩ K
   .rintro w17 _ z17 _ ⟨y,rfl,rfl,hy,hn,hb⟩;exact qE2 4 5 94 2 (σ1 2) #[S3.v y,iv s] (iv 0) fun K=>⟨y,rfl,hy,hn,hb⟩
theorem E2{g:Gh}{w:World}{i nb ob:Nat}{p:Nod}{ls:List Let}{ts:List Tol}(h:NS i nb ob g w p ls ts){w0:World}(hB:Base w0 g w)(hT:Tabs w0)(b:Bal) :
  Calls prog 54 #[pt nb 0,.agg #[iv b.r,iv b.n]] w fun e w'=>∃ (y:S3) (g':Gh),e=.returned (.tuple #[y.v,iv (p.promise b).2.2])/\FSv g' w' y (p.promise b).2.1/\NS i nb ob g' w' (p.promise b).1 ls ts/\Cg w.heap.size (TN i) g w g' w':=by
 obtain⟨x,lt,tl,hN,hO,hg⟩:=h;have hA:p.vo=⟨p.vo.p,p.vo.vs⟩:=rfl;refine gI (fn:=f54) (TN i) g func54 hg ?_;refine qN hN ?_;refine qO hO ?_;refine qR [] 14 [0,0,15,0,2,4,6,8,0,10,2] fun s1 g1 w1 c1=>?_;refine BG 55 (fun g' w' e L=>∃ (ys zs:S3) (bA:Nat),e=[(0,pt nb 0),(3,pt (s1 0) 0),(6,pt bA 0),(7,S3.v zs),(8,iv (BL p.vo b))]/\L=[⟨nb,.cells (Ax i ob p x) 96,.n 0 i,false⟩,⟨ob,.cells #[S3.v lt,S3.v tl] 66,.n 50 0,false⟩,⟨(s1 0),.cells #[iv b.r,iv b.n] 74,.z,false⟩,⟨bA,.cells #[iv (EP p.vo b).r,iv (EP p.vo b).n,S3.v ys] 77,.l,false⟩]/\FSv g' w' ys (EO p.vo b)/\FSv g' w' zs (EO p.vo b)/\Cg w.heap.size [] g w g' w') (by kernel_rfl) ?_ ?_
 .intro J hJ;refine Cv 6 11 (by kernel_rfl) ?_ ?_
  .refine Ae fun Kq4=>?_;have hS4:=(hN.votes.ch c1).s;have hB4:=hB.ch c1;have hG4:∀ z,w1.heap.size<=z->g1.t z=.z:=fun z hz=>(Kq4.new z hz).1;refine qC 6 (Cq p.vo.p _ p.vo.vs b w1 hS4 (hB4.tn hT)) ?_;rintro e' w5 ⟨y5,z5,rfl,hy5,hz5,b5⟩;refine⟨_,rfl,b5,?_⟩;have c5:=Cg.ofBelow (B:=w.heap.size) (T:=[]) (g:=g1) b5;obtain⟨ys5,rfl,hyn5,hys5⟩:=De hy5 hG4 (Nat.le_trans (C6 _ _) hS4.len);obtain⟨zs5,rfl,hzn5,hzs5⟩:=De hz5 hG4 (Nat.le_trans (C6 _ _) hS4.len);refine qR [] 9 [14,16,18,20,23,1,0,25,3,0,26,28] fun s6 g6 w6 c6=>?_;exact qB [true,true,true,true] fun z K0 K=>hJ _ _ _ z _ ⟨ys5,zs5,(s6 0),rfl,rfl,(hys5.ch c6),(hzs5.ch c6),((c1.trans c5).trans c6)⟩ K
  .refine qR [] 1 [1,0] fun s7 g7 w7 c7=>?_;refine Ae fun Kq8=>?_;have hS8:=(hN.votes.ch (c1.trans c7)).s;have hB8:=hB.ch (c1.trans c7);have hG8:∀ z,w7.heap.size<=z->g7.t z=.z:=fun z hz=>(Kq8.new z hz).1;refine qC 6 (Cq p.vo.p _ p.vo.vs b w7 hS8 (hB8.tn hT)) ?_;rintro e' w9 ⟨y9,z9,rfl,hy9,hz9,b9⟩;refine⟨_,rfl,b9,?_⟩;have c9:=Cg.ofBelow (B:=w.heap.size) (T:=[]) (g:=g7) b9;obtain⟨ys9,rfl,hyn9,hys9⟩:=De hy9 hG8 (Nat.le_trans (C6 _ _) hS8.len);obtain⟨zs9,rfl,hzn9,hzs9⟩:=De hz9 hG8 (Nat.le_trans (C6 _ _) hS8.len);refine qR [] 8 [14,16,18,20,25,3,0,26,28] fun s10 g10 w10 c10=>?_;exact qB [true,true,true,true] fun z K0 K=>hJ _ _ _ z _ ⟨ys9,zs9,(s7 0),rfl,rfl,(hys9.ch c10),(hzs9.ch c10),(((c1.trans c7).trans c9).trans c10)⟩ K
 .rintro g2 w2 _ z2 _ ⟨ys,zs,bA,rfl,rfl,hys,hzs,hc⟩;refine qR [] 6 [] fun s11 g11 w11 c11=>?_;by_cases h1:BL p.vo b≠0
  .refine qI (((BL p.vo b) != 0)) true (by simpa using h1) ?_;refine qR [] 6 [] fun s12 g12 w12 c12=>?_;refine qE (.tuple #[S3.v s30,iv (BL p.vo b)]) fun K=>?_;rw[show p.promise b=(p,[],(BL p.vo b))from if_pos h1];exact⟨s30,_,rfl,⟨Sv.nil _,fun h=>absurd rfl h⟩,(nsC hN hO ((hc.n c11).n c12) K),(((hc.nil (TN i)).n c11).n c12)⟩
  .refine qI (((BL p.vo b) != 0)) false (by simpa using h1) ?_;have h10:BL p.vo b=0:=by simpa using h1
   obtain⟨e1,e2⟩:=bU h10;rw[e2]at hys hzs
   refine qR [] 11 [8,0,2,2,4,6,8,10,12,0] fun s14 g14 w14 c14=>?_;by_cases h2:b=p.vo.p
   .refine qT 7 (.bool false) (fun _=>(LY (x:=(.tmp 25)) (y:=(.tmp 31)) b p.vo.p h2)) ?_;refine qR [.n 0 i] 18 [3,0,1] fun s15 g15 w15 c15=>?_;refine qE (.tuple #[S3.v zs,iv 0]) fun K=>?_;rw[show p.promise b=({ p with vo:=⟨b,p.vo.vs⟩ },p.vo.vs,0)from by unfold Nod.promise;rw[if_neg (by simpa using h10),if_pos h2]];have C16:=(((hc.nil ([.n 0 i]:List Tg)).n c11).n c14).trans (c15);have Z16:Tg.z∉([.n 0 i]:List Tg):=by simp
    obtain⟨q1,q2,q3⟩:=K.isN 0 nb (.cells (Ax i ob { p with vo:=⟨EP p.vo b,p.vo.vs⟩ } { x with votes:=ys }) 96) 0 i (by kernel_rfl);rw[e1]at q1
    obtain⟨q4,q5,q6⟩:=K.isN 1 ob (.cells #[S3.v lt,S3.v tl] 66) 50 0 (by kernel_rfl);exact⟨zs,_,rfl,(((hzs.ch c11).ch c14).ch c15),⟨{ x with votes:=ys },lt,tl,⟨q1,q2,q3,hN.tape.ch C16 Z16,(((hys.ch c11).ch c14).ch c15),AZ hN.heard C16 Z16,B0 hN.pend C16 Z16 (by simp),hN.queue.ch C16,hN.agreed.ch C16,hN.wants.ch C16,hN.asked.ch C16,hN.upm⟩,⟨q4,q5,q6,Dd hO.lets C16 Z16 (by simp),hO.told.ch C16⟩,K.new⟩,((((hc.nil (TN i)).n c11).n c14).trans (c15.mono (by simp[TN])))⟩
   .refine qT 7 (.bool true) (fun _=>(LZ (x:=(.tmp 25)) (y:=(.tmp 31)) b p.vo.p h2)) ?_;refine qR [] 9 [12,0,2,4,6,0,8,2] fun s17 g17 w17 c17=>?_;refine BG 55 (fun g' w' e L=>∃ (tz:S3) (bT:Nat),e=[(0,pt nb 0),(6,pt bA 0),(7,S3.v zs),(9,pt bT 0),(10,iv (Cu p.d p.sy (Ad b) (BA b)))]/\L=[⟨nb,.cells (Ax i ob p x) 96,.n 0 i,false⟩,⟨ob,.cells #[S3.v lt,S3.v tl] 66,.n 50 0,false⟩,⟨(s1 0),.cells #[iv b.r,iv b.n] 74,.z,false⟩,⟨bA,.cells #[iv (EP p.vo b).r,iv (EP p.vo b).n,S3.v ys] 77,.l,false⟩,⟨bT,.cells #[S3.v tz,iv (G8 p.d p.sy (Ad b) (BA b))] 94,.l,false⟩]/\FSl g' w' tz (F0 p.d p.sy (Ad b) (BA b))/\FSv g' w' ys p.vo.vs/\FSv g' w' zs p.vo.vs/\Cg w.heap.size [] g w g' w') (by kernel_rfl) ?_ ?_
    .intro J hJ;refine Cv 5 9 (by kernel_rfl) ?_ ?_
     .refine Ae fun Kq20=>?_;have hS20:=(hN.tape.ch (((hc.trans c11).trans c14).trans c17) (by simp)).s;have hB20:=hB.ch (((hc.trans c11).trans c14).trans c17) (by simp);have hG20:∀ z,w17.heap.size<=z->g17.t z=.z:=fun z hz=>(Kq20.new z hz).1;refine qC 5 (IR (s:=p.sy) (b:=b) hS20 (hB20.tt hT) (hB20.tn hT)) ?_;rintro e' w21 ⟨ts21,rfl,hy21,hn21,b21⟩;refine⟨_,rfl,b21,?_⟩;have c21:=Cg.ofBelow (B:=w.heap.size) (T:=[]) (g:=g17) b21;have hts21:FSl _ _ ts21 _:=⟨hy21,fun hl a ha=>hG20 _ (hn21 hl a ha)⟩;refine qR [] 7 [12,14,16,19,1,0,21,4,0,22] fun s22 g22 w22 c22=>?_;exact qB [true,true,true,true,true] fun z K0 K=>hJ _ _ _ z _ ⟨ts21,(s22 0),rfl,rfl,(hts21.ch c22),(((((hys.ch c11).ch c14).ch c17).ch c21).ch c22),(((((hzs.ch c11).ch c14).ch c17).ch c21).ch c22),(((((hc.trans c11).trans c14).trans c17).trans c21).trans c22)⟩ K
     .refine qR [] 1 [1,0] fun s23 g23 w23 c23=>?_;refine Ae fun Kq24=>?_;have hS24:=(hN.tape.ch ((((hc.trans c11).trans c14).trans c17).trans c23) (by simp)).s;have hB24:=hB.ch ((((hc.trans c11).trans c14).trans c17).trans c23) (by simp);have hG24:∀ z,w23.heap.size<=z->g23.t z=.z:=fun z hz=>(Kq24.new z hz).1;refine qC 5 (IR (s:=p.sy) (b:=b) hS24 (hB24.tt hT) (hB24.tn hT)) ?_;rintro e' w25 ⟨ts25,rfl,hy25,hn25,b25⟩;refine⟨_,rfl,b25,?_⟩;have c25:=Cg.ofBelow (B:=w.heap.size) (T:=[]) (g:=g23) b25;have hts25:FSl _ _ ts25 _:=⟨hy25,fun hl a ha=>hG24 _ (hn25 hl a ha)⟩;refine qR [] 6 [12,14,16,21,4,0,22] fun s26 g26 w26 c26=>?_;exact qB [true,true,true,true,true] fun z K0 K=>hJ _ _ _ z _ ⟨ts25,(s23 0),rfl,rfl,(hts25.ch c26),((((((hys.ch c11).ch c14).ch c17).ch c23).ch c25).ch c26),((((((hzs.ch c11).ch c14).ch c17).ch c23).ch c25).ch c26),((((((hc.trans c11).trans c14).trans c17).trans c23).trans c25).trans c26)⟩ K
    .rintro g18 w18 _ z18 _ ⟨tz,bT,rfl,rfl,htz,hys,hzs,hc⟩;refine qR [] 6 [] fun s27 g27 w27 c27=>?_;by_cases h3:Cu p.d p.sy (Ad b) (BA b)≠0
     .refine qI (((Cu p.d p.sy (Ad b) (BA b)) != 0)) true (by simpa using h3) ?_;refine qR [] 6 [] fun s28 g28 w28 c28=>?_;refine qE (.tuple #[S3.v s30,iv (Cu p.d p.sy (Ad b) (BA b))]) fun K=>?_;rw[show p.promise b=(p,[],(Cu p.d p.sy (Ad b) (BA b)))from by unfold Nod.promise;rw[if_neg (by simpa using h10),if_neg h2,if_pos h3]];exact⟨s30,_,rfl,⟨Sv.nil _,fun h=>absurd rfl h⟩,(nsC hN hO ((hc.n c27).n c28) K),(((hc.nil (TN i)).n c27).n c28)⟩
     .refine qI (((Cu p.d p.sy (Ad b) (BA b)) != 0)) false (by simpa using h3) ?_;refine qR [.n 0 i] 23 [4,0,1,3,0,1] fun s30 g30 w30 c30=>?_;refine qE (.tuple #[S3.v zs,iv 0]) fun K=>?_;rw[show p.promise b=({ p with d:=F0 p.d p.sy (Ad b) (BA b),sy:=G8 p.d p.sy (Ad b) (BA b),vo:=⟨b,p.vo.vs⟩ },p.vo.vs,0)from by unfold Nod.promise;rw[if_neg (by simpa using h10),if_neg h2,if_neg h3]];have C31:=((hc.nil ([.n 0 i]:List Tg)).n c27).trans (c30);have Z31:Tg.z∉([.n 0 i]:List Tg):=by simp
      obtain⟨q1,q2,q3⟩:=K.isN 0 nb (.cells (Ax i ob { p with d:=F0 p.d p.sy (Ad b) (BA b),sy:=G8 p.d p.sy (Ad b) (BA b),vo:=⟨EP p.vo b,p.vo.vs⟩ } { x with votes:=ys,tape:=tz }) 96) 0 i (by kernel_rfl);rw[e1]at q1
      obtain⟨q4,q5,q6⟩:=K.isN 1 ob (.cells #[S3.v lt,S3.v tl] 66) 50 0 (by kernel_rfl);exact⟨zs,_,rfl,((hzs.ch c27).ch c30),⟨{ x with votes:=ys,tape:=tz },lt,tl,⟨q1,q2,q3,((htz.ch c27).ch c30),((hys.ch c27).ch c30),AZ hN.heard C31 Z31,B0 hN.pend C31 Z31 (by simp),hN.queue.ch C31,hN.agreed.ch C31,hN.wants.ch C31,hN.asked.ch C31,hN.upm⟩,⟨q4,q5,q6,Dd hO.lets C31 Z31 (by simp),hO.told.ch C31⟩,K.new⟩,(((hc.nil (TN i)).n c27).trans (c30.mono (by simp[TN])))⟩
def PZ(l:List Vt)(v:Vt):Int:=if v∈l then((l.findIdx fun u=>decide (u=v)):Int)else -1
theorem Vw(l:List Vt)(v:Vt):decide (0<=PZ l v)=decide (v∈l):=by
 unfold PZ;by_cases hm:v∈l
 .rw[if_pos hm,decide_eq_true hm];exact decide_eq_true (by omega)
 .rw[if_neg hm,decide_eq_false hm];rfl
theorem Yg{l:List Vt}{v:Vt}{j:Nat}(h:l[j]?=some v)(hb:∀ i,i<j->l[i]?≠some v):PZ l v=(j:Int):=by
 have hm:v∈l:=List.mem_of_getElem? h;obtain⟨hj,hv⟩:=List.getElem?_eq_some_iff.1 h;unfold PZ;rw[if_pos hm]
 congr 1
 rw[List.findIdx_eq hj];exact⟨by simp[hv],fun i hi=>by have:=hb i hi;rw[List.getElem?_eq_getElem (by omega)]at this;simpa using this⟩
theorem Qb{w:World}{x:S3}{l:List Vt}(h:Sv w x.v l)(hb:l.length<100000000)(v:Vt) :
  Calls prog 154 #[x.v,.agg #[iv v.slot,iv v.b.r,iv v.b.n,iv v.w.k,iv v.w.c,iv v.w.s,iv v.w.n,iv v.w.v]] w fun e w'=>e=.returned (iv (PZ l v))/\Bw w w':=by
 have hn:x.n=l.length:=by obtain⟨a,cap,hh⟩:=h.shape;simp only[Value.slice.injEq]at hh;exact hh.2.1
 refine gI (fn:=f154) [] gh0 func154 (fun _ _=>⟨rfl,rfl⟩) ?_;refine qR [] 13 [0,0] fun s1 g1 w1 c1=>?_;refine Br 19 [(0,S3.v x),(3,pt (s1 0) 0),(7,iv (x.n:Int)),(8,iv 0)] [true] [⟨(s1 0),.cells #[iv v.slot,iv v.b.r,iv v.b.n,iv v.w.k,iv v.w.c,iv v.w.s,iv v.w.n,iv v.w.v] 139,.z,false⟩] (fun k g' w' e L=>∃ j:Nat,k=l.length-j/\j<=l.length/\e=[(0,S3.v x),(3,pt (s1 0) 0),(7,iv (x.n:Int)),(8,iv (j:Int))]/\L=[⟨(s1 0),.cells #[iv v.slot,iv v.b.r,iv v.b.n,iv v.w.k,iv v.w.c,iv v.w.s,iv v.w.n,iv v.w.v] 139,.z,false⟩]/\(∀ i,i<j->l[i]?≠some v)/\Cg w.heap.size [] gh0 w g' w') (by kernel_rfl) (by kernel_rfl) (by kernel_rfl) (by kernel_rfl) l.length (fun K=>?_) ?_
 .exact⟨0,rfl,by omega,rfl,rfl,fun i hi=>absurd hi (by omega),c1⟩
 .rintro k gr wr _ zr _ ⟨j,rfl,hj,rfl,rfl,hI,hC⟩ J hJ;refine qR [] 5 [] fun s2 g2 w2 c2=>?_;by_cases h1:j<l.length
  .refine qI ((decide ((j:Int)<(x.n:Int)))) true (decide_eq_true (by omega)) ?_;obtain⟨vj,hvj⟩:∃ vj,l[j]?=some vj:=⟨_,List.getElem?_eq_getElem h1⟩;obtain⟨bx,ox,hxa,hbx,hcell⟩:=h.spot j vj hvj;refine qR [] 13 [6,0,0,2,4] fun s3 g3 w3 c3=>?_;refine qT 3 (pt bx (ox+8*j)) (fun _=>(ZS hxa j (by omega))) ?_;have hW:=Cg.below (hC.trans (c2.trans c3)) (fun _ _=>List.not_mem_nil);refine qV 4 (.agg #[iv vj.slot,iv vj.b.r,iv vj.b.n,iv vj.w.k,iv vj.w.c,iv vj.w.s,iv vj.w.n,iv vj.w.v]) (en vj fun i u hu=>(hW.cell (p:=⟨bx,ox+8*j+i,none⟩) hbx).trans (hcell i u hu)) ?_;refine qT 5 (.bool (decide (v=vj))) (fun _=>(eh (x:=(.tmp 11)) (y:=(.tmp 15)) v vj)) ?_;refine qR [] 1 [] fun s6 g6 w6 c6=>?_;by_cases h3:v=vj
   .refine qI (decide (v=vj)) true (decide_eq_true h3) ?_;refine qR [] 5 [] fun s7 g7 w7 c7=>?_;exact qE (iv (j:Int)) fun K=>⟨by rw[Yg (by rw[h3];exact hvj) hI],Cg.below (hC.trans (((c2.trans c3).trans c6).trans c7)) (fun _ _=>List.not_mem_nil)⟩
   .refine qI (decide (v=vj)) false (decide_eq_false h3) ?_;refine qR [] 3 [] fun s8 g8 w8 c8=>?_;refine qV 0 (iv ((j:Int)+1)) (AN (x:=(.tmp 8)) (y:=(.const (iv 1))) (j:Int) 1 underlying3 (by omega)) ?_;refine qR [] 2 [] fun s9 g9 w9 c9=>?_;refine qB [true] fun z K0 K=>hJ (l.length-(j+1)) _ _ _ z _ (by omega) ⟨j+1,rfl,by omega,rfl,rfl,fun i hi=>?_,hC.trans ((((c2.trans c3).trans c6).trans c8).trans c9)⟩ K;rcases Nat.lt_or_ge i j with h4|h4
    .exact hI i h4
    .rw[show i=j by omega,hvj];intro h5;exact h3 (by simpa using h5.symm)
  .refine qI ((decide ((j:Int)<(x.n:Int)))) false (decide_eq_false (by omega)) ?_;refine qR [] 5 [] fun s10 g10 w10 c10=>?_;have hne:v∉l:=fun hm=>by obtain⟨i,hi⟩:=List.mem_iff_getElem?.1 hm;exact hI i (by have:=(List.getElem?_eq_some_iff.1 hi).1;omega) hi
   exact qE (iv (-1)) fun K=>⟨by unfold PZ;rw[if_neg hne],Cg.below (hC.trans (c2.trans c10)) (fun _ _=>List.not_mem_nil)⟩
theorem KX{w:World}{x:S3}{l:List Vt}(h:Sv w x.v l)(hb:l.length<100000000)(v:Vt) :
  Calls prog 122 #[x.v,.agg #[iv v.slot,iv v.b.r,iv v.b.n,iv v.w.k,iv v.w.c,iv v.w.s,iv v.w.n,iv v.w.v]] w fun e w'=>e=.returned (.bool (decide (v∈l)))/\Bw w w':=by
 refine gI (fn:=f122) [] gh0 func122 (fun _ _=>⟨rfl,rfl⟩) ?_;refine qR [] 9 [0,0,0] fun s1 g1 w1 c1=>?_;have hB1:=Cg.below c1 (fun _ _=>List.not_mem_nil);refine qC 2 (Qb (h.below hB1) hb v) ?_;rintro e' w2 ⟨rfl,b2⟩;refine⟨_,rfl,b2,?_⟩;have c2:=Cg.ofBelow (B:=w.heap.size) (T:=[]) (g:=g1) b2;refine qR [] 3 [] fun s3 g3 w3 c3=>?_;exact qE (.bool (decide (0<=PZ l v))) fun K=>⟨by rw[Vw],Cg.below ((c1.trans c2).trans c3) (fun _ _=>List.not_mem_nil)⟩
theorem LS{g:Gh}{w:World}{i nb ob:Nat}{p:Nod}{ls:List Let}{ts:List Tol}(h:NS i nb ob g w p ls ts){w0:World}(hB:Base w0 g w)(hT:Tabs w0)(v:Vt)(hb:p.vo.vs.length<100000000) :
  Calls prog 86 #[pt nb 0,.agg #[iv v.slot,iv v.b.r,iv v.b.n,iv v.w.k,iv v.w.c,iv v.w.s,iv v.w.n,iv v.w.v]] w (NP i nb ob g w (iv (p.vote v).2) (p.vote v).1 ls ts):=by
 obtain⟨x,lt,tl,hN,hO,hg⟩:=h;refine gI (fn:=f86) (TN i) g func86 hg ?_;refine qN hN ?_;refine qO hO ?_;refine qR [] 13 [0,0,13,0,2,4,6,8,0,10,2] fun s1 g1 w1 c1=>?_;refine BG 52 (fun g' w' e L=>∃ (ys:S3) (bA:Nat),e=[(0,pt nb 0),(3,pt (s1 0) 0),(5,pt bA 0),(6,iv (AW p.vo v))]/\L=[⟨nb,.cells (Ax i ob p x) 96,.n 0 i,false⟩,⟨ob,.cells #[S3.v lt,S3.v tl] 66,.n 50 0,false⟩,⟨(s1 0),.cells #[iv v.slot,iv v.b.r,iv v.b.n,iv v.w.k,iv v.w.c,iv v.w.s,iv v.w.n,iv v.w.v] 139,.z,false⟩,⟨bA,.cells #[iv (BY p.vo v).r,iv (BY p.vo v).n,S3.v ys] 77,.l,false⟩]/\FSv g' w' ys (Dc p.vo v)/\Cg w.heap.size [] g w g' w') (by kernel_rfl) ?_ ?_
 .intro J hJ;refine Cv 6 10 (by kernel_rfl) ?_ ?_
  .refine Ae fun Kq4=>?_;have hS4:=(hN.votes.ch c1).s;have hB4:=hB.ch c1;have hG4:∀ z,w1.heap.size<=z->g1.t z=.z:=fun z hz=>(Kq4.new z hz).1;refine qC 6 (BI p.vo.p _ p.vo.vs v w1 hS4 (hB4.tn hT)) ?_;rintro e' w5 ⟨y5,rfl,hy5,hl5,b5⟩;refine⟨_,rfl,b5,?_⟩;have c5:=Cg.ofBelow (B:=w.heap.size) (T:=[]) (g:=g1) b5;obtain⟨ys5,rfl,hyn5,hys5⟩:=De hy5 hG4 (by omega);refine qR [] 7 [14,16,18,21,1,0,23,3,0,24] fun s6 g6 w6 c6=>?_;exact qB [true,true,true,true] fun z K0 K=>hJ _ _ _ z _ ⟨ys5,(s6 0),rfl,rfl,(hys5.ch c6),((c1.trans c5).trans c6)⟩ K
  .refine qR [] 1 [1,0] fun s7 g7 w7 c7=>?_;refine Ae fun Kq8=>?_;have hS8:=(hN.votes.ch (c1.trans c7)).s;have hB8:=hB.ch (c1.trans c7);have hG8:∀ z,w7.heap.size<=z->g7.t z=.z:=fun z hz=>(Kq8.new z hz).1;refine qC 6 (BI p.vo.p _ p.vo.vs v w7 hS8 (hB8.tn hT)) ?_;rintro e' w9 ⟨y9,rfl,hy9,hl9,b9⟩;refine⟨_,rfl,b9,?_⟩;have c9:=Cg.ofBelow (B:=w.heap.size) (T:=[]) (g:=g7) b9;obtain⟨ys9,rfl,hyn9,hys9⟩:=De hy9 hG8 (by omega);refine qR [] 6 [14,16,18,23,3,0,24] fun s10 g10 w10 c10=>?_;exact qB [true,true,true,true] fun z K0 K=>hJ _ _ _ z _ ⟨ys9,(s7 0),rfl,rfl,(hys9.ch c10),(((c1.trans c7).trans c9).trans c10)⟩ K
 .rintro g2 w2 _ z2 _ ⟨ys,bA,rfl,rfl,hys,hc⟩;refine qR [] 6 [] fun s11 g11 w11 c11=>?_;by_cases h1:AW p.vo v≠0
  .refine qI (((AW p.vo v) != 0)) true (by simpa using h1) ?_;refine qR [] 5 [] fun s12 g12 w12 c12=>?_;refine qE (iv (AW p.vo v)) fun K=>?_;rw[show p.vote v=(p,(AW p.vo v))from if_pos h1];exact⟨_,rfl,(nsC hN hO ((hc.n c11).n c12) K),(((hc.nil (TN i)).n c11).n c12)⟩
  .refine qI (((AW p.vo v) != 0)) false (by simpa using h1) ?_;have h10:AW p.vo v=0:=by simpa using h1
   obtain⟨e1,e2⟩:=Rg h10;rw[e2]at hys
   refine qR [] 11 [9,0,2,4,6,8,10,0,12,2] fun s14 g14 w14 c14=>?_;have hS1:=(hN.votes.ch ((hc.trans c11).trans c14) (by simp)).s;refine qC 7 (KX hS1 hb v) ?_;rintro e' w15 ⟨rfl,b15⟩;refine⟨_,rfl,b15,?_⟩;have c15:=Cg.ofBelow (B:=w.heap.size) (T:=[]) (g:=g14) b15;refine qR [] 2 [16] fun s16 g16 w16 c16=>?_;by_cases h2:v∈p.vo.vs
   .refine qI ((!(decide (v∈p.vo.vs)))) false (by simpa using h2) ?_;refine qR [.n 0 i] 14 [3,0,1] fun s17 g17 w17 c17=>?_;refine qE (iv 0) fun K=>?_;rw[show p.vote v=({ p with vo:=⟨v.b,Bk p.vo.vs v⟩ },0)from by unfold Nod.vote;rw[if_neg (by simpa using h10),if_pos h2]];have C18:=(((((hc.nil ([.n 0 i]:List Tg)).n c11).n c14).n c15).n c16).trans (c17);have Z18:Tg.z∉([.n 0 i]:List Tg):=by simp
    obtain⟨q1,q2,q3⟩:=K.isN 0 nb (.cells (Ax i ob { p with vo:=⟨BY p.vo v,Bk p.vo.vs v⟩ } { x with votes:=ys }) 96) 0 i (by kernel_rfl);rw[e1]at q1
    obtain⟨q4,q5,q6⟩:=K.isN 1 ob (.cells #[S3.v lt,S3.v tl] 66) 50 0 (by kernel_rfl);exact⟨_,rfl,⟨{ x with votes:=ys },lt,tl,⟨q1,q2,q3,hN.tape.ch C18 Z18,(((((hys.ch c11).ch c14).ch c15).ch c16).ch c17),AZ hN.heard C18 Z18,B0 hN.pend C18 Z18 (by simp),hN.queue.ch C18,hN.agreed.ch C18,hN.wants.ch C18,hN.asked.ch C18,hN.upm⟩,⟨q4,q5,q6,Dd hO.lets C18 Z18 (by simp),hO.told.ch C18⟩,K.new⟩,((((((hc.nil (TN i)).n c11).n c14).n c15).n c16).trans (c17.mono (by simp[TN])))⟩
   .refine qI ((!(decide (v∈p.vo.vs)))) true (by simpa using h2) ?_;refine qR [] 7 [12,0,2,4,6,0,8,2] fun s19 g19 w19 c19=>?_;refine BG 52 (fun g' w' e L=>∃ (tz:S3) (bT:Nat),e=[(0,pt nb 0),(5,pt bA 0),(7,pt bT 0),(8,iv (Cu p.d p.sy (Am v) (B1 v)))]/\L=[⟨nb,.cells (Ax i ob p x) 96,.n 0 i,false⟩,⟨ob,.cells #[S3.v lt,S3.v tl] 66,.n 50 0,false⟩,⟨(s1 0),.cells #[iv v.slot,iv v.b.r,iv v.b.n,iv v.w.k,iv v.w.c,iv v.w.s,iv v.w.n,iv v.w.v] 139,.z,false⟩,⟨bA,.cells #[iv (BY p.vo v).r,iv (BY p.vo v).n,S3.v ys] 77,.l,false⟩,⟨bT,.cells #[S3.v tz,iv (G8 p.d p.sy (Am v) (B1 v))] 94,.l,false⟩]/\FSl g' w' tz (F0 p.d p.sy (Am v) (B1 v))/\FSv g' w' ys (Bk p.vo.vs v)/\Cg w.heap.size [] g w g' w') (by kernel_rfl) ?_ ?_
    .intro J hJ;refine Cv 5 9 (by kernel_rfl) ?_ ?_
     .refine Ae fun Kq22=>?_;have hS22:=(hN.tape.ch (((((hc.trans c11).trans c14).trans c15).trans c16).trans c19) (by simp)).s;have hB22:=hB.ch (((((hc.trans c11).trans c14).trans c15).trans c16).trans c19) (by simp);have hG22:∀ z,w19.heap.size<=z->g19.t z=.z:=fun z hz=>(Kq22.new z hz).1;refine qC 5 (OZ (s:=p.sy) (v:=v) hS22 (hB22.tt hT) (hB22.tn hT)) ?_;rintro e' w23 ⟨ts23,rfl,hy23,hn23,b23⟩;refine⟨_,rfl,b23,?_⟩;have c23:=Cg.ofBelow (B:=w.heap.size) (T:=[]) (g:=g19) b23;have hts23:FSl _ _ ts23 _:=⟨hy23,fun hl a ha=>hG22 _ (hn23 hl a ha)⟩;refine qR [] 7 [12,14,16,19,1,0,21,4,0,22] fun s24 g24 w24 c24=>?_;exact qB [true,true,true,true,true] fun z K0 K=>hJ _ _ _ z _ ⟨ts23,(s24 0),rfl,rfl,(hts23.ch c24),(((((((hys.ch c11).ch c14).ch c15).ch c16).ch c19).ch c23).ch c24),(((((((hc.trans c11).trans c14).trans c15).trans c16).trans c19).trans c23).trans c24)⟩ K
     .refine qR [] 1 [1,0] fun s25 g25 w25 c25=>?_;refine Ae fun Kq26=>?_;have hS26:=(hN.tape.ch ((((((hc.trans c11).trans c14).trans c15).trans c16).trans c19).trans c25) (by simp)).s;have hB26:=hB.ch ((((((hc.trans c11).trans c14).trans c15).trans c16).trans c19).trans c25) (by simp);have hG26:∀ z,w25.heap.size<=z->g25.t z=.z:=fun z hz=>(Kq26.new z hz).1;refine qC 5 (OZ (s:=p.sy) (v:=v) hS26 (hB26.tt hT) (hB26.tn hT)) ?_;rintro e' w27 ⟨ts27,rfl,hy27,hn27,b27⟩;refine⟨_,rfl,b27,?_⟩;have c27:=Cg.ofBelow (B:=w.heap.size) (T:=[]) (g:=g25) b27;have hts27:FSl _ _ ts27 _:=⟨hy27,fun hl a ha=>hG26 _ (hn27 hl a ha)⟩;refine qR [] 6 [12,14,16,21,4,0,22] fun s28 g28 w28 c28=>?_;exact qB [true,true,true,true,true] fun z K0 K=>hJ _ _ _ z _ ⟨ts27,(s25 0),rfl,rfl,(hts27.ch c28),((((((((hys.ch c11).ch c14).ch c15).ch c16).ch c19).ch c25).ch c27).ch c28),((((((((hc.trans c11).trans c14).trans c15).trans c16).trans c19).trans c25).trans c27).trans c28)⟩ K
    .rintro g20 w20 _ z20 _ ⟨tz,bT,rfl,rfl,htz,hys,hc⟩;refine qR [] 6 [] fun s29 g29 w29 c29=>?_;by_cases h3:Cu p.d p.sy (Am v) (B1 v)≠0
     .refine qI (((Cu p.d p.sy (Am v) (B1 v)) != 0)) true (by simpa using h3) ?_;refine qR [] 5 [] fun s30 g30 w30 c30=>?_;refine qE (iv (Cu p.d p.sy (Am v) (B1 v))) fun K=>?_;rw[show p.vote v=(p,(Cu p.d p.sy (Am v) (B1 v)))from by unfold Nod.vote;rw[if_neg (by simpa using h10),if_neg h2,if_pos h3]];exact⟨_,rfl,(nsC hN hO ((hc.n c29).n c30) K),(((hc.nil (TN i)).n c29).n c30)⟩
     .refine qI (((Cu p.d p.sy (Am v) (B1 v)) != 0)) false (by simpa using h3) ?_;refine qR [.n 0 i] 21 [4,0,1,3,0,1] fun s32 g32 w32 c32=>?_;refine qE (iv 0) fun K=>?_;rw[show p.vote v=({ p with d:=F0 p.d p.sy (Am v) (B1 v),sy:=G8 p.d p.sy (Am v) (B1 v),vo:=⟨v.b,Bk p.vo.vs v⟩ },0)from by unfold Nod.vote;rw[if_neg (by simpa using h10),if_neg h2,if_neg h3]];have C33:=((hc.nil ([.n 0 i]:List Tg)).n c29).trans (c32);have Z33:Tg.z∉([.n 0 i]:List Tg):=by simp
      obtain⟨q1,q2,q3⟩:=K.isN 0 nb (.cells (Ax i ob { p with d:=F0 p.d p.sy (Am v) (B1 v),sy:=G8 p.d p.sy (Am v) (B1 v),vo:=⟨BY p.vo v,Bk p.vo.vs v⟩ } { x with votes:=ys,tape:=tz }) 96) 0 i (by kernel_rfl);rw[e1]at q1
      obtain⟨q4,q5,q6⟩:=K.isN 1 ob (.cells #[S3.v lt,S3.v tl] 66) 50 0 (by kernel_rfl);exact⟨_,rfl,⟨{ x with votes:=ys,tape:=tz },lt,tl,⟨q1,q2,q3,((htz.ch c29).ch c32),((hys.ch c29).ch c32),AZ hN.heard C33 Z33,B0 hN.pend C33 Z33 (by simp),hN.queue.ch C33,hN.agreed.ch C33,hN.wants.ch C33,hN.asked.ch C33,hN.upm⟩,⟨q4,q5,q6,Dd hO.lets C33 Z33 (by simp),hO.told.ch C33⟩,K.new⟩,(((hc.nil (TN i)).n c29).trans (c32.mono (by simp[TN])))⟩
theorem Kv{p:Nod}{b:Bal}(h:(p.promise b).2.2≠0):(p.promise b).1=p:=by
 unfold Nod.promise at h ⊢;split
 .rfl
 .rename_i h1
  rw[if_neg h1]at h
  split
  .rename_i h2;rw[if_pos h2]at h;exact absurd rfl h
  .rename_i h2
   rw[if_neg h2]at h
   split
   .rfl
   .rename_i h3;rw[if_neg h3]at h;exact absurd rfl h
theorem Sb{p:Nod}{v:Vt}(h:(p.vote v).2≠0):(p.vote v).1=p:=by
 unfold Nod.vote at h ⊢;split
 .rfl
 .rename_i h1
  rw[if_neg h1]at h
  split
  .rename_i h2;rw[if_pos h2]at h;exact absurd rfl h
  .rename_i h2
   rw[if_neg h2]at h
   split
   .rfl
   .rename_i h3;rw[if_neg h3]at h;exact absurd rfl h
theorem GZ(p:Nod)(b:Bal):(p.promise b).1.pend=p.pend:=by
 unfold Nod.promise
 repeat' split
 all_goals rfl
theorem Ml(p:Nod)(v:Vt):(p.vote v).1.pend=p.pend:=by
 unfold Nod.vote
 repeat' split
 all_goals rfl
theorem Hl{g:Gh}{w:World}{i nb ob:Nat}{p:Nod}{ls:List Let}{ts:List Tol}(h:NS i nb ob g w p ls ts){w0:World}(hB:Base w0 g w)(hT:Tabs w0)(lb:Nat)(l:Let)(hl:BX g w lb l)(hk:l.kind=0)(hb:p.pend.length<100000000) :
  Calls prog 42 #[pt nb 0,pt lb 0] w (NP i nb ob g w (.tuple #[]) (p.take l) ls ts):=by
 obtain⟨x,lt,tl,hN,hO,hg⟩:=h;refine gI (fn:=f42) (TN i) g func42 hg ?_;refine qN hN ?_;refine qO hO ?_;have hLL:=hl;obtain⟨vs,wh,hl1,hl2,hl3⟩:=hl;refine BF ⟨lb,.cells (Ex l vs wh) 141,.z,false⟩ (fun _=>⟨hl1.r,hl1.z,fun h=>(by cases h),fun h=>absurd rfl h⟩) (by kernel_rfl) ?_;refine qR [] 12 [0,0,0,0,5,0,3,2,4,4,6,8,2] fun s1 g1 w1 c1=>?_;refine BG 27 (fun g' w' e L=>∃ (yv:S3) (b4:Nat),e=[(2,pt (s1 0) 0),(3,pt (s1 1) 0),(4,pt b4 0),(5,iv (p.promise l.bal).2.2)]/\L=[⟨lb,.cells (Ex l vs wh) 141,.z,false⟩,⟨(s1 0),.cells #[pt nb 0] 69,.z,false⟩,⟨(s1 1),.cells #[pt lb 0] 142,.z,false⟩,⟨b4,.cells #[S3.v yv] 75,.l,false⟩]/\FSv g' w' yv (p.promise l.bal).2.1/\NS i nb ob g' w' (p.promise l.bal).1 ls ts/\Cg w.heap.size (TN i) g w g' w') (by kernel_rfl) ?_ ?_
 .intro J hJ;refine Cv 5 9 (by kernel_rfl) ?_ ?_
  .refine Ae fun K=>?_;have N4:NS i nb ob g1 w1 p ls ts:=(nsC hN hO c1 K);refine qG 5 (TN i) [false,false,true,true,true] (E2 N4 (hB.ch (c1.nil (TN i)) (AV i)) hT l.bal) ?_;rintro e' w4 ⟨y4,g4,rfl,hy4,M4,c4⟩;refine⟨_,g4,rfl,c4,M4.new,?_⟩;replace c4:=c4.ret (B:=w.heap.size);refine qR [] 7 [12,14,16,19,1,0,21,3,0,22] fun s6 g6 w6 c6=>?_;exact qB [true,true,true,true] fun z K0 K=>hJ _ _ _ z _ ⟨y4,(s6 0),rfl,rfl,(hy4.ch c6),NS.ch0 M4 c6 K0.new,(((c1.nil (TN i)).trans (c4)).n c6)⟩ K
  .refine qR [] 1 [1,0] fun s7 g7 w7 c7=>?_;refine Ae fun K=>?_;have N8:NS i nb ob g7 w7 p ls ts:=(nsC hN hO (c1.n c7) K);refine qG 5 (TN i) [false,false,true,true,true,true] (E2 N8 (hB.ch ((c1.nil (TN i)).n c7) (AV i)) hT l.bal) ?_;rintro e' w8 ⟨y8,g8,rfl,hy8,M8,c8⟩;refine⟨_,g8,rfl,c8,M8.new,?_⟩;replace c8:=c8.ret (B:=w.heap.size);refine qR [] 6 [12,14,16,21,3,0,22] fun s10 g10 w10 c10=>?_;exact qB [true,true,true,true] fun z K0 K=>hJ _ _ _ z _ ⟨y8,(s7 0),rfl,rfl,(hy8.ch c10),NS.ch0 M8 c10 K0.new,((((c1.nil (TN i)).n c7).trans (c8)).n c10)⟩ K
 .rintro g2 w2 _ z2 _ ⟨yv,b4,rfl,rfl,hyv,hM,hc⟩;obtain⟨x1,lt1,tl1,hN1,hO1,hg1⟩:=hM;refine qN hN1 ?_;refine qO hO1 ?_;refine dN 3 b4 (by kernel_rfl) fun g11 c11=>?_;refine qR [] 6 [] fun s12 g12 w12 c12=>?_;by_cases h1:(p.promise l.bal).2.2≠0
  .refine qI (((p.promise l.bal).2.2 != 0)) true (by simpa using h1) ?_;refine qR [] 8 [6,0,1,2,2,4,6,8,0,10] fun s13 g13 w13 c13=>?_;have hp:=Kv h1;rw[show p.take l=p.refuse l.src (p.promise l.bal).2.2 from by unfold Nod.take;rw[hk];exact if_pos h1];refine Ae fun K=>?_;have N14:NS i nb ob g13 w13 ((p.promise l.bal).1) ls ts:=(nsC hN1 hO1 ((c11.n c12).n c13) K);rw[hp]at N14
   refine qS0 6 [true,true,true,true,false,false] (K5 N14 hb l.src (p.promise l.bal).2.2) fun g14 w14 x14 lt14 tl14 hN14 hO14 c14=>?_;refine qR [] 1 [] fun s16 g16 w16 c16=>?_;exact qF hN14 hO14 c16 ((((((hc).n c11).n c12).n c13).trans (c14)).n c16)
  .refine qI (((p.promise l.bal).2.2 != 0)) false (by simpa using h1) ?_;refine qR [] 4 [1] fun s18 g18 w18 c18=>?_;rw[show p.take l=(p.promise l.bal).1.wait (.prom l.src l.bal (p.promise l.bal).2.1)from by unfold Nod.take;rw[hk];exact if_neg h1];refine Ae fun K=>?_;obtain⟨z1,z2⟩:=K.isZ 1 (s1 0) (.cells #[pt nb 0] 69) false (by kernel_rfl);obtain⟨z3,z4⟩:=K.isZ 2 (s1 1) (.cells #[pt lb 0] 142) false (by kernel_rfl);obtain⟨z5,z6⟩:=K.isZ 3 b4 (.cells #[S3.v yv] 75) false (by kernel_rfl);have N19:NS i nb ob g18 w18 ((p.promise l.bal).1) ls ts:=(nsC hN1 hO1 ((c11.n c12).n c18) K);refine qS0 2 [true,true,true,true,false,false] (AG N19 (by rw[GZ];exact hb) _ _ (.prom l.src l.bal (p.promise l.bal).2.1) ⟨(s1 0),(s1 1),b4,yv,lb,l,rfl,⟨z1,z2⟩,⟨z3,z4⟩,⟨z5,z6⟩,(((hyv.ch c11).ch c12).ch c18),hLL.ch ((((hc).n c11).n c12).n c18) (AV i),rfl,rfl⟩) fun g19 w19 x19 lt19 tl19 hN19 hO19 c19=>?_;refine qR [] 1 [] fun s21 g21 w21 c21=>?_;exact qF hN19 hO19 c21 ((((((hc).n c11).n c12).n c18).trans (c19)).n c21)
theorem Iv{g:Gh}{w:World}{i nb ob:Nat}{p:Nod}{ls:List Let}{ts:List Tol}(h:NS i nb ob g w p ls ts){w0:World}(hB:Base w0 g w)(hT:Tabs w0)(lb:Nat)(l:Let)(hl:BX g w lb l)(hk:l.kind=3)(hb:p.pend.length<100000000)(hb2:p.vo.vs.length<100000000) :
  Calls prog 45 #[pt nb 0,pt lb 0] w (NP i nb ob g w (.tuple #[]) (p.take l) ls ts):=by
 obtain⟨x,lt,tl,hN,hO,hg⟩:=h;refine gI (fn:=f45) (TN i) g func45 hg ?_;refine qN hN ?_;refine qO hO ?_;have hLL:=hl;obtain⟨vs,wh,hl1,hl2,hl3⟩:=hl;refine BF ⟨lb,.cells (Ex l vs wh) 141,.z,false⟩ (fun _=>⟨hl1.r,hl1.z,fun h=>(by cases h),fun h=>absurd rfl h⟩) (by kernel_rfl) ?_;refine qR [] 13 [0,0,0,0,5,0,3,2,4,4,6,8,2] fun s1 g1 w1 c1=>?_;refine qS 5 [false,false,true,true,true] hN hO c1 (fun N2=>LS N2 (hB.ch (c1.nil (TN i)) (AV i)) hT l.vote hb2) fun g2 w2 x2 lt2 tl2 hN2 hO2 c2=>?_;refine qR [] 7 [12] fun s4 g4 w4 c4=>?_;by_cases h1:(p.vote l.vote).2≠0
 .refine qI (((p.vote l.vote).2 != 0)) true (by simpa using h1) ?_;refine qR [] 8 [6,0,1,2,2,4,6,8,0,10] fun s5 g5 w5 c5=>?_;have hp:=Sb h1;rw[show p.take l=p.refuse l.src (p.vote l.vote).2 from by unfold Nod.take;rw[hk];exact if_pos h1];refine Ae fun K=>?_;have N6:NS i nb ob g5 w5 ((p.vote l.vote).1) ls ts:=(nsC hN2 hO2 (c4.n c5) K);rw[hp]at N6
  refine qS0 6 [true,true,true,false,false] (K5 N6 hb l.src (p.vote l.vote).2) fun g6 w6 x6 lt6 tl6 hN6 hO6 c6=>?_;refine qR [] 1 [] fun s8 g8 w8 c8=>?_;exact qF hN6 hO6 c8 ((((((c1.nil (TN i)).trans (c2)).n c4).n c5).trans (c6)).n c8)
 .refine qI (((p.vote l.vote).2 != 0)) false (by simpa using h1) ?_;refine qR [] 4 [1] fun s10 g10 w10 c10=>?_;rw[show p.take l=(p.vote l.vote).1.wait (.voted l.src l.vote)from by unfold Nod.take;rw[hk];exact if_neg h1];refine Ae fun K=>?_;obtain⟨z1,z2⟩:=K.isZ 1 (s1 0) (.cells #[pt nb 0] 69) false (by kernel_rfl);obtain⟨z3,z4⟩:=K.isZ 2 (s1 1) (.cells #[pt lb 0] 142) false (by kernel_rfl);have N11:NS i nb ob g10 w10 ((p.vote l.vote).1) ls ts:=(nsC hN2 hO2 (c4.n c10) K);refine qS0 2 [true,true,true,false,false] (AG N11 (by rw[Ml];exact hb) _ _ (.voted l.src l.vote) ⟨(s1 0),(s1 1),lb,l,rfl,⟨z1,z2⟩,⟨z3,z4⟩,hLL.ch ((((c1.nil (TN i)).trans (c2)).n c4).n c10) (AV i),rfl,rfl⟩) fun g11 w11 x11 lt11 tl11 hN11 hO11 c11=>?_;refine qR [] 1 [] fun s13 g13 w13 c13=>?_;exact qF hN11 hO11 c13 ((((((c1.nil (TN i)).trans (c2)).n c4).n c10).trans (c11)).n c13)
theorem Nc{g:Gh}{w:World}{i nb ob:Nat}{p:Nod}{ls:List Let}{ts:List Tol}(h:NS i nb ob g w p ls ts)(lb:Nat)(l:Let)(hl:BX g w lb l)(hk:l.kind=5)(hb:p.pend.length<100000000)(hb2:p.agreed.length<100000000)(hb3:l.what.length<100000000) :
  Calls prog 47 #[pt nb 0,pt lb 0] w (NP i nb ob g w (.tuple #[]) (p.take l) ls ts):=by
 obtain⟨x,lt,tl,hN,hO,hg⟩:=h;refine gI (fn:=f47) (TN i) g func47 hg ?_;refine qN hN ?_;refine qO hO ?_;have hLL:=hl;have hn:=hN.agreed.num;obtain⟨vs,wh,hl1,hl2,hl3⟩:=hl;refine BF ⟨lb,.cells (Ex l vs wh) 141,.z,false⟩ (fun _=>⟨hl1.r,hl1.z,fun h=>(by cases h),fun h=>absurd rfl h⟩) (by kernel_rfl) ?_;refine qR [] 20 [0,0,0,0,11,0,4,2,4,6,2,8,3,10,12,14,16,0,18,20] fun s1 g1 w1 c1=>?_;by_cases h1:p.agreed.length<l.slot
 .refine qI ((decide ((x.agreed.n:Int)<(l.slot:Int)))) true (decide_eq_true (by omega)) ?_;refine qR [] 4 [3] fun s2 g2 w2 c2=>?_;rw[show p.take l=p.wait (.askNews l.src)from by unfold Nod.take;rw[hk];exact if_pos h1];refine Ae fun K=>?_;obtain⟨z1,z2⟩:=K.isZ 3 (s1 0) (.cells #[pt nb 0] 69) false (by kernel_rfl);obtain⟨z3,z4⟩:=K.isZ 4 (s1 1) (.cells #[pt lb 0] 142) false (by kernel_rfl);have N3:NS i nb ob g2 w2 p ls ts:=(nsC hN hO (c1.n c2) K);refine qS0 2 [false,false,true,true,true] (AG N3 hb _ _ (.askNews l.src) ⟨(s1 0),(s1 1),lb,l,rfl,⟨z1,z2⟩,⟨z3,z4⟩,hLL.ch ((c1.nil (TN i)).n c2) (AV i),rfl⟩) fun g3 w3 x3 lt3 tl3 hN3 hO3 c3=>?_;refine qR [] 1 [] fun s5 g5 w5 c5=>?_;exact qF hN3 hO3 c5 ((((c1.nil (TN i)).n c2).trans (c3)).n c5)
 .refine qI ((decide ((x.agreed.n:Int)<(l.slot:Int)))) false (decide_eq_false (by omega)) ?_;refine qR [] 11 [9,0,3,2,4,4,6,8,2,10,4,12,14,16,2] fun s7 g7 w7 c7=>?_;rw[show p.take l=p.learn l.slot l.what from by unfold Nod.take;rw[hk];exact if_neg h1];refine qS 9 [false,false,true,true,true] hN hO (c1.n c7) (fun N8=>LM N8 l.slot l.what wh (hl3.ch ((c1.nil (TN i)).n c7) (AV i)) (by omega) hb2 hb3) fun g8 w8 x8 lt8 tl8 hN8 hO8 c8=>?_;refine qR [] 1 [] fun s10 g10 w10 c10=>?_;exact qF hN8 hO8 c10 ((((c1.nil (TN i)).n c7).trans (c8)).n c10)
end Go.Proofs.YtalbmmghmoggcaaGreatDoor
