/- Part 21 of the walk. -/
import Derived.Test.YtaeckakjdagddadGreatDoorZ20
import Derived.Test.YtaeckakjdagddadGreatDoorZ19
set_option maxRecDepth 100000
set_option maxHeartbeats 4000000
open Go.Proofs.Tryz
set_option linter.unusedVariables false
namespace Go.Proofs.YtaeckakjdagddadGreatDoor
open Go.RowKit
def dif(la lb:List Int):Nat→Int
 | 0=>0
 | k+1=>bits .or .u8 (dif la lb k) (bits .xor .u8 (la.getD k 0) (lb.getD k 0))
theorem fV{a b:Nat}:a ||| b=0↔a=0∧b=0:=by
 constructor
 ·intro h;have h1:∀ i,(a ||| b).testBit i=false:=by intro i;rw[h];simp
  constructor
  ·apply Nat.eq_of_testBit_eq;intro i;have:=h1 i;rw[Nat.testBit_or]at this;simp at this;simp[this.1]
  ·apply Nat.eq_of_testBit_eq;intro i;have:=h1 i;rw[Nat.testBit_or]at this;simp at this;simp[this.2]
 ·rintro⟨rfl,rfl⟩;rfl
theorem fP{a b:Nat}:a ^^^ b=0↔a=b:=by
 constructor
 ·intro h;have h1:∀ i,(a ^^^ b).testBit i=false:=by intro i;rw[h];simp
  apply Nat.eq_of_testBit_eq;intro i;have:=h1 i;rw[Nat.testBit_xor]at this;simpa using this
 ·rintro rfl;simp
theorem V1{la lb:List Int}(ha:∀ x∈la,0≤x∧x<256)(hb:∀ x∈lb,0≤x∧x<256)(k:Nat) :
  0≤dif la lb k∧dif la lb k<256∧(dif la lb k=0↔∀ i,i<k→la.getD i 0=lb.getD i 0):=by
 induction k with
 | zero=>simp[dif]
 | succ k ih =>
  obtain⟨h1,h2,h3⟩:=ih;have hx:=Aj ha k;have hy:=Aj hb k;have e1:=u8_xor _ _ hx.1 hx.2 hy.1 hy.2;have hlt:(la.getD k 0).toNat ^^^ (lb.getD k 0).toNat<256:=Nat.xor_lt_two_pow (n:=8) (by omega) (by omega);have e2:=u8_or (dif la lb k) (((la.getD k 0).toNat ^^^ (lb.getD k 0).toNat:Nat):Int) h1 h2 (by omega) (by omega);have e3:dif la lb (k+1)=(((dif la lb k).toNat ||| ((la.getD k 0).toNat ^^^ (lb.getD k 0).toNat):Nat):Int):=by
   show bits .or .u8 (dif la lb k) (bits .xor .u8 (la.getD k 0) (lb.getD k 0))=_;rw[e1,e2];simp
  have hlt2:(dif la lb k).toNat ||| ((la.getD k 0).toNat ^^^ (lb.getD k 0).toNat)<256:=Nat.or_lt_two_pow (n:=8) (by omega) hlt;refine⟨by rw[e3];omega,by rw[e3];omega,?_⟩;have e4:dif la lb (k+1)=0↔dif la lb k=0∧la.getD k 0=lb.getD k 0:=by
   rw[e3];have:=@fV (dif la lb k).toNat ((la.getD k 0).toNat ^^^ (lb.getD k 0).toNat);have h5:=@fP (la.getD k 0).toNat (lb.getD k 0).toNat;rw[h5]at this
   constructor
   ·intro h;have:=this.1 (by omega);omega
   ·intro h;have:=this.2 (by omega);omega
  rw[e4,h3];constructor
  ·intro h i hi;rcases Nat.lt_or_ge i k with h'|h'
   ·exact h.1 i h'
   ·obtain rfl:i=k:=by omega
    exact h.2
  ·intro h;exact⟨fun i hi=>h i (by omega),h k (by omega)⟩
theorem Yz{la lb:List Int}(ha:∀ x∈la,0≤x∧x<256)(hb:∀ x∈lb,0≤x∧x<256)(hl:la.length=lb.length):(dif la lb lb.length==0)=decide (la=lb):=by
 rw[Bool.eq_iff_iff,decide_eq_true_iff,beq_iff_eq,(V1 ha hb _).2.2];constructor
 ·intro h;apply List.ext_getElem hl;intro i h1 h2;have:=h i h2
  rwa [AL h1,AL h2]at this
 ·rintro rfl _ _;rfl
theorem Hm(va vb:Value)(la lb:List Int)(w:World)(ha:Sl w va la)(hb:Sl w vb lb) :
  Calls prog 48 #[va,vb] w fun e w'=>e=.returned (.bool (decide (la=lb)))∧∃ n,w'=w.drewN n:=by
 obtain⟨⟨a,cap,rfl,hc,hn,h1⟩,hla,hba⟩:=ha;obtain⟨⟨b,cap',rfl,hc',hn',h1'⟩,hlb,hbb⟩:=hb;by_cases hl:la.length=lb.length
 ·rcases h1 with rfl|⟨ba,oa,rfl,_,hca⟩
  ·obtain rfl:lb=[]:=List.eq_nil_of_length_eq_zero (by simpa using hl.symm);go_enter func48,ntmps48
   go_wp2
   refine wp_loop_rounds 1 ?_;rw[rounds_succ];go_wp2
   go_ret;exact⟨rfl,0,rfl⟩
  ·rcases h1' with rfl|⟨bb,ob,rfl,_,hcb⟩
   ·obtain rfl:la=[]:=List.eq_nil_of_length_eq_zero (by simpa using hl);go_enter func48,ntmps48
    go_wp2
    refine wp_loop_rounds 1 ?_;rw[rounds_succ];go_wp2
    go_ret;exact⟨rfl,0,rfl⟩
   ·have HD:Hid ((dif la lb lb.length==0)=decide (la=lb)):=Yz hba hbb hl;go_enter func48,ntmps48
    go_wp2
    go_loopw [5,14] (fun d i wr=>∃ k n:Nat,k≤lb.length∧i=.int .i64 k∧d=.int .u8 (dif la lb k)∧wr=w.drewN n) (fun _ i _=>lb.length-(intOf i).toNat)
    case atStart=>exact⟨0,0,Nat.zero_le _,rfl,rfl,rfl⟩
    case round =>
     obtain⟨k,n,hk,rfl,rfl,rfl⟩:=hrel;by_cases hlt:k<lb.length
     ·have hx:=hca k (by omega);have hy:=hcb k hlt;clear hca hcb hba hbb;have hka:k<la.length:=by omega
      go_wp2
      go_quiet (fail)
      go_wp2
      go_roundw
      case rel=>exact⟨k+1,_,by omega,by go_num,by simp only[dif,AL hka,AL hlt],rfl⟩
      case measure=>simp[intOf];omega
     ·obtain rfl:k=lb.length:=by omega
      clear hca hcb;go_wp2
      go_ret;exact⟨Ac HD.out,n,rfl⟩
 ·have hne:((la.length:Int)==(lb.length:Int))=false:=by simp;omega
  have hdd:decide (la=lb)=false:=decide_eq_false (fun e=>hl (by rw[e]));go_enter func48,ntmps48
  go_wp2
  go_ret;exact⟨Ac hdd.symm,0,rfl⟩
theorem MB(v:Value)(l:List Int)(w:World)(h:Sl w v l)(hl:l.length≤2000)(ht:AC w) :
  Calls prog 177 #[v] w fun e w'=>∃ a c,e=.returned (.tuple #[.slice a 4 c,.int .i64 0])∧Sl w' (.slice a 4 c) ((dig l).take 4)∧Bw w w':=by
 go_enter func177,ntmps177
 go_wp2_with fail
 refine(dG v l w h hl ht).mono ?_;rintro e w1 ⟨y,rfl,f1⟩;obtain⟨g,cap,hy,hg,hcap⟩:=f1.shape;rw[Az]at hy hcap
 subst hy;obtain⟨a4,c4,r4,s4⟩:=f1.sl.upTo 4 (by rw[Az];decide);have b1:=f1.bel;clear f1;have hcap4:(4:Int)≤(cap:Int):=by omega
 replace r4:∀ W,(Instr.slice 40 (.slice (some ⟨g,0,none⟩) 32 cap) none (some (.int .i64 4)) none).run prog W=.ok (.slice a4 4 c4) W:=r4;go_wp2
 go_ret2
 exact⟨a4,c4,rfl,s4,b1⟩
theorem Lw(v:Value)(r:List Int)(w:World)(h:Sl w v r)(ht:AC w){u:World}(hu:Sl u v r) :
  Calls prog 158 #[v] w fun e w'=>∃ a n c,e=.returned (.tuple #[.slice a n c,.bool (fbO r).isSome])∧Sl u (.slice a n c) ((fbO r).getD [])∧Bw w w':=by
 have hlen:=h.len;have hx:=Aj h.byte 0;obtain⟨ax,cp,rfl⟩:=h.shapeT;by_cases h0:r=[]
 ·subst h0;have HO:Hid (fbO []=none):=if_pos rfl;rw[HO.out];go_enter func158,ntmps158
  go_wp2
  go_ret2
  exact⟨none,0,0,rfl,Sl.nil _ _,Below.refl _ _⟩
 ·have hp:0<r.length:=by
   rcases Nat.eq_zero_or_pos r.length with g|g
   ·exact absurd (List.eq_nil_of_length_eq_zero g) h0
   ·exact g
  obtain⟨bd,od,rfl,hbd,hc⟩:=h.spotO 0 hp;obtain⟨x,hx0⟩:∃ x:Nat,r.getD 0 0=(x:Int):=⟨(r.getD 0 0).toNat,by omega⟩;have hxn:(r.getD 0 0).toNat=x:=by rw[hx0];exact Int.toNat_natCast _
  rw[hx0]at hc hx
  obtain⟨M,hM⟩:∃ M,r.length=M:=⟨_,rfl⟩;have HM:Hid (r.length=M):=hM;have HX:Hid ((r.getD 0 0).toNat=x):=hxn;have hz:(0:Int)<(M:Int):=by omega
  have hne:((M:Int)==0)=false:=by simp;omega
  rw[hM]at h hu hlen hp ⊢
  have hx2:x<256:=by omega
  have H0:Hid (¬ r=[]):=h0;clear hM hx0 hxn hx h0;rw[Nat.add_zero]at hc
  by_cases h1:M<x+5
  ·have HO:Hid (fbO r=none):=by
    unfold Hid fbO;rw[if_neg H0.out,HX.out,HM.out,if_pos h1]
   rw[HO.out];have h1i:(M:Int)<1+(x:Int)+4:=by omega
   clear H0 HX;go_enter func158,ntmps158
   go_wp2
   go_ret2
   exact⟨none,0,0,rfl,Sl.nil _ _,Below.refl _ _⟩
  ·have h1i:¬ (M:Int)<1+(x:Int)+4:=by omega
   obtain⟨E,hE⟩:∃ E:Nat,E=x+1:=⟨_,rfl⟩;have HE:Hid (E=x+1):=hE;have hEi:1+(x:Int)=(E:Int):=by omega
   have hE2:E+4≤M:=by omega
   have hE3:E≤256:=by omega
   have hE4:1≤E:=by omega
   rw[hEi]at h1i
   obtain⟨au,cu,ru,su⟩:=h.upTo E (by rw[HM.out];omega);obtain⟨af,cf,rf,sf⟩:=h.cutT E (E+4) 4 (by omega) (by rw[HM.out];omega) (by omega) (E:Int) ((E:Int)+4) rfl (by omega);obtain⟨ab,cb,rb,sb⟩:=hu.cutT 1 E x hE4 (by rw[HM.out];omega) (by omega) 1 (E:Int) rfl rfl;have hl:(r.take E).length=E:=by rw[List.length_take,HM.out];omega
   have HF:Hid ((r.take (E+4)).drop E=(r.drop E).take 4):=by unfold Hid;rw[List.drop_take,show E+4-E=4 by omega]
   rw[HF.out]at sf
   clear hE h1 hE4 HF;go_enter func158,ntmps158
   go_wp2_with fail
   refine(MB (.slice au E cu) (r.take E) w su (by omega) ht).mono ?_;rintro e w1 ⟨ag,cg,rfl,sg,b1⟩;have sf1:=sf.below b1;have sb1:=sb;clear su sf sb ru hc hbd hl;go_wp2_with fail
   refine(Hm (.slice ag 4 cg) (.slice af 4 cf) ((dig (r.take E)).take 4) ((r.drop E).take 4) w1 sg sf1).mono ?_;rintro e w2 ⟨rfl,n2,hw2⟩;have b2:Bw w1 w2:=by rw[hw2];exact An (Below.refl _ _) n2
   clear hw2;have d2:=b1.trans (b2.mono b1.size);have sb2:=sb1;clear b1 b2 sb1 sg sf1 rf;by_cases h2:(dig (r.take E)).take 4=(r.drop E).take 4
   ·have HO:Hid (fbO r=some ((r.take E).drop 1)):=by
     unfold Hid fbO;have:=HE.out;rw[if_neg H0.out,HX.out,HM.out,if_neg (by omega),← this,if_neg (fun g=>g h2)]
    rw[decide_eq_true h2];clear h2 H0 HX HE;go_wp2
    go_ret2
    rw[HO.out];exact⟨ab,x,cb,rfl,sb2,d2⟩
   ·have HO:Hid (fbO r=none):=by
     unfold Hid fbO;have:=HE.out;rw[if_neg H0.out,HX.out,HM.out,if_neg (by omega),← this,if_pos h2]
    rw[decide_eq_false h2];clear h2 H0 HX HE sb2;go_wp2
    go_ret2
    rw[HO.out];exact⟨none,0,0,rfl,Sl.nil _ _,d2⟩
theorem Nq(v:Value)(b:List Int)(w:World)(h:Sl w v b)(hb:b.length≤255)(ht:AC w) :
  Calls prog 173 #[v] w fun e w'=>∃ y,e=.returned (.tuple #[y,.int .i64 0])∧w'.ownsRow w.heap.size 5 1 y (BJ b).length ((BJ b).map (Value.int .u8))∧Bw w w':=by
 obtain⟨ax,cp,rfl⟩:=h.shapeT;obtain⟨N,hN⟩:∃ N,b.length=N:=⟨_,rfl⟩;have HN:Hid (b.length=N):=hN;have HR:Hid (DG b++(dig (DG b)).take 4=BJ b):=rfl;have HF:Hid ([(N:Int)]++b=DG b):=by unfold Hid DG;rw[hN];rfl
 have HFB:Hid ((DG b).length=N+1∧∀ x∈DG b,0≤x∧x<256):=⟨by rw[GQ,hN],Kj h.byte hb⟩;rw[hN]at h hb ⊢
 have hwr:(N:Int)%256=(N:Int):=by omega
 have hll:[(N:Int)].length+b.length≤140737488355328:=by rw[hN];simp;omega
 clear hN;obtain⟨W1,hW1⟩:∃ W1,w.alloc (.cells #[.int .u8 (N:Int)] 5)=W1:=⟨_,rfl⟩;have b1:Bw w W1:=by rw[← hW1];exact BF _ _
 have o1:W1.ownsRow w.heap.size 5 1 (.slice (some ⟨w.heap.size,0,none⟩) 1 1) [(N:Int)].length ([(N:Int)].map (Value.int .u8)):=by rw[← hW1];exact I1 w N N 5 rfl (Nat.le_refl _) rfl
 have h1:=h.below b1;go_enter func173,ntmps173
 go_wp2_with (at_builtin;refine Aa _ rfl _ _ 40 rfl w.heap.size 5 underlying40 As _ _ rfl rfl [(N:Int)] b o1 h1 hll b1.size ?_)
 clear hW1;intro v2 w2 o2 g2;have hlt1:=o1.lt;have b2:Bw w w2:=b1.grown g2 b1.size (fun k hk=>(hlt1 k hk).1);replace o2:w2.ownsRow w.heap.size 5 1 v2 ([(N:Int)]++b).length (([(N:Int)]++b).map (Value.int .u8)):=by simpa using o2
 rw[HF.out]at o2
 have s2:=Sl.ofOwns o2 (by rw[HFB.out.1];omega) HFB.out.2;have hfl:(DG b).length≤2000:=by rw[HFB.out.1];omega
 have hfd:(DG b).length+((dig (DG b)).take 4).length≤140737488355328:=by rw[HFB.out.1,List.length_take,Az];omega
 clear o1 g2 hlt1 HF hll h1;generalize hFr:DG b=F at o2 s2 hfl hfd HR;have HO2:Hid (w2.ownsRow w.heap.size 5 1 v2 F.length (F.map (Value.int .u8))):=o2;clear o2 hFr HFB;go_wp2_with fail
 refine(MB v2 F w2 s2 hfl (ht.below b2)).mono ?_;rintro e w3 ⟨a4,c4,rfl,s4,b3⟩;have d3:=b2.trans (b3.mono b2.size);have HO3:Hid (w3.ownsRow w.heap.size 5 1 v2 F.length (F.map (Value.int .u8))):=CQ HO2.out (fun k hk=>b3.block k (HO2.out.lt k hk).2);have hlt:=HO3.out.lt;generalize hD:(dig F).take 4=D at s4 HR hfd;clear HO2 b3 hD s2;have hz3:=d3.size;go_wp2_with (at_builtin;refine Aa _ rfl _ _ 40 rfl w.heap.size 5 underlying40 As _ _ rfl rfl F D HO3.out s4 hfd hz3 ?_)
 intro v5 w5 o5 g5;have d5:Bw w w5:=d3.grown g5 d3.size (fun k hk=>(hlt k hk).1);have HO5:Hid (w5.ownsRow w.heap.size 5 1 v5 (BJ b).length ((BJ b).map (Value.int .u8))):=by
  unfold Hid;rw[← HR.out];simpa using o5
 clear o5 g5 HO3 hlt s4;go_wp2
 go_ret2
 exact⟨_,rfl,HO5.out,d5⟩
section
variable{P:Program}{md:Region.Mode}{ops:Array Oper}{Q:Exit→Act→World→Prop}{S:World→Prop}
theorem TV{i d:Nat}{o:Oper}{a:Act}{w:World}{K:Act→World→Prop}(ho:ops[i]?=some o)(hw:Region.wanted o (yielded ops a.tmps)=true)(hd:o.dst=some d)(s x:Operand)(t:TypeId)
  (hop:o.op=.call { callee:=.builtin .append,args:=#[s,x],argTypes:=#[t,t] })
  (base e:Nat)(ht:P.underlying t=some (.slice e))(hinfo:(P.info? e).map (fun i=>(i.zero,i.size,i.bytes))=some (some (.int .u8 0),1,1))
  (v u:Value)(hs:a.eval s=v)(hx:a.eval x=u)(l m:List Int)(hown:w.ownsRow base e 1 v l.length (l.map (Value.int .u8)))(hu:Sl w u m)
  (hlen:l.length+m.length≤140737488355328)(hbase:base≤w.heap.size)
  (h:∀ v' w',w'.ownsRow base e 1 v' (l++m).length ((l++m).map (Value.int .u8))→w.grownBy w' v.ownBlock→K (a.put (some d) v') w'):wpOp P ops Q i K a w :=
 wpOp_step ho fun K' hK=>by
  rw[if_pos hw];obtain⟨v',w',hrun,r1,r2⟩:=Gg (P:=P) w base t o.type e ht hinfo v l hown u m hu hlen hbase;unfold Oper.wp execOp;simp only[hop,resolve,invoke,builtin,Sem.run_bind,Sem.run_pure,Result.andThen_ok,List.map_toArray,List.map_cons,List.map_nil,hs,hx,hrun];exact hK _ _ (by rw[hd];exact h v' w' r1 r2)
end
theorem FX(x:Value)(d:List Int)(s:Int)(k:Nat)(hk:k≤1000)(w:World)(h:Sl w x d) :
  Calls prog 151 #[.agg (tpA x s),.int .i64 (k:Int)] w fun e w'=>e=.returned (.int .i64 (G4 d s k))∧Bw w w':=by
 have hlen:=h.len;obtain⟨ax,cp,rfl⟩:=h.shapeT;obtain⟨M,hM⟩:∃ M,d.length=M:=⟨_,rfl⟩;have HM:Hid (d.length=M):=hM;rw[hM]at h hlen ⊢
 clear hM;simp only[tpA];obtain⟨W0,hW0⟩:∃ W0,w.alloc (.cells #[.slice ax M cp,.int .i64 s] 111)=W0:=⟨_,rfl⟩;have r0_p:W0.heap[w.heap.size]?=some (.cells #[.slice ax M cp,.int .i64 s] 111):=by rw[← hW0];exact D8 _ _
 have bb:Bw w W0:=by rw[← hW0];exact BF _ _
 have l0_p:w.heap.size<W0.heap.size:=(Array.getElem?_eq_some_iff.1 r0_p).1;have sl0_x:=h.below bb;go_enter func151,ntmps151
 go_wp2_with ((with_reducible (refine Ee ?_));(refine wpList_load_row rfl 111 _ rfl w.heap.size rfl 111 _ (0,0) _ r0_p underlying111 rfl KZ ?_))
 clear hW0;refine(Kz (.slice ax M cp) d s W0 sl0_x).mono ?_;rintro e w1 ⟨rfl,bw1⟩;have d1:=bb.trans (bw1.mono bb.size);have rw1_p:=(bw1.block _ l0_p).trans r0_p;have lw1_p:=Nat.lt_of_lt_of_le l0_p bw1.size;have sl1_x:=sl0_x.below bw1;clear l0_p r0_p sl0_x;clear bw1;by_cases h1:Bd d s
 ·rw[decide_eq_true h1];have hM1:M≤100000:=by rw[← HM.out];exact h1.1
  have d9:=d1;by_cases h2:100000<M+k
  ·have h2i:(100000:Int)<(M:Int)+(k:Int):=by omega
   have HE:Hid (G4 d s k=8):=by unfold Hid G4;rw[if_neg (fun g=>g h1),HM.out,if_pos h2]
   clear h1 h2;have cc1_p0:w1.cell? ⟨w.heap.size,0,none⟩=some (.slice ax M cp):=cell_of_row _ _ 0 _ _ _ rw1_p;have cc1_p1:w1.cell? ⟨w.heap.size,1,none⟩=some (.int .i64 s):=cell_of_row _ _ 1 _ _ _ rw1_p;go_wp2
   go_ret;exact⟨by rw[HE.out];rfl,d9⟩
  ·have h2i:¬ (100000:Int)<(M:Int)+(k:Int):=by omega
   have HE:Hid (G4 d s k=0):=by unfold Hid G4;rw[if_neg (fun g=>g h1),HM.out,if_neg h2]
   clear h1 h2;have cc1_p0:w1.cell? ⟨w.heap.size,0,none⟩=some (.slice ax M cp):=cell_of_row _ _ 0 _ _ _ rw1_p;have cc1_p1:w1.cell? ⟨w.heap.size,1,none⟩=some (.int .i64 s):=cell_of_row _ _ 1 _ _ _ rw1_p;go_wp2
   go_ret;exact⟨by rw[HE.out];rfl,d9⟩
 ·rw[decide_eq_false h1];have HE:Hid (G4 d s k=5):=if_pos h1;clear h1;have d9:=d1;go_wp2
  go_ret;exact⟨by rw[HE.out];rfl,d9⟩
theorem Li(x:Value)(d:List Int)(s:Int)(v:Value)(b:List Int)(w:World)(h:Sl w x d)(hv:Sl w v b)(hb:b.length≤255)(hd:d.length≤100000)(ht:AC w) :
  Calls prog 152 #[.agg (tpA x s),v] w fun e w'=>∃ y,e=.returned (.tuple #[.agg (tpA y s),.int .i64 0])∧w'.ownsRow w.heap.size 5 1 y (d++BJ b).length ((d++BJ b).map (Value.int .u8))∧Bw w w':=by
 have HD:Hid (∀ x∈d,0≤x∧x<256):=h.byte;have HRB:Hid (∀ x∈BJ b,0≤x∧x<256):=KJ hv.byte hb;have hrl:(BJ b).length≤260:=by rw[EG];omega
 have hlen:=h.len;obtain⟨ax,cp,rfl⟩:=h.shapeT;obtain⟨M,hM⟩:∃ M,d.length=M:=⟨_,rfl⟩;have HM:Hid (d.length=M):=hM;rw[hM]at h hlen ⊢
 clear hM;simp only[tpA];rw[HM.out]at hd
 obtain⟨i0,hi0,hz0,hz1,hz2⟩:=info_parts As;obtain⟨W0,hW0⟩:∃ W0,(w.alloc (.cells #[.slice ax M cp,.int .i64 s] 111)).alloc (.cells #[.slice none 0 0,.int .i64 0] 111)=W0:=⟨_,rfl⟩;have r0_p:W0.heap[w.heap.size]?=some (.cells #[.slice ax M cp,.int .i64 s] 111):=by rw[← hW0];exact R5 _ _ _
 have r0_r:W0.heap[w.heap.size+1]?=some (.cells #[.slice none 0 0,.int .i64 0] 111):=by rw[← hW0];exact R6 _ _ _
 have bb:Bw w W0:=by rw[← hW0];exact Uy _ _ _
 have l0_p:w.heap.size<W0.heap.size:=(Array.getElem?_eq_some_iff.1 r0_p).1;have l0_r:(w.heap.size+1)<W0.heap.size:=(Array.getElem?_eq_some_iff.1 r0_r).1;have t0_0:=ht.below bb;have sl0_x:=h.below bb;have sl0_v:=hv.below bb;go_enter func152,ntmps152
 go_wp2_with fail
 clear hW0;refine(Nq v b W0 sl0_v hb t0_0).mono ?_;rintro e w1 ⟨y,rfl,oy,bw1⟩;obtain⟨R,hR⟩:∃ R,BJ b=R:=⟨_,rfl⟩;rw[hR]at oy hrl HRB
 have HR:Hid (BJ b=R):=hR;clear hR;have sy:=Sl.ofOwns oy (by omega) HRB.out;obtain⟨N,hN⟩:∃ N,R.length=N:=⟨_,rfl⟩;have HN:Hid (R.length=N):=hN;rw[hN]at oy hrl
 clear hN;obtain⟨ay,cy,rfl⟩:=DN oy;have d1:=bb.trans (bw1.mono bb.size);have tt1_0:=t0_0.below bw1;have rw1_p:=(bw1.block _ l0_p).trans r0_p;have lw1_p:=Nat.lt_of_lt_of_le l0_p bw1.size;have rw1_r:=(bw1.block _ l0_r).trans r0_r;have lw1_r:=Nat.lt_of_lt_of_le l0_r bw1.size;have sl1_x:=sl0_x.below bw1;have sl1_v:=sl0_v.below bw1;clear t0_0 l0_p r0_p l0_r r0_r sl0_x sl0_v;clear bw1;clear oy;have sy1:=sy;have hRB:w.heap.size+1<w1.heap.size:=lw1_r;have cc1_p0:w1.cell? ⟨w.heap.size,0,none⟩=some (.slice ax M cp):=cell_of_row _ _ 0 _ _ _ rw1_p;go_wp2_with (at_make;refine wpList_make_own _ rfl _ _ 40 rfl w1.heap.size 5 i0 (.int .u8 0) 1 underlying40 hi0 hz0 hz1 _ _ _ (M+N) rfl rfl (by omega) (by rw[hz2];omega) (by unfold maxLen;omega) (Nat.le_refl _) ?_)
 intro w2 o2 g2;have b2:Bw w1 w2:=(Below.refl _ _).grown g2 (Nat.le_refl _) (fun k hk=>by cases hk);clear g2 cc1_p0;have z12:=b2.size;have b12:=b2;have d2:=d1.trans (b2.mono d1.size);have tt2_0:=tt1_0.below b2;have rw2_p:=(b2.block _ lw1_p).trans rw1_p;have lw2_p:=Nat.lt_of_lt_of_le lw1_p b2.size;have rw2_r:=(b2.block _ lw1_r).trans rw1_r;have lw2_r:=Nat.lt_of_lt_of_le lw1_r b2.size;have sl2_x:=sl1_x.below b2;have sl2_v:=sl1_v.below b2;clear tt1_0 lw1_p rw1_p lw1_r rw1_r sl1_x sl1_v;clear b2;have HO2:Hid (w2.ownsRow w1.heap.size 5 1 (.slice (some ⟨w1.heap.size,0,none⟩) 0 (M+N)) ([]:List Int).length (([]:List Int).map (Value.int .u8))):=o2;have hlt2:=o2.lt;have hll:([]:List Int).length+d.length≤140737488355328:=by rw[HM.out];simp;omega
 clear o2;have cc2_p0:w2.cell? ⟨w.heap.size,0,none⟩=some (.slice ax M cp):=cell_of_row _ _ 0 _ _ _ rw2_p;go_wp2_with (at_builtin;refine Aa _ rfl _ _ 40 rfl w1.heap.size 5 underlying40 As _ _ rfl rfl [] d HO2.out sl2_x hll (by omega) ?_)
 intro v3 w3 o3 g3;have b3:Below w1.heap.size w2 w3:=(Below.refl _ _).grown g3 (by omega) (fun k hk=>(hlt2 k hk).1);have HO3:Hid (w3.ownsRow w1.heap.size 5 1 v3 d.length (d.map (Value.int .u8))):=by unfold Hid;simpa using o3
 have z23:=b3.size;have sy3:Sl w3 (.slice ay N cy) R:=sy1.below (show Bw w1 w3 from b12.trans b3);have rp3:=(b3.block w.heap.size (by omega)).trans rw2_p;have rr3:=(b3.block (w.heap.size+1) hRB).trans rw2_r;have d3:=d2.trans (b3.mono (show w.heap.size≤w1.heap.size by omega));have lr3:w.heap.size+1<w3.heap.size:=by omega
 have z13:w1.heap.size≤w3.heap.size:=by omega
 obtain⟨a3,c3,h3⟩:=DN HO3.out;rw[HM.out]at h3
 subst h3;have c1:w3.cell? ⟨w.heap.size,1,none⟩=some (.int .i64 s):=cell_of_row _ _ 1 _ _ _ rp3;obtain⟨T,hT⟩:∃ T,M+N=T:=⟨_,rfl⟩;have HT:Hid (M+N=T):=hT;clear hT;clear o3 g3 b3 hlt2 HO2 sl2_x cc2_p0;go_wp2_with fail
 apply XE (fun g c Wz=>Wz.heap[w.heap.size+1]?=some (.cells #[.slice g T c,.int .i64 s] 111)∧Wz.ownsRow w1.heap.size 5 1 (.slice g T c) T ((d++R).map (Value.int .u8))∧Below (w.heap.size+1) w3 Wz)
 ·intro K2 HK2;have ed0:Bw w3 w3.drew:=(Below.refl _ _).drew;refine wp_region_held (S:=fun w'=>Below (w.heap.size+1) w3 w') (by kernel_rfl) ?_;have hS0:(fun w'=>Below (w.heap.size+1) w3 w') w3.drew:=ed0.mono (Nat.le_of_lt lr3);refine Af (i:=0) 29 (v:=.slice a3 M c3) rfl rfl (by kernel_rfl) (by kernel_rfl) (by kernel_rfl) (fun _ _ _ h=>h) (Or.inl ⟨by rfl,fun _ _=>by kernel_rfl⟩) hS0 ?_;simp only[Act.put,List.setIfInBounds_toArray,List.set_cons_zero,List.set_cons_succ];refine Af (i:=1) 30 (v:=.slice ay N cy) rfl rfl (by kernel_rfl) (by kernel_rfl) (by kernel_rfl) (fun _ _ _ h=>h) (Or.inl ⟨by rfl,fun _ _=>by kernel_rfl⟩) hS0 ?_;simp only[Act.put,List.setIfInBounds_toArray,List.set_cons_zero,List.set_cons_succ];refine Af (i:=3) 32 (v:=.pointer (some ⟨w.heap.size,1,none⟩)) rfl rfl (by kernel_rfl) (by kernel_rfl) (by kernel_rfl) (fun _ _ _ h=>h) (Or.inl ⟨by rfl,fun _ _=>by kernel_rfl⟩) hS0 ?_;simp only[Act.put,List.setIfInBounds_toArray,List.set_cons_zero,List.set_cons_succ];refine Af (i:=4) 33 (v:=.int .i64 s) rfl rfl (by kernel_rfl) (by kernel_rfl) (by kernel_rfl) (fun _ _ _ h=>h) (FN (by rfl) 3 (.tmp 32) rfl _ underlying3 rfl ⟨w.heap.size,1,none⟩ rfl (.int .i64 s) (fun w' hw'=>(hw'.cell (p:=⟨w.heap.size,1,none⟩) (show w.heap.size<w.heap.size+1 by omega)).trans c1)) hS0 ?_;simp only[Act.put,List.setIfInBounds_toArray,List.set_cons_zero,List.set_cons_succ];have od:w3.drew.ownsRow w1.heap.size 5 1 (.slice a3 M c3) d.length (d.map (Value.int .u8)):=CQ HO3.out (fun k hk=>ed0.block k (HO3.out.lt k hk).2);have rd:=(ed0.block (w.heap.size+1) lr3).trans rr3;have hlt:=od.lt;have hlen2:d.length+R.length≤140737488355328:=by rw[HM.out,HN.out];omega
  refine B1 (i:=2) (by kernel_rfl) (TV (i:=2) (d:=31) rfl (by kernel_rfl) rfl (.tmp 29) (.tmp 30) 40 rfl w1.heap.size 5 underlying40 As (.slice a3 M c3) (.slice ay N cy) (by kernel_rfl) (by kernel_rfl) d R od (sy3.below ed0) hlen2 (Nat.le_trans z13 ed0.size) ?_);intro v4 w4 o4 g4;have b4:Below (w.heap.size+1) w3 w4:=(ed0.mono (Nat.le_of_lt lr3)).grown g4 (Nat.le_trans (Nat.le_of_lt lr3) ed0.size) (fun k hk=>Nat.le_trans (Nat.le_of_lt hRB) (hlt k hk).1);have r4:w4.heap[w.heap.size+1]?=some (.cells #[.slice none 0 0,.int .i64 0] 111):=(g4.block (w.heap.size+1) (Nat.lt_of_lt_of_le lr3 ed0.size) (fun e=>KT od rd (by decide) _ e.symm rfl)).trans rd;have hTT:(d++R).length=T:=by rw[List.length_append,HM.out,HN.out];exact HT.out
  rw[hTT]at o4
  obtain⟨a4,c4,h4⟩:=DN o4;subst h4;refine⟨b4,?_⟩;simp only[Act.put,List.setIfInBounds_toArray,List.set_cons_zero,List.set_cons_succ];refine Af (i:=5) 34 (v:=.agg #[.slice a4 T c4,.int .i64 s]) rfl rfl (by kernel_rfl) (by kernel_rfl) (by kernel_rfl) (fun _ _ _ h=>h) (Or.inl ⟨by rfl,fun _ _=>by kernel_rfl⟩) b4 ?_;simp only[Act.put,List.setIfInBounds_toArray,List.set_cons_zero,List.set_cons_succ];have hone:=XN a4 T c4 s;have e7:Below (w.heap.size+1) w3 (w4.setRow (w.heap.size+1) #[.slice a4 T c4,.int .i64 s]):=Ck b4 (Nat.le_refl _) _;have q7:=setRow_heap w4 (w.heap.size+1) _ (#[.slice a4 T c4,.int .i64 s]) 111 _ r4;have o7:=Uw o4 r4 (by decide) (#[.slice a4 T c4,.int .i64 s]);refine B1 (i:=6) (by kernel_rfl) (Hd (i:=6) rfl (by kernel_rfl) rfl 111 (.tmp 4) (.tmp 34) rfl (w.heap.size+1) #[.slice a4 T c4,.int .i64 s] (by kernel_rfl) (by kernel_rfl) 111 _ r4 KZ rfl hone ⟨e7,?_⟩);refine Af (i:=7) 5 (v:=.int .i64 0) rfl rfl (by kernel_rfl) (by kernel_rfl) (by kernel_rfl) (fun _ _ _ h=>h) (Or.inl ⟨by rfl,fun _ _=>by kernel_rfl⟩) e7 ?_;simp only[Act.put,List.setIfInBounds_toArray,List.set_cons_zero,List.set_cons_succ];exact wpAnyH_done (by kernel_rfl) (HK2.out a4 c4 _ ⟨q7,o7,e7⟩) _
 rintro g c Wz ⟨qR,oR,eR⟩;have dR:=d3.trans (eR.mono (by omega));have HTL:Hid ((d++BJ b).length=T):=by unfold Hid;rw[HR.out,List.length_append,HM.out,HN.out];exact HT.out
 clear rp3 rr3 c1 HO3;go_wp2
 refine bodyPost_ret (S7 rfl _ _ (w.heap.size+1) 111 _ (0,0) _ rfl qR underlying111 rfl KZ) rfl ?_;rw[HTL.out,HR.out];exact⟨_,rfl,EN oR (by omega),dR⟩
end Go.Proofs.YtaeckakjdagddadGreatDoor
