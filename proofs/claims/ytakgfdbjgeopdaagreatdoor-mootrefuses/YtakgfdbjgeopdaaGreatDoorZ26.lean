/- Part 26 of the walk: what the functions of the program do, one by one. -/
import Derived.StillTailTactics
import Derived.Test.YtakgfdbjgeopdaaGreatDoorZ25
set_option maxRecDepth 100000
set_option maxHeartbeats 4000000
open Go.Proofs.Tryz
set_option linter.unusedVariables false
namespace Go.Proofs.YtakgfdbjgeopdaaGreatDoor
open Go.RowKit
theorem BM{B:Nat}{a w:World}(h:Below B a w){g:Nat}(hg:B≤g)(cs:Array Value):Below B a (w.setRow g cs) :=
 h.trans ⟨rfl,rfl,rfl,by simp,fun k hk=>setRow_other w g k cs (by omega)⟩
def ptA(g:Nat):Array Value:=#[.pointer (some ⟨g,0,none⟩),.pointer (some ⟨g,1,none⟩),.pointer (some ⟨g,2,none⟩),.pointer (some ⟨g,3,none⟩),.pointer (some ⟨g,4,none⟩)]
theorem WW(g:Nat):(ptA g).all (·.oneCell')=true:=by simp[ptA,Value.oneCell']
def P7:Array Value:=#[.pointer none,.pointer none,.pointer none,.pointer none,.pointer none]
theorem YI(g:Nat):(prog.info? 80).map (·.size)=some (ptA g).size:=by show _=some 5;kernel_rfl
theorem Oa(g:Nat)(j:Nat)(hj:j<5):∀ W,(Instr.index 80 (.agg (ptA g)) (.int .i64 (j:Int))).run prog W=.ok (.pointer (some ⟨g,j,none⟩)) W:=by
 intro W;rcases(by omega:j=0∨j=1∨j=2∨j=3∨j=4)with rfl|rfl|rfl|rfl|rfl
 all_goals kernel_rfl
theorem FD(g:Nat)(w:World) :
  Calls prog 45 #[.pointer (some ⟨g,0,none⟩)] w fun e w'=>e=.returned (.agg (ptA g))∧Below w.heap.size w w':=by
 have bb:Below w.heap.size w (w.alloc (.cells P7 80)):=(Below.refl _ _).alloc (Nat.le_refl _) _;have rr:=heap_alloc_new w (.cells P7 80);have hi:=YI g;go_enter func45,ntmps45
 go_wp2_with fail
 refine Aq 16 (by kernel_rfl) (by kernel_rfl) ?_;simp only[List.take_succ_cons,List.take_zero,List.drop_succ_cons,List.drop_zero]
 repeat (go_big_quiet_step (fail))
 refine wpQuiet_nil ?_;have rr':(w.alloc (.cells P7 80)).drew.heap[w.heap.size]?=some (.cells P7 80):=rr;have bb':Below w.heap.size w (w.alloc (.cells P7 80)).drew:=bb.drew;have hn:P7=#[.pointer none,.pointer none,.pointer none,.pointer none,.pointer none]:=rfl;rw[← hn];generalize (w.alloc (.cells P7 80)).drew=W at rr' bb';go_wp2_with (refine wpList_store_row rfl 80 (.tmp 2) (.tmp 18) rfl w.heap.size (ptA g) rfl rfl 80 _ rr' hi rfl (WW g) ?_)
 have r2:=setRow_heap W w.heap.size _ (ptA g) 80 _ rr';exact bodyPost_ret (v:=.agg (ptA g)) (results_cell_row rfl _ _ w.heap.size 80 _ (0,0) _ rfl r2 underlying80 rfl hi) rfl ⟨rfl,BM bb' (Nat.le_refl _) _⟩
theorem Sl.one2O(w:World)(b b':Int)(e:TypeId){g:Nat}(hg:g=w.heap.size)(hb:0≤b∧b<256)(he:b'=b):Sl (w.alloc (.cells #[.int .u8 b'] e)) (.slice (some ⟨g,0,none⟩) 1 1) [b]:=by
 subst he;exact Sl.one w b' e hg hb
theorem WY(l:List Int)(n:Int)(j:Nat)(hl:l.length≤100000):(l++(Aw n).take j).length+1≤140737488355328:=by
 have:((Aw n).take j).length≤4:=by rw[List.length_take];exact Nat.min_le_right _ _
 rw[List.length_append];omega
theorem KB(v:Value)(l:List Int)(n:Int)(B:Nat)(w:World)(ho:w.ownsRow B 5 1 v l.length (l.map (Value.int .u8)))(hB:B≤w.heap.size)(hl:l.length≤100000)(n0:0≤n)(n1:n<2147483648) :
  Calls prog 46 #[v,.int .i64 n] w fun e w'=>∃ v',e=.returned v'∧w'.ownsRow B 5 1 v' (l++Aw n).length ((l++Aw n).map (Value.int .u8))∧Below B w w':=by
 have HO0:Hid (w.ownsRow B 5 1 v (l++(Aw n).take 0).length ((l++(Aw n).take 0).map (Value.int .u8))):=by unfold Hid;simpa using ho
 clear ho;go_enter func46,ntmps46
 go_wp2_with fail
 go_loopw [0,5] (fun v iv wr=>∃ j:Nat,j≤4∧iv=.int .i64 (3-(j:Int))∧wr.ownsRow B 5 1 v (l++(Aw n).take j).length ((l++(Aw n).take j).map (Value.int .u8))∧Below B w wr) (fun _ iv _=>(intOf iv+1).toNat)
 case atStart=>exact⟨0,by omega,rfl,HO0.out,Below.refl _ _⟩
 case round =>
  obtain⟨j,hj,rfl,hown,hbel⟩:=hrel;clear HO0;have hlt:=hown.lt;have hz:B≤wr.heap.size:=Nat.le_trans hB hbel.size;have HL:=WY l n;by_cases hj4:j<4
  ·rcases(by omega:j=0∨j=1∨j=2∨j=3)with rfl|rfl|rfl|rfl
   ·rw[show(3:Int)-((0:Nat):Int)=3 from rfl];have hx:Hid (l++(Aw n).take 1=l++(Aw n).take 0++[n/16777216%256]):=by unfold Hid;rw[List.append_assoc];rfl
    have hLL:=HL 0 hl;clear HL;generalize l++(Aw n).take 0=L at hown hx hLL;go_wp2_with (at_builtin;refine Aa _ rfl _ _ 26 rfl B 5 underlying26 AB _ _ rfl rfl L [n/16777216%256] (hown.alloc _) (Sl.one2O _ (n/16777216%256) _ _ rfl (by omega) (by omega)) hLL (by simp;omega) ?_)
    intro v2 w2 ho2 hg2;have hb2:Below B w w2:=(hbel.alloc hz _).grown hg2 (by simp;omega) (fun k hk=>(hlt k hk).1);have HO2:Hid (w2.ownsRow B 5 1 v2 (l++(Aw n).take 1).length ((l++(Aw n).take 1).map (Value.int .u8))):=by
     unfold Hid;rw[hx.out];simpa using ho2
    clear ho2 hg2 hown hlt hbel hLL hx;go_wp2
    go_roundw
    case rel=>exact⟨1,by omega,rfl,HO2.out,hb2⟩
    case measure=>simp[intOf]
   ·rw[show(3:Int)-((1:Nat):Int)=2 from rfl];have hx:Hid (l++(Aw n).take 2=l++(Aw n).take 1++[n/65536%256]):=by unfold Hid;rw[List.append_assoc];rfl
    have hLL:=HL 1 hl;clear HL;generalize l++(Aw n).take 1=L at hown hx hLL;go_wp2_with (at_builtin;refine Aa _ rfl _ _ 26 rfl B 5 underlying26 AB _ _ rfl rfl L [n/65536%256] (hown.alloc _) (Sl.one2O _ (n/65536%256) _ _ rfl (by omega) (by omega)) hLL (by simp;omega) ?_)
    intro v2 w2 ho2 hg2;have hb2:Below B w w2:=(hbel.alloc hz _).grown hg2 (by simp;omega) (fun k hk=>(hlt k hk).1);have HO2:Hid (w2.ownsRow B 5 1 v2 (l++(Aw n).take 2).length ((l++(Aw n).take 2).map (Value.int .u8))):=by
     unfold Hid;rw[hx.out];simpa using ho2
    clear ho2 hg2 hown hlt hbel hLL hx;go_wp2
    go_roundw
    case rel=>exact⟨2,by omega,rfl,HO2.out,hb2⟩
    case measure=>simp[intOf]
   ·rw[show(3:Int)-((2:Nat):Int)=1 from rfl];have hx:Hid (l++(Aw n).take 3=l++(Aw n).take 2++[n/256%256]):=by unfold Hid;rw[List.append_assoc];rfl
    have hLL:=HL 2 hl;clear HL;generalize l++(Aw n).take 2=L at hown hx hLL;go_wp2_with (at_builtin;refine Aa _ rfl _ _ 26 rfl B 5 underlying26 AB _ _ rfl rfl L [n/256%256] (hown.alloc _) (Sl.one2O _ (n/256%256) _ _ rfl (by omega) (by omega)) hLL (by simp;omega) ?_)
    intro v2 w2 ho2 hg2;have hb2:Below B w w2:=(hbel.alloc hz _).grown hg2 (by simp;omega) (fun k hk=>(hlt k hk).1);have HO2:Hid (w2.ownsRow B 5 1 v2 (l++(Aw n).take 3).length ((l++(Aw n).take 3).map (Value.int .u8))):=by
     unfold Hid;rw[hx.out];simpa using ho2
    clear ho2 hg2 hown hlt hbel hLL hx;go_wp2
    go_roundw
    case rel=>exact⟨3,by omega,rfl,HO2.out,hb2⟩
    case measure=>simp[intOf]
   ·rw[show(3:Int)-((3:Nat):Int)=0 from rfl];have hx:Hid (l++(Aw n).take 4=l++(Aw n).take 3++[n%256]):=by unfold Hid;rw[List.append_assoc];rfl
    have hLL:=HL 3 hl;clear HL;generalize l++(Aw n).take 3=L at hown hx hLL;go_wp2_with (at_builtin;refine Aa _ rfl _ _ 26 rfl B 5 underlying26 AB _ _ rfl rfl L [n%256] (hown.alloc _) (Sl.one2O _ (n%256) _ _ rfl (by omega) (by omega)) hLL (by simp;omega) ?_)
    intro v2 w2 ho2 hg2;have hb2:Below B w w2:=(hbel.alloc hz _).grown hg2 (by simp;omega) (fun k hk=>(hlt k hk).1);have HO2:Hid (w2.ownsRow B 5 1 v2 (l++(Aw n).take 4).length ((l++(Aw n).take 4).map (Value.int .u8))):=by
     unfold Hid;rw[hx.out];simpa using ho2
    clear ho2 hg2 hown hlt hbel hLL hx;go_wp2
    go_roundw
    case rel=>exact⟨4,by omega,rfl,HO2.out,hb2⟩
    case measure=>simp[intOf]
  ·obtain rfl:j=4:=by omega
   rw[show(3:Int)-((4:Nat):Int)=-1 from rfl];have HO:Hid _:=hown;clear hown hlt HL;go_wp2
   go_ret;exact⟨_,rfl,HO.out,hbel⟩
theorem Sl.spotO{w:World}{a:Option Addr}{n cap:Nat}{l:List Int}(h:Sl w (.slice a n cap) l)(k:Nat)(hk:k<l.length):∃ bd od,a=some ⟨bd,od,none⟩∧bd<w.heap.size∧w.cell? ⟨bd,od+k,none⟩=some (.int .u8 (l.getD k 0)):=by
 obtain⟨⟨a',cap',e,hc,hn,h1⟩,hla,hba⟩:=h;simp only[Value.slice.injEq]at e;obtain⟨rfl,rfl,rfl⟩:=e;rcases h1 with rfl|⟨b,off,rfl,hb,hcell⟩
 ·simp at hk
 ·exact⟨b,off,rfl,hb,hcell k hk⟩
theorem L8(v:Value)(l:List Int)(w:World)(h:Sl w v l)(hl:l.length≤2000)(ht:AI w) :
  Calls prog 239 #[v] w fun e w'=>∃ a c,e=.returned (.tuple #[.slice a 4 c,.int .i64 0])∧Sl w' (.slice a 4 c) ((dig l).take 4)∧Below w.heap.size w w':=by
 go_enter func239,ntmps239
 go_wp2_with fail
 refine(Za v l w h hl ht).mono ?_;rintro e w1 ⟨y,rfl,f1⟩;obtain⟨g,cap,hy,hg,hcap⟩:=f1.shape;rw[AA]at hy hcap
 subst hy;obtain⟨a4,c4,r4,s4⟩:=f1.sl.upTo 4 (by rw[AA];decide);have b1:=f1.bel;clear f1;have hcap4:(4:Int)≤(cap:Int):=by omega
 replace r4:∀ W,(Instr.slice 26 (.slice (some ⟨g,0,none⟩) 32 cap) none (some (.int .i64 4)) none).run prog W=.ok (.slice a4 4 c4) W:=r4;go_wp2
 go_ret2
 exact⟨a4,c4,rfl,s4,b1⟩
theorem Ky(v:Value)(r:List Int)(w:World)(h:Sl w v r)(ht:AI w){u:World}(hu:Sl u v r) :
  Calls prog 217 #[v] w fun e w'=>∃ a n c,e=.returned (.tuple #[.slice a n c,.bool (fbO r).isSome])∧Sl u (.slice a n c) ((fbO r).getD [])∧Below w.heap.size w w':=by
 have hlen:=h.len;have hx:=Ak h.byte 0;obtain⟨ax,cp,rfl⟩:=h.shapeT;by_cases h0:r=[]
 ·subst h0;have HO:Hid (fbO []=none):=if_pos rfl;rw[HO.out];go_enter func217,ntmps217
  go_wp2
  go_ret2
  exact⟨none,0,0,rfl,Sl.nil _ _,Below.refl _ _⟩
 ·have hp:0<r.length:=by
   rcases Nat.eq_zero_or_pos r.length with g|g
   ·exact absurd (List.eq_nil_of_length_eq_zero g) h0
   ·exact g
  obtain⟨bd,od,rfl,hbd,hc⟩:=h.spotO 0 hp;obtain⟨x,hx0⟩:∃ x:Nat,r.getD 0 0=(x:Int):=⟨(r.getD 0 0).toNat,by omega⟩;have hxn:(r.getD 0 0).toNat=x:=by rw[hx0];exact Int.toNat_natCast _
  rw[hx0]at hc hx
  obtain⟨M,hM⟩:∃ M,r.length=M:=⟨_,rfl⟩;have HM:Hid (r.length=M):=hM;have HX:Hid ((r.getD 0 0).toNat=x):=hxn;have hz:(0:Int)<(M:Int):=by omega
  have hne:((M:Int)==0)=false:=by simp;omega
  rw[hM]at h hu hlen hp ⊢
  have hx2:x<256:=by omega
  have H0:Hid (¬ r=[]):=h0;clear hM hx0 hxn hx h0;rw[Nat.add_zero]at hc
  by_cases h1:M<x+5
  ·have HO:Hid (fbO r=none):=by
    unfold Hid fbO;rw[if_neg H0.out,HX.out,HM.out,if_pos h1]
   rw[HO.out];have h1i:(M:Int)<1+(x:Int)+4:=by omega
   clear H0 HX;go_enter func217,ntmps217
   go_wp2
   go_ret2
   exact⟨none,0,0,rfl,Sl.nil _ _,Below.refl _ _⟩
  ·have h1i:¬ (M:Int)<1+(x:Int)+4:=by omega
   obtain⟨E,hE⟩:∃ E:Nat,E=x+1:=⟨_,rfl⟩;have HE:Hid (E=x+1):=hE;have hEi:1+(x:Int)=(E:Int):=by omega
   have hE2:E+4≤M:=by omega
   have hE3:E≤256:=by omega
   have hE4:1≤E:=by omega
   rw[hEi]at h1i
   obtain⟨au,cu,ru,su⟩:=h.upTo E (by rw[HM.out];omega);obtain⟨af,cf,rf,sf⟩:=h.cutT E (E+4) 4 (by omega) (by rw[HM.out];omega) (by omega) (E:Int) ((E:Int)+4) rfl (by omega);obtain⟨ab,cb,rb,sb⟩:=hu.cutT 1 E x hE4 (by rw[HM.out];omega) (by omega) 1 (E:Int) rfl rfl;have hl:(r.take E).length=E:=by rw[List.length_take,HM.out];omega
   have HF:Hid ((r.take (E+4)).drop E=(r.drop E).take 4):=by unfold Hid;rw[List.drop_take,show E+4-E=4 by omega]
   rw[HF.out]at sf
   clear hE h1 hE4 HF;go_enter func217,ntmps217
   go_wp2_with fail
   refine(L8 (.slice au E cu) (r.take E) w su (by omega) ht).mono ?_;rintro e w1 ⟨ag,cg,rfl,sg,b1⟩;have sf1:=sf.below b1;have sb1:=sb;clear su sf sb ru hc hbd hl;go_wp2_with fail
   refine(GN (.slice ag 4 cg) (.slice af 4 cf) ((dig (r.take E)).take 4) ((r.drop E).take 4) w1 sg sf1).mono ?_;rintro e w2 ⟨rfl,n2,hw2⟩;have b2:Below w1.heap.size w1 w2:=by rw[hw2];exact Ag (Below.refl _ _) n2
   clear hw2;have d2:=b1.trans (b2.mono b1.size);have sb2:=sb1;clear b1 b2 sb1 sg sf1 rf;by_cases h2:(dig (r.take E)).take 4=(r.drop E).take 4
   ·have HO:Hid (fbO r=some ((r.take E).drop 1)):=by
     unfold Hid fbO;have:=HE.out;rw[if_neg H0.out,HX.out,HM.out,if_neg (by omega),← this,if_neg (fun g=>g h2)]
    rw[decide_eq_true h2];clear h2 H0 HX HE;go_wp2
    go_ret2
    rw[HO.out];exact⟨ab,x,cb,rfl,sb2,d2⟩
   ·have HO:Hid (fbO r=none):=by
     unfold Hid fbO;have:=HE.out;rw[if_neg H0.out,HX.out,HM.out,if_neg (by omega),← this,if_pos h2]
    rw[decide_eq_false h2];clear h2 H0 HX HE sb2;go_wp2
    go_ret2
    rw[HO.out];exact⟨none,0,0,rfl,Sl.nil _ _,d2⟩
theorem Mt(v:Value)(b:List Int)(w:World)(h:Sl w v b)(hb:b.length≤255)(ht:AI w) :
  Calls prog 235 #[v] w fun e w'=>∃ y,e=.returned (.tuple #[y,.int .i64 0])∧w'.ownsRow w.heap.size 5 1 y (BF b).length ((BF b).map (Value.int .u8))∧Below w.heap.size w w':=by
 obtain⟨ax,cp,rfl⟩:=h.shapeT;obtain⟨N,hN⟩:∃ N,b.length=N:=⟨_,rfl⟩;have HN:Hid (b.length=N):=hN;have HR:Hid (D6 b++(dig (D6 b)).take 4=BF b):=rfl;have HF:Hid ([(N:Int)]++b=D6 b):=by unfold Hid D6;rw[hN];rfl
 have HFB:Hid ((D6 b).length=N+1∧∀ x∈D6 b,0≤x∧x<256):=⟨by rw[Gu,hN],Jv h.byte hb⟩;rw[hN]at h hb ⊢
 have hwr:(N:Int)%256=(N:Int):=by omega
 have hll:[(N:Int)].length+b.length≤140737488355328:=by rw[hN];simp;omega
 clear hN;obtain⟨W1,hW1⟩:∃ W1,w.alloc (.cells #[.int .u8 (N:Int)] 5)=W1:=⟨_,rfl⟩;have b1:Below w.heap.size w W1:=by rw[← hW1];exact BB _ _
 have o1:W1.ownsRow w.heap.size 5 1 (.slice (some ⟨w.heap.size,0,none⟩) 1 1) [(N:Int)].length ([(N:Int)].map (Value.int .u8)):=by rw[← hW1];exact H8 w N N 5 rfl (Nat.le_refl _) rfl
 have h1:=h.below b1;go_enter func235,ntmps235
 go_wp2_with (at_builtin;refine Aa _ rfl _ _ 26 rfl w.heap.size 5 underlying26 AB _ _ rfl rfl [(N:Int)] b o1 h1 hll b1.size ?_)
 clear hW1;intro v2 w2 o2 g2;have hlt1:=o1.lt;have b2:Below w.heap.size w w2:=b1.grown g2 b1.size (fun k hk=>(hlt1 k hk).1);replace o2:w2.ownsRow w.heap.size 5 1 v2 ([(N:Int)]++b).length (([(N:Int)]++b).map (Value.int .u8)):=by simpa using o2
 rw[HF.out]at o2
 have s2:=Sl.ofOwns o2 (by rw[HFB.out.1];omega) HFB.out.2;have hfl:(D6 b).length≤2000:=by rw[HFB.out.1];omega
 have hfd:(D6 b).length+((dig (D6 b)).take 4).length≤140737488355328:=by rw[HFB.out.1,List.length_take,AA];omega
 clear o1 g2 hlt1 HF hll h1;generalize hFr:D6 b=F at o2 s2 hfl hfd HR;have HO2:Hid (w2.ownsRow w.heap.size 5 1 v2 F.length (F.map (Value.int .u8))):=o2;clear o2 hFr HFB;go_wp2_with fail
 refine(L8 v2 F w2 s2 hfl (ht.below b2)).mono ?_;rintro e w3 ⟨a4,c4,rfl,s4,b3⟩;have d3:=b2.trans (b3.mono b2.size);have HO3:Hid (w3.ownsRow w.heap.size 5 1 v2 F.length (F.map (Value.int .u8))):=AT HO2.out (fun k hk=>b3.block k (HO2.out.lt k hk).2);have hlt:=HO3.out.lt;generalize hD:(dig F).take 4=D at s4 HR hfd;clear HO2 b3 hD s2;have hz3:=d3.size;go_wp2_with (at_builtin;refine Aa _ rfl _ _ 26 rfl w.heap.size 5 underlying26 AB _ _ rfl rfl F D HO3.out s4 hfd hz3 ?_)
 intro v5 w5 o5 g5;have d5:Below w.heap.size w w5:=d3.grown g5 d3.size (fun k hk=>(hlt k hk).1);have HO5:Hid (w5.ownsRow w.heap.size 5 1 v5 (BF b).length ((BF b).map (Value.int .u8))):=by
  unfold Hid;rw[← HR.out];simpa using o5
 clear o5 g5 HO3 hlt s4;go_wp2
 go_ret2
 exact⟨_,rfl,HO5.out,d5⟩
section
variable{P:Program}{md:Region.Mode}{ops:Array Oper}{Q:Exit→Act→World→Prop}{S:World→Prop}
theorem Sb{i d:Nat}{o:Oper}{a:Act}{w:World}{K:Act→World→Prop}(ho:ops[i]?=some o)(hw:Region.wanted o (yielded ops a.tmps)=true)(hd:o.dst=some d)(s x:Operand)(t:TypeId)
  (hop:o.op=.call { callee:=.builtin .append,args:=#[s,x],argTypes:=#[t,t] })
  (base e:Nat)(ht:P.underlying t=some (.slice e))(hinfo:(P.info? e).map (fun i=>(i.zero,i.size,i.bytes))=some (some (.int .u8 0),1,1))
  (v u:Value)(hs:a.eval s=v)(hx:a.eval x=u)(l m:List Int)(hown:w.ownsRow base e 1 v l.length (l.map (Value.int .u8)))(hu:Sl w u m)
  (hlen:l.length+m.length≤140737488355328)(hbase:base≤w.heap.size)
  (h:∀ v' w',w'.ownsRow base e 1 v' (l++m).length ((l++m).map (Value.int .u8))→w.grownBy w' v.ownBlock→K (a.put (some d) v') w'):wpOp P ops Q i K a w :=
 wpOp_step ho fun K' hK=>by
  rw[if_pos hw];obtain⟨v',w',hrun,r1,r2⟩:=FG (P:=P) w base t o.type e ht hinfo v l hown u m hu hlen hbase;unfold Oper.wp execOp;simp only[hop,resolve,invoke,builtin,Sem.run_bind,Sem.run_pure,Result.andThen_ok,List.map_toArray,List.map_cons,List.map_nil,hs,hx,hrun];exact hK _ _ (by rw[hd];exact h v' w' r1 r2)
end
theorem LC{P:Program}{id:Nat}{ops:Array Oper}{K:Act→World→Prop}{Q:Exit→Act→World→Prop}{a:Act}{w:World}(R:Option Addr→Nat→Option Addr→Nat→World→Prop){A:Option Addr→Nat→Option Addr→Nat→Act}
  (hreg:∀ K':Act→World→Prop,Hid (∀ g c g2 c2 W2,R g c g2 c2 W2→K' (A g c g2 c2) W2)→(Code.region id ops true).wp P (Exit.then K' Q) a w)(hrest:∀ g c g2 c2 W2,R g c g2 c2 W2→K (A g c g2 c2) W2):(Code.region id ops true).wp P (Exit.then K Q) a w:=hreg K hrest
theorem FB(x:Value)(d:List Int)(s:Int)(k:Nat)(hk:k≤1000)(w:World)(h:Sl w x d) :
  Calls prog 210 #[.agg (tpA x s),.int .i64 (k:Int)] w fun e w'=>e=.returned (.int .i64 (DH d s k))∧Below w.heap.size w w':=by
 have hlen:=h.len;obtain⟨ax,cp,rfl⟩:=h.shapeT;obtain⟨M,hM⟩:∃ M,d.length=M:=⟨_,rfl⟩;have HM:Hid (d.length=M):=hM;rw[hM]at h hlen ⊢
 clear hM;simp only[tpA];obtain⟨W0,hW0⟩:∃ W0,w.alloc (.cells #[.slice ax M cp,.int .i64 s] 132)=W0:=⟨_,rfl⟩;have r0_p:W0.heap[w.heap.size]?=some (.cells #[.slice ax M cp,.int .i64 s] 132):=by rw[← hW0];exact Dy _ _
 have bb:Below w.heap.size w W0:=by rw[← hW0];exact BB _ _
 have l0_p:w.heap.size<W0.heap.size:=(Array.getElem?_eq_some_iff.1 r0_p).1;have sl0_x:=h.below bb;go_enter func210,ntmps210
 go_wp2_with ((with_reducible (refine Az ?_));(refine wpList_load_row rfl 132 _ rfl w.heap.size rfl 132 _ (0,0) _ r0_p underlying132 rfl At ?_))
 clear hW0;refine(G3 (.slice ax M cp) d s W0 sl0_x).mono ?_;rintro e w1 ⟨rfl,bw1⟩;have d1:=bb.trans (bw1.mono bb.size);have rw1_p:=(bw1.block _ l0_p).trans r0_p;have lw1_p:=Nat.lt_of_lt_of_le l0_p bw1.size;have sl1_x:=sl0_x.below bw1;clear l0_p r0_p sl0_x;clear bw1;by_cases h1:CN d s
 ·rw[decide_eq_true h1];have hM1:M≤100000:=by rw[← HM.out];exact h1.1
  have d9:=d1;by_cases h2:100000<M+k
  ·have h2i:(100000:Int)<(M:Int)+(k:Int):=by omega
   have HE:Hid (DH d s k=8):=by unfold Hid DH;rw[if_neg (fun g=>g h1),HM.out,if_pos h2]
   clear h1 h2;have cc1_p0:w1.cell? ⟨w.heap.size,0,none⟩=some (.slice ax M cp):=cell_of_row _ _ 0 _ _ _ rw1_p;have cc1_p1:w1.cell? ⟨w.heap.size,1,none⟩=some (.int .i64 s):=cell_of_row _ _ 1 _ _ _ rw1_p;go_wp2
   go_ret;exact⟨by rw[HE.out];rfl,d9⟩
  ·have h2i:¬ (100000:Int)<(M:Int)+(k:Int):=by omega
   have HE:Hid (DH d s k=0):=by unfold Hid DH;rw[if_neg (fun g=>g h1),HM.out,if_neg h2]
   clear h1 h2;have cc1_p0:w1.cell? ⟨w.heap.size,0,none⟩=some (.slice ax M cp):=cell_of_row _ _ 0 _ _ _ rw1_p;have cc1_p1:w1.cell? ⟨w.heap.size,1,none⟩=some (.int .i64 s):=cell_of_row _ _ 1 _ _ _ rw1_p;go_wp2
   go_ret;exact⟨by rw[HE.out];rfl,d9⟩
 ·rw[decide_eq_false h1];have HE:Hid (DH d s k=5):=if_pos h1;clear h1;have d9:=d1;go_wp2
  go_ret;exact⟨by rw[HE.out];rfl,d9⟩
theorem Fi(x:Value)(d:List Int)(s:Int)(v:Value)(b:List Int)(w:World)(h:Sl w x d)(hv:Sl w v b)(hb:b.length≤255)(hd:d.length≤100000)(ht:AI w) :
  Calls prog 211 #[.agg (tpA x s),v] w fun e w'=>∃ y,e=.returned (.tuple #[.agg (tpA y s),.int .i64 0])∧w'.ownsRow w.heap.size 5 1 y (d++BF b).length ((d++BF b).map (Value.int .u8))∧Below w.heap.size w w':=by
 have HD:Hid (∀ x∈d,0≤x∧x<256):=h.byte;have HRB:Hid (∀ x∈BF b,0≤x∧x<256):=JL hv.byte hb;have hrl:(BF b).length≤260:=by rw[GI];omega
 have hlen:=h.len;obtain⟨ax,cp,rfl⟩:=h.shapeT;obtain⟨M,hM⟩:∃ M,d.length=M:=⟨_,rfl⟩;have HM:Hid (d.length=M):=hM;rw[hM]at h hlen ⊢
 clear hM;simp only[tpA];rw[HM.out]at hd
 obtain⟨i0,hi0,hz0,hz1,hz2⟩:=info_parts AB;obtain⟨W0,hW0⟩:∃ W0,(w.alloc (.cells #[.slice ax M cp,.int .i64 s] 132)).alloc (.cells #[.slice none 0 0,.int .i64 0] 132)=W0:=⟨_,rfl⟩;have r0_p:W0.heap[w.heap.size]?=some (.cells #[.slice ax M cp,.int .i64 s] 132):=by rw[← hW0];exact Gf _ _ _
 have r0_r:W0.heap[w.heap.size+1]?=some (.cells #[.slice none 0 0,.int .i64 0] 132):=by rw[← hW0];exact Gg _ _ _
 have bb:Below w.heap.size w W0:=by rw[← hW0];exact H9 _ _ _
 have l0_p:w.heap.size<W0.heap.size:=(Array.getElem?_eq_some_iff.1 r0_p).1;have l0_r:(w.heap.size+1)<W0.heap.size:=(Array.getElem?_eq_some_iff.1 r0_r).1;have t0_0:=ht.below bb;have sl0_x:=h.below bb;have sl0_v:=hv.below bb;go_enter func211,ntmps211
 go_wp2_with fail
 clear hW0;refine(Mt v b W0 sl0_v hb t0_0).mono ?_;rintro e w1 ⟨y,rfl,oy,bw1⟩;obtain⟨R,hR⟩:∃ R,BF b=R:=⟨_,rfl⟩;rw[hR]at oy hrl HRB
 have HR:Hid (BF b=R):=hR;clear hR;have sy:=Sl.ofOwns oy (by omega) HRB.out;obtain⟨N,hN⟩:∃ N,R.length=N:=⟨_,rfl⟩;have HN:Hid (R.length=N):=hN;rw[hN]at oy hrl
 clear hN;obtain⟨ay,cy,rfl⟩:=AD oy;have d1:=bb.trans (bw1.mono bb.size);have tt1_0:=t0_0.below bw1;have rw1_p:=(bw1.block _ l0_p).trans r0_p;have lw1_p:=Nat.lt_of_lt_of_le l0_p bw1.size;have rw1_r:=(bw1.block _ l0_r).trans r0_r;have lw1_r:=Nat.lt_of_lt_of_le l0_r bw1.size;have sl1_x:=sl0_x.below bw1;have sl1_v:=sl0_v.below bw1;clear t0_0 l0_p r0_p l0_r r0_r sl0_x sl0_v;clear bw1;clear oy;have sy1:=sy;have hRB:w.heap.size+1<w1.heap.size:=lw1_r;have cc1_p0:w1.cell? ⟨w.heap.size,0,none⟩=some (.slice ax M cp):=cell_of_row _ _ 0 _ _ _ rw1_p;go_wp2_with (at_make;refine wpList_make_own _ rfl _ _ 26 rfl w1.heap.size 5 i0 (.int .u8 0) 1 underlying26 hi0 hz0 hz1 _ _ _ (M+N) rfl rfl (by omega) (by rw[hz2];omega) (by unfold maxLen;omega) (Nat.le_refl _) ?_)
 intro w2 o2 g2;have b2:Below w1.heap.size w1 w2:=(Below.refl _ _).grown g2 (Nat.le_refl _) (fun k hk=>by cases hk);clear g2 cc1_p0;have z12:=b2.size;have b12:=b2;have d2:=d1.trans (b2.mono d1.size);have tt2_0:=tt1_0.below b2;have rw2_p:=(b2.block _ lw1_p).trans rw1_p;have lw2_p:=Nat.lt_of_lt_of_le lw1_p b2.size;have rw2_r:=(b2.block _ lw1_r).trans rw1_r;have lw2_r:=Nat.lt_of_lt_of_le lw1_r b2.size;have sl2_x:=sl1_x.below b2;have sl2_v:=sl1_v.below b2;clear tt1_0 lw1_p rw1_p lw1_r rw1_r sl1_x sl1_v;clear b2;have HO2:Hid (w2.ownsRow w1.heap.size 5 1 (.slice (some ⟨w1.heap.size,0,none⟩) 0 (M+N)) ([]:List Int).length (([]:List Int).map (Value.int .u8))):=o2;have hlt2:=o2.lt;have hll:([]:List Int).length+d.length≤140737488355328:=by rw[HM.out];simp;omega
 clear o2;have cc2_p0:w2.cell? ⟨w.heap.size,0,none⟩=some (.slice ax M cp):=cell_of_row _ _ 0 _ _ _ rw2_p;go_wp2_with (at_builtin;refine Aa _ rfl _ _ 26 rfl w1.heap.size 5 underlying26 AB _ _ rfl rfl [] d HO2.out sl2_x hll (by omega) ?_)
 intro v3 w3 o3 g3;have b3:Below w1.heap.size w2 w3:=(Below.refl _ _).grown g3 (by omega) (fun k hk=>(hlt2 k hk).1);have HO3:Hid (w3.ownsRow w1.heap.size 5 1 v3 d.length (d.map (Value.int .u8))):=by unfold Hid;simpa using o3
 have z23:=b3.size;have sy3:Sl w3 (.slice ay N cy) R:=sy1.below (show Below w1.heap.size w1 w3 from b12.trans b3);have rp3:=(b3.block w.heap.size (by omega)).trans rw2_p;have rr3:=(b3.block (w.heap.size+1) hRB).trans rw2_r;have d3:=d2.trans (b3.mono (show w.heap.size≤w1.heap.size by omega));have lr3:w.heap.size+1<w3.heap.size:=by omega
 have z13:w1.heap.size≤w3.heap.size:=by omega
 obtain⟨a3,c3,h3⟩:=AD HO3.out;rw[HM.out]at h3
 subst h3;have c1:w3.cell? ⟨w.heap.size,1,none⟩=some (.int .i64 s):=cell_of_row _ _ 1 _ _ _ rp3;obtain⟨T,hT⟩:∃ T,M+N=T:=⟨_,rfl⟩;have HT:Hid (M+N=T):=hT;clear hT;clear o3 g3 b3 hlt2 HO2 sl2_x cc2_p0;go_wp2_with fail
 apply Vs (fun g c Wz=>Wz.heap[w.heap.size+1]?=some (.cells #[.slice g T c,.int .i64 s] 132)∧Wz.ownsRow w1.heap.size 5 1 (.slice g T c) T ((d++R).map (Value.int .u8))∧Below (w.heap.size+1) w3 Wz)
 ·intro K2 HK2;have ed0:Below w3.heap.size w3 w3.drew:=(Below.refl _ _).drew;refine wp_region_held (S:=fun w'=>Below (w.heap.size+1) w3 w') (by kernel_rfl) ?_;have hS0:(fun w'=>Below (w.heap.size+1) w3 w') w3.drew:=ed0.mono (Nat.le_of_lt lr3);refine Ac (i:=0) 29 (v:=.slice a3 M c3) rfl rfl (by kernel_rfl) (by kernel_rfl) (by kernel_rfl) (fun _ _ _ h=>h) (Or.inl ⟨by rfl,fun _ _=>by kernel_rfl⟩) hS0 ?_;simp only[Act.put,List.setIfInBounds_toArray,List.set_cons_zero,List.set_cons_succ];refine Ac (i:=1) 30 (v:=.slice ay N cy) rfl rfl (by kernel_rfl) (by kernel_rfl) (by kernel_rfl) (fun _ _ _ h=>h) (Or.inl ⟨by rfl,fun _ _=>by kernel_rfl⟩) hS0 ?_;simp only[Act.put,List.setIfInBounds_toArray,List.set_cons_zero,List.set_cons_succ];refine Ac (i:=3) 32 (v:=.pointer (some ⟨w.heap.size,1,none⟩)) rfl rfl (by kernel_rfl) (by kernel_rfl) (by kernel_rfl) (fun _ _ _ h=>h) (Or.inl ⟨by rfl,fun _ _=>by kernel_rfl⟩) hS0 ?_;simp only[Act.put,List.setIfInBounds_toArray,List.set_cons_zero,List.set_cons_succ];refine Ac (i:=4) 33 (v:=.int .i64 s) rfl rfl (by kernel_rfl) (by kernel_rfl) (by kernel_rfl) (fun _ _ _ h=>h) (Fz (by rfl) 3 (.tmp 32) rfl _ underlying3 rfl ⟨w.heap.size,1,none⟩ rfl (.int .i64 s) (fun w' hw'=>(hw'.cell (p:=⟨w.heap.size,1,none⟩) (show w.heap.size<w.heap.size+1 by omega)).trans c1)) hS0 ?_;simp only[Act.put,List.setIfInBounds_toArray,List.set_cons_zero,List.set_cons_succ];have od:w3.drew.ownsRow w1.heap.size 5 1 (.slice a3 M c3) d.length (d.map (Value.int .u8)):=AT HO3.out (fun k hk=>ed0.block k (HO3.out.lt k hk).2);have rd:=(ed0.block (w.heap.size+1) lr3).trans rr3;have hlt:=od.lt;have hlen2:d.length+R.length≤140737488355328:=by rw[HM.out,HN.out];omega
  refine AM (i:=2) (by kernel_rfl) (Sb (i:=2) (d:=31) rfl (by kernel_rfl) rfl (.tmp 29) (.tmp 30) 26 rfl w1.heap.size 5 underlying26 AB (.slice a3 M c3) (.slice ay N cy) (by kernel_rfl) (by kernel_rfl) d R od (sy3.below ed0) hlen2 (Nat.le_trans z13 ed0.size) ?_);intro v4 w4 o4 g4;have b4:Below (w.heap.size+1) w3 w4:=(ed0.mono (Nat.le_of_lt lr3)).grown g4 (Nat.le_trans (Nat.le_of_lt lr3) ed0.size) (fun k hk=>Nat.le_trans (Nat.le_of_lt hRB) (hlt k hk).1);have r4:w4.heap[w.heap.size+1]?=some (.cells #[.slice none 0 0,.int .i64 0] 132):=(g4.block (w.heap.size+1) (Nat.lt_of_lt_of_le lr3 ed0.size) (fun e=>JW od rd (by decide) _ e.symm rfl)).trans rd;have hTT:(d++R).length=T:=by rw[List.length_append,HM.out,HN.out];exact HT.out
  rw[hTT]at o4
  obtain⟨a4,c4,h4⟩:=AD o4;subst h4;refine⟨b4,?_⟩;simp only[Act.put,List.setIfInBounds_toArray,List.set_cons_zero,List.set_cons_succ];refine Ac (i:=5) 34 (v:=.agg #[.slice a4 T c4,.int .i64 s]) rfl rfl (by kernel_rfl) (by kernel_rfl) (by kernel_rfl) (fun _ _ _ h=>h) (Or.inl ⟨by rfl,fun _ _=>by kernel_rfl⟩) b4 ?_;simp only[Act.put,List.setIfInBounds_toArray,List.set_cons_zero,List.set_cons_succ];have hone:=V2 a4 T c4 s;have e7:Below (w.heap.size+1) w3 (w4.setRow (w.heap.size+1) #[.slice a4 T c4,.int .i64 s]):=An b4 (Nat.le_refl _) _;have q7:=setRow_heap w4 (w.heap.size+1) _ (#[.slice a4 T c4,.int .i64 s]) 132 _ r4;have o7:=De o4 r4 (by decide) (#[.slice a4 T c4,.int .i64 s]);refine AM (i:=6) (by kernel_rfl) (Er (i:=6) rfl (by kernel_rfl) rfl 132 (.tmp 4) (.tmp 34) rfl (w.heap.size+1) #[.slice a4 T c4,.int .i64 s] (by kernel_rfl) (by kernel_rfl) 132 _ r4 At rfl hone ⟨e7,?_⟩);refine Ac (i:=7) 5 (v:=.int .i64 0) rfl rfl (by kernel_rfl) (by kernel_rfl) (by kernel_rfl) (fun _ _ _ h=>h) (Or.inl ⟨by rfl,fun _ _=>by kernel_rfl⟩) e7 ?_;simp only[Act.put,List.setIfInBounds_toArray,List.set_cons_zero,List.set_cons_succ];exact wpAnyH_done (by kernel_rfl) (HK2.out a4 c4 _ ⟨q7,o7,e7⟩) _
 rintro g c Wz ⟨qR,oR,eR⟩;have dR:=d3.trans (eR.mono (by omega));have HTL:Hid ((d++BF b).length=T):=by unfold Hid;rw[HR.out,List.length_append,HM.out,HN.out];exact HT.out
 clear rp3 rr3 c1 HO3;go_wp2
 refine bodyPost_ret (CU rfl _ _ (w.heap.size+1) 132 _ (0,0) _ rfl qR underlying132 rfl At) rfl ?_;rw[HTL.out,HR.out];exact⟨_,rfl,Bm oR (by omega),dR⟩
end Go.Proofs.YtakgfdbjgeopdaaGreatDoor
