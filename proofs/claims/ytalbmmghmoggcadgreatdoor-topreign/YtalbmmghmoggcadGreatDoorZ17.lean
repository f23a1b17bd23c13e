/- Part 17 of the walk. -/
import Derived.Test.YtalbmmghmoggcadGreatDoorZ8
import Derived.Test.YtalbmmghmoggcadGreatDoorZ14
set_option maxRecDepth 100000
set_option maxHeartbeats 4000000
open Go.Proofs.Tryz
set_option linter.unusedVariables false
namespace Go.Proofs.YtalbmmghmoggcadGreatDoor
open Go.RowKit
section
theorem Lb(x:Value)(d:List Int)(s:Int)(w:World)(h:Sl w x d) :
  Calls prog 135 #[.agg (tpA x s)] w λe w'=>e=.returned (.bool (decide (Bd d s)))/\Bw w w':=by
 have hlen:=h.len;obtain⟨ax,cp,rfl⟩:=h.shapeT;obtain⟨M,hM⟩:∃ M,d.length=M:=⟨_,rfl⟩;have HM:Hid (d.length=M):=hM;rw[hM]at hlen ⊢
 clear hM h;simp only[tpA];have bb:Bw w (w.alloc (.cells #[.slice ax M cp,.int .i64 s] 121)):=(Below.refl _ _).alloc (A' _) _;have rr:=heap_alloc_new w (.cells #[.slice ax M cp,.int .i64 s] 121);generalize hW:w.alloc (.cells #[.slice ax M cp,.int .i64 s] 121)=W0 at bb rr;have c0:W0.cell? ⟨w.heap.size,0,none⟩=some (.slice ax M cp):=cell_of_row _ _ 0 _ _ _ rr;have c1:W0.cell? ⟨w.heap.size,1,none⟩=some (.int .i64 s):=cell_of_row _ _ 1 _ _ _ rr;clear rr;have HT:Hid (Bd d s↔(M<=100000/\0<=s/\s<=(M:Int))):=by
  unfold Hid Bd;rw[HM.out]
 by_cases h1:M<=100000
 .have h1i:(M:Int)<=100000:=by omega
  by_cases h2:0<=s
  .by_cases h3:s<=(M:Int)
   .go_enter func135,ntmps135
    go_wp2
    go_ret;exact⟨Ae (by rw[I' (HT.out.2 ⟨h1,h2,h3⟩)]),bb⟩
   .go_enter func135,ntmps135
    go_wp2
    go_ret;exact⟨Ae (by rw[D' (λg=>absurd (HT.out.1 g).2.2 (by omega))]),bb⟩
  .go_enter func135,ntmps135
   go_wp2
   go_ret;exact⟨Ae (by rw[D' (λg=>absurd (HT.out.1 g).2.1 (by omega))]),bb⟩
 .have h1i:¬ (M:Int)<=100000:=by omega
  go_enter func135,ntmps135
  go_wp2
  go_ret;exact⟨Ae (by rw[D' (λg=>absurd (HT.out.1 g).1 (by omega))]),bb⟩
theorem Jk(x:Value)(d:List Int)(s:Int)(n:Nat)(w:World)(h:Sl w x d)(hn:n<=d.length) :
  Calls prog 136 #[.agg (tpA x s),.int .i64 (n:Int)] w λe w'=>∃ y,e=.returned (.agg (tpA y (n:Int)))/\w'.ownsRow w.heap.size 5 1 y n ((d.take n).map (Value.int .u8))/\Bw w w':=by
 have hlen:=h.len;obtain⟨ax,cp,rfl⟩:=h.shapeT;obtain⟨M,hM⟩:∃ M,d.length=M:=⟨_,rfl⟩;have HM:Hid (d.length=M):=hM;have HN:Hid (n<=d.length):=hn;obtain⟨t,ht⟩:∃ t,t=d.take n:=⟨_,rfl⟩;have HT:Hid (t=d.take n):=ht;rw[<- ht];clear ht;rw[hM]at h hlen hn ⊢
 clear hM;simp only[tpA];have r0:=heap_alloc2_old w (.cells #[.slice ax M cp,.int .i64 s] 121) (.cells #[.slice none 0 0,.int .i64 0] 121);have r1:=heap_alloc2_new w (.cells #[.slice ax M cp,.int .i64 s] 121) (.cells #[.slice none 0 0,.int .i64 0] 121);have bb:Bw w ((w.alloc (.cells #[.slice ax M cp,.int .i64 s] 121)).alloc (.cells #[.slice none 0 0,.int .i64 0] 121)):=((Below.refl _ _).alloc (A' _) _).alloc (by simp) _;have z0:((w.alloc (.cells #[.slice ax M cp,.int .i64 s] 121)).alloc (.cells #[.slice none 0 0,.int .i64 0] 121)).heap.size=w.heap.size+2:=by simp
 generalize hW:(w.alloc (.cells #[.slice ax M cp,.int .i64 s] 121)).alloc (.cells #[.slice none 0 0,.int .i64 0] 121)=W0 at r0 r1 bb z0;have s0:=h.below bb;have Z0:Hid (W0.heap.size=w.heap.size+2):=z0;have y0:w.heap.size+1<W0.heap.size:=by omega
 have y1:w.heap.size<W0.heap.size:=by omega
 clear z0;go_enter func136,ntmps136
 go_wp2_with ((with_reducible (refine Ev ?_));at_make;refine LY _ rfl _ _ 28 rfl W0.heap.size 5 underlying28 At n rfl rfl (by omega) (A' _) ?_)
 clear hW;intro w1 o1 g1;have b1:Bw W0 w1:=(Below.refl _ _).grown g1 (A' _) (λk hk=>by cases hk);have q0:=(b1.block w.heap.size y1).trans r0;have q1:=(b1.block (w.heap.size+1) y0).trans r1;have s1:=s0.below b1;obtain⟨xs,o1⟩:=o1.out;have HO:Hid (w1.ownsRow W0.heap.size 5 1 (.slice (some ⟨W0.heap.size,0,none⟩) n n) n xs):=o1;have d1:=bb.trans (b1.mono bb.size);clear o1 r0 r1 g1;have c0:w1.cell? ⟨w.heap.size,0,none⟩=some (.slice ax M cp):=cell_of_row _ _ 0 _ _ _ q0;go_wp2_with ((with_reducible (refine Ev ?_));refine LW _ rfl _ _ 28 28 rfl W0.heap.size 5 underlying28 fH W0.heap.size n _ rfl HO.out _ rfl d HN.out s1 t HT.out ?_)
 intro w2 o2 b2;have HO2:Hid (w2.ownsRow W0.heap.size 5 1 (.slice (some ⟨W0.heap.size,0,none⟩) n n) n (t.map (Value.int .u8))):=o2;have e2:=b2.mono (show w.heap.size+2<=W0.heap.size by have:=Z0.out;omega);have p1:=(e2.block (w.heap.size+1) (by omega)).trans q1;have d2:=d1.trans (e2.mono (by omega));obtain⟨g,hg⟩:∃ g,W0.heap.size=g:=⟨_,rfl⟩;have HG:Hid (W0.heap.size=g):=hg;have z0:g=w.heap.size+2:=hg.symm.trans Z0.out;have Z1:Hid (g=w.heap.size+2):=z0;rw[hg]at HO2 ⊢
 clear o2 HO q0 q1 c0 hg z0 y0 y1 Z0;have on:=YE (some ⟨g,0,none⟩) n n (n:Int);go_wp2_with ((with_reducible (refine Ev ?_));refine wpList_store_row rfl 121 (.tmp 4) (.tmp 14) rfl (w.heap.size+1) #[.slice (some ⟨g,0,none⟩) n n,.int .i64 (n:Int)] rfl rfl 121 _ p1 LK rfl on ?_)
 have q9:=setRow_heap w2 (w.heap.size+1) _ (#[.slice (some ⟨g,0,none⟩) n n,.int .i64 (n:Int)]) 121 _ p1;have d9:=CF d2 (show w.heap.size<=w.heap.size+1 by omega) (#[.slice (some ⟨g,0,none⟩) n n,.int .i64 (n:Int)]);have o9:(w2.setRow (w.heap.size+1) #[.slice (some ⟨g,0,none⟩) n n,.int .i64 (n:Int)]).ownsRow g 5 1 (.slice (some ⟨g,0,none⟩) n n) n (t.map (Value.int .u8)):=Df HO2.out (λk hk=>setRow_other _ _ _ _ (by have:=(HO2.out.lt k hk).1;have:=Z1.out;omega));refine bodyPost_ret (Y4 rfl _ _ (w.heap.size+1) 121 _ (0,0) _ rfl q9 underlying121 rfl LK) rfl ?_;exact⟨_,rfl,Fh o9 (by have:=Z1.out;omega),d9⟩
theorem Wc:(prog.info? 25).map (·.size)=some 5:=by kernel_rfl
theorem TA:(prog.info? 166).map (·.size)=some 8:=by kernel_rfl
theorem eY{v r:Value}{lo hi:Option Value}(h:∀ W,(Instr.slice 28 v lo hi none).run prog W=.ok r W)(w:World) :
  (do let x <- Instr.slice 28 v lo hi none;pure (Next.value x):Sem Next).run prog w=.ok (.value r) w:=by
 simp only[Sem.run_bind,h w,Result.andThen_ok,Sem.run_pure]
variable{base g:Nat}
theorem Sl.four2(w:World)(b0 b1 b2 b3 c0 c1 c2 c3:Int)(e:TypeId)(hg:g=w.heap.size)(h0:0<=b0/\b0<256)(h1:0<=b1/\b1<256)(h2:0<=b2/\b2<256)(h3:0<=b3/\b3<256)(e0:c0=b0)(e1:c1=b1)(e2:c2=b2)(e3:c3=b3) :
  Sl (w.alloc (.cells #[.int .u8 c0,.int .u8 c1,.int .u8 c2,.int .u8 c3] e)) (.slice (some ⟨g,0,none⟩) 4 4) [b0,b1,b2,b3]:=by
 subst e0 e1 e2 e3;exact Sl.built w [c0,c1,c2,c3] e hg (by simp) (by intro x hx;simp at hx;omega)
theorem Qq(w:World)(l:List Int)(e:TypeId)(hg:g=w.heap.size)(hb:base<=w.heap.size)(hl:l.length<=1000):(w.alloc (.cells (l.map (Value.int .u8)).toArray e)).ownsRow base e 1 (.slice (some ⟨g,0,none⟩) l.length l.length) l.length (l.map (Value.int .u8)):=by
 subst hg;refine⟨by simp,.inr ⟨w.heap.size,l.length,_,rfl,hb,heap_alloc_new _ _,A' _,by unfold maxLen;omega,by simp,by rw[iU (by simp)]⟩⟩
theorem IT(w:World)(b c:Int)(e:TypeId)(hg:g=w.heap.size)(hb:base<=w.heap.size)(he:c=b):(w.alloc (.cells #[.int .u8 c] e)).ownsRow base e 1 (.slice (some ⟨g,0,none⟩) 1 1) [b].length ([b].map (Value.int .u8)):=by
 subst he;exact Qq w [c] e hg hb (by simp)
def CJ(ns:List Int):List Int:=ns.flatMap Ad
theorem UJ(ns:List Int):(CJ ns).length=4*ns.length:=by
 induction ns with
 | nil=>rfl
 | cons n ns ih =>
  show(Ad n++CJ ns).length=_;rw[G',Cm,ih,jo];omega
theorem RG(ns:List Int)(n:Int):CJ (ns++[n])=CJ ns++Ad n:=by simp[CJ]
theorem Sz(l:List Int)(k:Nat)(hk:k<l.length):l.take (k+1)=l.take k++[l.getD k 0]:=by
 rw[iW hk,AR hk]
theorem FI(v:Value)(l ns:List Int)(B g:Nat)(w:World)(ho:w.ownsRow B 5 1 v l.length (l.map (Value.int .u8)))(hB:B<=w.heap.size)(hl:l.length<=1000)(hk:ns.length<=10)(hn:∀ x∈ns,0<=x/\x<2147483648)(hg:w.heap[g]?=some (.cells (ns.map (Value.int .i64)).toArray 3)) :
  Calls prog 186 #[v,.slice (some ⟨g,0,none⟩) ns.length ns.length] w λe w'=>∃ v',e=.returned v'/\w'.ownsRow B 5 1 v' (l++CJ ns).length ((l++CJ ns).map (Value.int .u8))/\Below B w w':=by
 obtain⟨N,hN⟩:∃ N,ns.length=N:=⟨_,rfl⟩;have HN:Hid (ns.length=N):=hN;have Hn:Hid (∀ x∈ns,0<=x/\x<2147483648):=hn;rw[hN]at hk ⊢
 clear hN hn;have HO0:Hid (w.ownsRow B 5 1 v (l++CJ (ns.take 0)).length ((l++CJ (ns.take 0)).map (Value.int .u8))):=by unfold Hid;simpa[CJ]using ho
 clear ho;go_enter func186,ntmps186
 go_wp2_with fail
 go_loopw [0,9] (λv iv wr=>∃ j:Nat,j<=N/\iv=.int .i64 (j:Int)/\Hid (wr.ownsRow B 5 1 v (l++CJ (ns.take j)).length ((l++CJ (ns.take j)).map (Value.int .u8)))/\wr.heap[g]?=some (.cells (ns.map (Value.int .i64)).toArray 3)/\Below B w wr) (λ_ iv _=>N-(intOf iv).toNat)
 case atStart=>exact⟨0,by omega,rfl,HO0,hg,Below.refl _ _⟩
 case round =>
  obtain⟨j,hj,rfl,HO,hgr,hbel⟩:=hrel;clear HO0 hg;by_cases hjN:j<N
  .have hji:(j:Int)<(N:Int):=by omega
   have hjl:j<ns.length:=by rw[HN.out];exact hjN
   have hlt:=HO.out.lt;have hz:B<=wr.heap.size:=iP hB hbel.size;have hx:=Hn.out (ns.getD j 0) (by rw[AR hjl];exact jr hjl);have hc:wr.cell? ⟨g,j,none⟩=some (.int .i64 (ns.getD j 0)):=by
    rw[cell_of_row _ _ j _ _ _ hgr,AR hjl];simp[List.getElem?_eq_getElem hjl]
   have HT:Hid (ns.take (j+1)=ns.take j++[ns.getD j 0]):=Sz ns j hjl;have hlen:(l++CJ (ns.take j)).length+4<=140737488355328:=by
    rw[G',UJ,iO];omega
   have hne:=LC HO.out hgr (by decide);have lg:g<wr.heap.size:=(H'.1 hgr).1;have HH:Hid (∀ n,Ad n=[n/16777216%256,n/65536%256,n/256%256,n%256]):=λn=>rfl;generalize ns.getD j 0=n at hx hc HT;generalize hL:l++CJ (ns.take j)=L at HO hlen;have HL:Hid (l++CJ (ns.take j)=L):=hL;clear hL hjl;go_wp2_with (at_builtin;refine Aa _ rfl _ _ 28 rfl B 5 underlying28 At _ _ rfl rfl L [n/16777216%256,n/65536%256,n/256%256,n%256] (HO.out.alloc _) (Sl.four2 _ (n/16777216%256) (n/65536%256) (n/256%256) (n%256) _ _ _ _ _ rfl (by omega) (by omega) (by omega) (by omega) (by omega) (by omega) (by omega) (by omega)) hlen (by simp;omega) ?_)
   intro v2 w2 ho2 hg2;have hb2:Below B w w2:=(hbel.alloc hz _).grown hg2 (by simp;omega) (λk hk=>(hlt k hk).1);have hgr2:w2.heap[g]?=some (.cells (ns.map (Value.int .i64)).toArray 3):=by
    rw[hg2.block g (by simp;omega) (λe=>hne g e.symm rfl),heap_alloc_old _ _ lg];exact hgr
   have HO2:Hid (w2.ownsRow B 5 1 v2 (l++CJ (ns.take (j+1))).length ((l++CJ (ns.take (j+1))).map (Value.int .u8))):=by
    unfold Hid;rw[HT.out,RG,<- iR,HL.out,HH.out];simpa using ho2
   clear ho2 hg2 hbel hlen HO hne hlt hgr hc HT HL;go_wp2
   go_roundw
   case rel=>exact⟨j+1,by omega,by go_num,HO2,hgr2,hb2⟩
   case measure=>simp[intOf];omega
  .obtain rfl:j=N:=by omega
   have ht:ns.take j=ns:=iU (by rw[HN.out];exact A' _);rw[ht]at HO
   clear ht;go_wp2
   go_ret;exact⟨_,rfl,HO.out,hbel⟩
theorem Sl.cutT{w:World}{a:Option Addr}{n cap:Nat}{l:List Int}(h:Sl w (.slice a n cap) l)(lo hi m:Nat)(hlo:lo<=hi)(hhi:hi<=l.length)(hm:m=hi-lo)(li hj:Int)(hli:li=(lo:Int))(hhj:hj=(hi:Int)) :
  ∃ a' c',(∀ W,(Instr.slice 28 (.slice a n cap) (some (.int .i64 li)) (some (.int .i64 hj)) none).run prog W=.ok (.slice a' m c') W)/\Sl w (.slice a' m c') ((l.take hi).drop lo):=by
 subst hli;subst hhj;subst hm;have hw:=h.window lo hi hlo hhi;obtain⟨⟨a',cap',e,hc,hn,h1⟩,hla,hba⟩:=h;simp only[Value.slice.injEq]at e;obtain⟨rfl,rfl,rfl⟩:=e;refine⟨_,_,λW=>?_,by simpa[sliced]using hw⟩;rw[run_slice_lh (P:=prog) W 28 a _ cap underlying28 .i64 .i64 _ _ (by omega) (by omega) (by omega)];have e:prog.elem 28=5:=by kernel_rfl
 rw[e,IR,jA,jA];simp[Result.andThen,sliced]
theorem eU(v:Value)(l:List Int)(w:World)(h:Sl w v l)(hl:l.length<=2000)(ht:AE w) :
  Calls prog 199 #[v] w λe w'=>∃ v',e=.returned (.tuple #[v',.int .i64 0])/\Fresh w w' v' (dig l):=by
 have hs:=h;obtain⟨⟨a,cap,rfl,hc,hn,h1⟩,hla,hba⟩:=h;clear h1 hba;go_enter func199,ntmps199
 go_wp2_with fail
 refine(EN _ l w hs (by omega) ht).mono ?_;rintro e w1 ⟨v1,rfl,ho,hb⟩;go_wp2
 go_ret2
 exact⟨v1,rfl,Fresh.ofOwns ho (EU (Ax l)) (by rw[Ax];omega) (Dn l) hb⟩
theorem Nv(v:Value)(l:List Int)(w:World)(h:Sl w v l)(hl:l.length<=2000)(ht:AE w) :
  Calls prog 189 #[v] w λe w'=>∃ a c,e=.returned (.tuple #[.slice a 4 c,.int .i64 0])/\Sl w' (.slice a 4 c) ((dig l).take 4)/\Bw w w':=by
 go_enter func189,ntmps189
 go_wp2_with fail
 refine(eU v l w h hl ht).mono ?_;rintro e w1 ⟨y,rfl,f1⟩;obtain⟨g,cap,hy,hg,hcap⟩:=f1.shape;rw[Ax]at hy hcap
 subst hy;obtain⟨a4,c4,r4,s4⟩:=f1.sl.upTo 4 (by rw[Ax];decide);have b1:=f1.bel;clear f1;have hcap4:(4:Int)<=(cap:Int):=by omega
 replace r4:∀ W,(Instr.slice 28 (.slice (some ⟨g,0,none⟩) 32 cap) none (some (.int .i64 4)) none).run prog W=.ok (.slice a4 4 c4) W:=r4;go_wp2
 go_ret2
 exact⟨a4,c4,rfl,s4,b1⟩
theorem Mi(v:Value)(r:List Int)(w:World)(h:Sl w v r)(ht:AE w){u:World}(hu:Sl u v r) :
  Calls prog 166 #[v] w λe w'=>∃ a n c,e=.returned (.tuple #[.slice a n c,.bool (fbO r).isSome])/\Sl u (.slice a n c) ((fbO r).getD [])/\Bw w w':=by
 have hlen:=h.len;have hx:=Al h.byte 0;obtain⟨ax,cp,rfl⟩:=h.shapeT;by_cases h0:r=[]
 .subst h0;have HO:Hid (fbO []=none):=if_pos rfl;rw[HO.out];go_enter func166,ntmps166
  go_wp2
  go_ret2
  exact⟨none,0,0,rfl,Sl.nil _ _,Below.refl _ _⟩
 .have hp:0<r.length:=by
   rcases Nat.eq_zero_or_pos r.length with g|g
   .exact absurd (iN g) h0
   .exact g
  obtain⟨bd,od,rfl,hbd,hc⟩:=h.spotO 0 hp;obtain⟨x,hx0⟩:∃ x:Nat,r.getD 0 0=(x:Int):=⟨(r.getD 0 0).toNat,by omega⟩;have hxn:(r.getD 0 0).toNat=x:=by rw[hx0];exact jA _
  rw[hx0]at hc hx
  obtain⟨M,hM⟩:∃ M,r.length=M:=⟨_,rfl⟩;have HM:Hid (r.length=M):=hM;have HX:Hid ((r.getD 0 0).toNat=x):=hxn;have hz:(0:Int)<(M:Int):=by omega
  have hne:((M:Int)==0)=false:=by simp;omega
  rw[hM]at h hu hlen hp ⊢
  have hx2:x<256:=by omega
  have H0:Hid (¬ r=[]):=h0;clear hM hx0 hxn hx h0;rw[kf]at hc
  by_cases h1:M<x+5
  .have HO:Hid (fbO r=none):=by
    unfold Hid fbO;rw[if_neg H0.out,HX.out,HM.out,if_pos h1]
   rw[HO.out];have h1i:(M:Int)<1+(x:Int)+4:=by omega
   clear H0 HX;go_enter func166,ntmps166
   go_wp2
   go_ret2
   exact⟨none,0,0,rfl,Sl.nil _ _,Below.refl _ _⟩
  .have h1i:¬ (M:Int)<1+(x:Int)+4:=by omega
   obtain⟨E,hE⟩:∃ E:Nat,E=x+1:=⟨_,rfl⟩;have HE:Hid (E=x+1):=hE;have hEi:1+(x:Int)=(E:Int):=by omega
   have hE2:E+4<=M:=by omega
   have hE3:E<=256:=by omega
   have hE4:1<=E:=by omega
   rw[hEi]at h1i
   obtain⟨au,cu,ru,su⟩:=h.upTo E (by rw[HM.out];omega);obtain⟨af,cf,rf,sf⟩:=h.cutT E (E+4) 4 (by omega) (by rw[HM.out];omega) (by omega) (E:Int) ((E:Int)+4) rfl (by omega);obtain⟨ab,cb,rb,sb⟩:=hu.cutT 1 E x hE4 (by rw[HM.out];omega) (by omega) 1 (E:Int) rfl rfl;have hl:(r.take E).length=E:=by rw[iO,HM.out];omega
   have HF:Hid ((r.take (E+4)).drop E=(r.drop E).take 4):=by unfold Hid;rw[lK,show E+4-E=4 by omega]
   rw[HF.out]at sf
   clear hE h1 hE4 HF;go_enter func166,ntmps166
   go_wp2_with fail
   refine(Nv (.slice au E cu) (r.take E) w su (by omega) ht).mono ?_;rintro e w1 ⟨ag,cg,rfl,sg,b1⟩;have sf1:=sf.below b1;have sb1:=sb;clear su sf sb ru hc hbd hl;go_wp2_with fail
   refine(Ih (.slice ag 4 cg) (.slice af 4 cf) ((dig (r.take E)).take 4) ((r.drop E).take 4) w1 sg sf1).mono ?_;rintro e w2 ⟨rfl,n2,hw2⟩;have b2:Bw w1 w2:=by rw[hw2];exact Ao (Below.refl _ _) n2
   clear hw2;have d2:=b1.trans (b2.mono b1.size);have sb2:=sb1;clear b1 b2 sb1 sg sf1 rf;by_cases h2:(dig (r.take E)).take 4=(r.drop E).take 4
   .have HO:Hid (fbO r=some ((r.take E).drop 1)):=by
     unfold Hid fbO;have:=HE.out;rw[if_neg H0.out,HX.out,HM.out,if_neg (by omega),<- this,if_neg (λg=>g h2)]
    rw[I' h2];clear h2 H0 HX HE;go_wp2
    go_ret2
    rw[HO.out];exact⟨ab,x,cb,rfl,sb2,d2⟩
   .have HO:Hid (fbO r=none):=by
     unfold Hid fbO;have:=HE.out;rw[if_neg H0.out,HX.out,HM.out,if_neg (by omega),<- this,if_pos h2]
    rw[D' h2];clear h2 H0 HX HE sb2;go_wp2
    go_ret2
    rw[HO.out];exact⟨none,0,0,rfl,Sl.nil _ _,d2⟩
theorem Ow(v:Value)(b:List Int)(w:World)(h:Sl w v b)(hb:b.length<=255)(ht:AE w) :
  Calls prog 185 #[v] w λe w'=>∃ y,e=.returned (.tuple #[y,.int .i64 0])/\w'.ownsRow w.heap.size 5 1 y (AI b).length ((AI b).map (Value.int .u8))/\Bw w w':=by
 obtain⟨ax,cp,rfl⟩:=h.shapeT;obtain⟨N,hN⟩:∃ N,b.length=N:=⟨_,rfl⟩;have HN:Hid (b.length=N):=hN;have HR:Hid (Dv b++(dig (Dv b)).take 4=AI b):=rfl;have HF:Hid ([(N:Int)]++b=Dv b):=by unfold Hid Dv;rw[hN];rfl
 have HFB:Hid ((Dv b).length=N+1/\∀ x∈Dv b,0<=x/\x<256):=⟨by rw[Cl,hN],KN h.byte hb⟩;rw[hN]at h hb ⊢
 have hwr:(N:Int)%256=(N:Int):=by omega
 have hll:[(N:Int)].length+b.length<=140737488355328:=by rw[hN];simp;omega
 clear hN;obtain⟨W1,hW1⟩:∃ W1,w.alloc (.cells #[.int .u8 (N:Int)] 5)=W1:=⟨_,rfl⟩;have b1:Bw w W1:=by rw[<- hW1];exact BU _ _
 have o1:W1.ownsRow w.heap.size 5 1 (.slice (some ⟨w.heap.size,0,none⟩) 1 1) [(N:Int)].length ([(N:Int)].map (Value.int .u8)):=by rw[<- hW1];exact IT w N N 5 rfl (A' _) rfl
 have h1:=h.below b1;go_enter func185,ntmps185
 go_wp2_with (at_builtin;refine Aa _ rfl _ _ 28 rfl w.heap.size 5 underlying28 At _ _ rfl rfl [(N:Int)] b o1 h1 hll b1.size ?_)
 clear hW1;intro v2 w2 o2 g2;have hlt1:=o1.lt;have b2:Bw w w2:=b1.grown g2 b1.size (λk hk=>(hlt1 k hk).1);replace o2:w2.ownsRow w.heap.size 5 1 v2 ([(N:Int)]++b).length (([(N:Int)]++b).map (Value.int .u8)):=by simpa using o2
 rw[HF.out]at o2
 have s2:=Sl.ofOwns o2 (by rw[HFB.out.1];omega) HFB.out.2;have hfl:(Dv b).length<=2000:=by rw[HFB.out.1];omega
 have hfd:(Dv b).length+((dig (Dv b)).take 4).length<=140737488355328:=by rw[HFB.out.1,iO,Ax];omega
 clear o1 g2 hlt1 HF hll h1;generalize hFr:Dv b=F at o2 s2 hfl hfd HR;have HO2:Hid (w2.ownsRow w.heap.size 5 1 v2 F.length (F.map (Value.int .u8))):=o2;clear o2 hFr HFB;go_wp2_with fail
 refine(Nv v2 F w2 s2 hfl (ht.below b2)).mono ?_;rintro e w3 ⟨a4,c4,rfl,s4,b3⟩;have d3:=b2.trans (b3.mono b2.size);have HO3:Hid (w3.ownsRow w.heap.size 5 1 v2 F.length (F.map (Value.int .u8))):=Df HO2.out (λk hk=>b3.block k (HO2.out.lt k hk).2);have hlt:=HO3.out.lt;generalize hD:(dig F).take 4=D at s4 HR hfd;clear HO2 b3 hD s2;have hz3:=d3.size;go_wp2_with (at_builtin;refine Aa _ rfl _ _ 28 rfl w.heap.size 5 underlying28 At _ _ rfl rfl F D HO3.out s4 hfd hz3 ?_)
 intro v5 w5 o5 g5;have d5:Bw w w5:=d3.grown g5 d3.size (λk hk=>(hlt k hk).1);have HO5:Hid (w5.ownsRow w.heap.size 5 1 v5 (AI b).length ((AI b).map (Value.int .u8))):=by
  unfold Hid;rw[<- HR.out];simpa using o5
 clear o5 g5 HO3 hlt s4;go_wp2
 go_ret2
 exact⟨_,rfl,HO5.out,d5⟩
end
section
variable{P:Program}{md:Region.Mode}{ops:Array Oper}{Q:Exit->Act->World->Prop}{S:World->Prop}
theorem UM{i d:Nat}{o:Oper}{a:Act}{w:World}{K:Act->World->Prop}(ho:ops[i]?=some o)(hw:Region.wanted o (yielded ops a.tmps)=true)(hd:o.dst=some d)(s x:Operand)(t:TypeId)
  (hop:o.op=.call { callee:=.builtin .append,args:=#[s,x],argTypes:=#[t,t] })
  (base e:Nat)(ht:P.underlying t=some (.slice e))(hinfo:(P.info? e).map (λi=>(i.zero,i.size,i.bytes))=some (some (.int .u8 0),1,1))
  (v u:Value)(hs:a.eval s=v)(hx:a.eval x=u)(l m:List Int)(hown:w.ownsRow base e 1 v l.length (l.map (Value.int .u8)))(hu:Sl w u m)
  (hlen:l.length+m.length<=140737488355328)(hbase:base<=w.heap.size)
  (h:∀ v' w',w'.ownsRow base e 1 v' (l++m).length ((l++m).map (Value.int .u8))->w.grownBy w' v.ownBlock->K (a.put (some d) v') w'):wpOp P ops Q i K a w :=
 wpOp_step ho λK' hK=>by
  rw[if_pos hw];obtain⟨v',w',hrun,r1,r2⟩:=GB (P:=P) w base t o.type e ht hinfo v l hown u m hu hlen hbase;unfold Oper.wp execOp;simp only[hop,resolve,invoke,builtin,Sem.run_bind,Sem.run_pure,Result.andThen_ok,kS,ji,jX,hs,hx,hrun];exact hK _ _ (by rw[hd];exact h v' w' r1 r2)
end
theorem G0(x:Value)(d:List Int)(s:Int)(k:Nat)(hk:k<=1000)(w:World)(h:Sl w x d) :
  Calls prog 159 #[.agg (tpA x s),.int .i64 (k:Int)] w λe w'=>e=.returned (.int .i64 (GZ d s k))/\Bw w w':=by
 have hlen:=h.len;obtain⟨ax,cp,rfl⟩:=h.shapeT;obtain⟨M,hM⟩:∃ M,d.length=M:=⟨_,rfl⟩;have HM:Hid (d.length=M):=hM;rw[hM]at h hlen ⊢
 clear hM;simp only[tpA];obtain⟨W0,hW0⟩:∃ W0,w.alloc (.cells #[.slice ax M cp,.int .i64 s] 121)=W0:=⟨_,rfl⟩;have r0_p:W0.heap[w.heap.size]?=some (.cells #[.slice ax M cp,.int .i64 s] 121):=by rw[<- hW0];exact DP _ _
 have bb:Bw w W0:=by rw[<- hW0];exact BU _ _
 have l0_p:w.heap.size<W0.heap.size:=(H'.1 r0_p).1;have sl0_x:=h.below bb;go_enter func159,ntmps159
 go_wp2_with ((with_reducible (refine Ev ?_));(refine wpList_load_row rfl 121 _ rfl w.heap.size rfl 121 _ (0,0) _ r0_p underlying121 rfl LK ?_))
 clear hW0;refine(Lb (.slice ax M cp) d s W0 sl0_x).mono ?_;rintro e w1 ⟨rfl,bw1⟩;have d1:=bb.trans (bw1.mono bb.size);have rw1_p:=(bw1.block _ l0_p).trans r0_p;have lw1_p:=Z' l0_p bw1.size;have sl1_x:=sl0_x.below bw1;clear l0_p r0_p sl0_x;clear bw1;by_cases h1:Bd d s
 .rw[I' h1];have hM1:M<=100000:=by rw[<- HM.out];exact h1.1
  have d9:=d1;by_cases h2:100000<M+k
  .have h2i:(100000:Int)<(M:Int)+(k:Int):=by omega
   have HE:Hid (GZ d s k=8):=by unfold Hid GZ;rw[if_neg (λg=>g h1),HM.out,if_pos h2]
   clear h1 h2;have cc1_p0:w1.cell? ⟨w.heap.size,0,none⟩=some (.slice ax M cp):=cell_of_row _ _ 0 _ _ _ rw1_p;have cc1_p1:w1.cell? ⟨w.heap.size,1,none⟩=some (.int .i64 s):=cell_of_row _ _ 1 _ _ _ rw1_p;go_wp2
   go_ret;exact⟨by rw[HE.out];rfl,d9⟩
  .have h2i:¬ (100000:Int)<(M:Int)+(k:Int):=by omega
   have HE:Hid (GZ d s k=0):=by unfold Hid GZ;rw[if_neg (λg=>g h1),HM.out,if_neg h2]
   clear h1 h2;have cc1_p0:w1.cell? ⟨w.heap.size,0,none⟩=some (.slice ax M cp):=cell_of_row _ _ 0 _ _ _ rw1_p;have cc1_p1:w1.cell? ⟨w.heap.size,1,none⟩=some (.int .i64 s):=cell_of_row _ _ 1 _ _ _ rw1_p;go_wp2
   go_ret;exact⟨by rw[HE.out];rfl,d9⟩
 .rw[D' h1];have HE:Hid (GZ d s k=5):=if_pos h1;clear h1;have d9:=d1;go_wp2
  go_ret;exact⟨by rw[HE.out];rfl,d9⟩
theorem LV(x:Value)(d:List Int)(s:Int)(v:Value)(b:List Int)(w:World)(h:Sl w x d)(hv:Sl w v b)(hb:b.length<=255)(hd:d.length<=100000)(ht:AE w) :
  Calls prog 160 #[.agg (tpA x s),v] w λe w'=>∃ y,e=.returned (.tuple #[.agg (tpA y s),.int .i64 0])/\w'.ownsRow w.heap.size 5 1 y (d++AI b).length ((d++AI b).map (Value.int .u8))/\Bw w w':=by
 have HD:Hid (∀ x∈d,0<=x/\x<256):=h.byte;have HRB:Hid (∀ x∈AI b,0<=x/\x<256):=Ls hv.byte hb;have hrl:(AI b).length<=260:=by rw[Bg];omega
 have hlen:=h.len;obtain⟨ax,cp,rfl⟩:=h.shapeT;obtain⟨M,hM⟩:∃ M,d.length=M:=⟨_,rfl⟩;have HM:Hid (d.length=M):=hM;rw[hM]at h hlen ⊢
 clear hM;simp only[tpA];rw[HM.out]at hd
 obtain⟨i0,hi0,hz0,hz1,hz2⟩:=info_parts At;obtain⟨W0,hW0⟩:∃ W0,(w.alloc (.cells #[.slice ax M cp,.int .i64 s] 121)).alloc (.cells #[.slice none 0 0,.int .i64 0] 121)=W0:=⟨_,rfl⟩;have r0_p:W0.heap[w.heap.size]?=some (.cells #[.slice ax M cp,.int .i64 s] 121):=by rw[<- hW0];exact Su _ _ _
 have r0_r:W0.heap[w.heap.size+1]?=some (.cells #[.slice none 0 0,.int .i64 0] 121):=by rw[<- hW0];exact Sw _ _ _
 have bb:Bw w W0:=by rw[<- hW0];exact Vm _ _ _
 have l0_p:w.heap.size<W0.heap.size:=(H'.1 r0_p).1;have l0_r:(w.heap.size+1)<W0.heap.size:=(H'.1 r0_r).1;have t0_0:=ht.below bb;have sl0_x:=h.below bb;have sl0_v:=hv.below bb;go_enter func160,ntmps160
 go_wp2_with fail
 clear hW0;refine(Ow v b W0 sl0_v hb t0_0).mono ?_;rintro e w1 ⟨y,rfl,oy,bw1⟩;obtain⟨R,hR⟩:∃ R,AI b=R:=⟨_,rfl⟩;rw[hR]at oy hrl HRB
 have HR:Hid (AI b=R):=hR;clear hR;have sy:=Sl.ofOwns oy (by omega) HRB.out;obtain⟨N,hN⟩:∃ N,R.length=N:=⟨_,rfl⟩;have HN:Hid (R.length=N):=hN;rw[hN]at oy hrl
 clear hN;obtain⟨ay,cy,rfl⟩:=Ed oy;have d1:=bb.trans (bw1.mono bb.size);have tt1_0:=t0_0.below bw1;have rw1_p:=(bw1.block _ l0_p).trans r0_p;have lw1_p:=Z' l0_p bw1.size;have rw1_r:=(bw1.block _ l0_r).trans r0_r;have lw1_r:=Z' l0_r bw1.size;have sl1_x:=sl0_x.below bw1;have sl1_v:=sl0_v.below bw1;clear t0_0 l0_p r0_p l0_r r0_r sl0_x sl0_v;clear bw1;clear oy;have sy1:=sy;have hRB:w.heap.size+1<w1.heap.size:=lw1_r;have cc1_p0:w1.cell? ⟨w.heap.size,0,none⟩=some (.slice ax M cp):=cell_of_row _ _ 0 _ _ _ rw1_p;go_wp2_with (at_make;refine wpList_make_own _ rfl _ _ 28 rfl w1.heap.size 5 i0 (.int .u8 0) 1 underlying28 hi0 hz0 hz1 _ _ _ (M+N) rfl rfl (by omega) (by rw[hz2];omega) (by unfold maxLen;omega) (A' _) ?_)
 intro w2 o2 g2;have b2:Bw w1 w2:=(Below.refl _ _).grown g2 (A' _) (λk hk=>by cases hk);clear g2 cc1_p0;have z12:=b2.size;have b12:=b2;have d2:=d1.trans (b2.mono d1.size);have tt2_0:=tt1_0.below b2;have rw2_p:=(b2.block _ lw1_p).trans rw1_p;have lw2_p:=Z' lw1_p b2.size;have rw2_r:=(b2.block _ lw1_r).trans rw1_r;have lw2_r:=Z' lw1_r b2.size;have sl2_x:=sl1_x.below b2;have sl2_v:=sl1_v.below b2;clear tt1_0 lw1_p rw1_p lw1_r rw1_r sl1_x sl1_v;clear b2;have HO2:Hid (w2.ownsRow w1.heap.size 5 1 (.slice (some ⟨w1.heap.size,0,none⟩) 0 (M+N)) ([]:List Int).length (([]:List Int).map (Value.int .u8))):=o2;have hlt2:=o2.lt;have hll:([]:List Int).length+d.length<=140737488355328:=by rw[HM.out];simp;omega
 clear o2;have cc2_p0:w2.cell? ⟨w.heap.size,0,none⟩=some (.slice ax M cp):=cell_of_row _ _ 0 _ _ _ rw2_p;go_wp2_with (at_builtin;refine Aa _ rfl _ _ 28 rfl w1.heap.size 5 underlying28 At _ _ rfl rfl [] d HO2.out sl2_x hll (by omega) ?_)
 intro v3 w3 o3 g3;have b3:Below w1.heap.size w2 w3:=(Below.refl _ _).grown g3 (by omega) (λk hk=>(hlt2 k hk).1);have HO3:Hid (w3.ownsRow w1.heap.size 5 1 v3 d.length (d.map (Value.int .u8))):=by unfold Hid;simpa using o3
 have z23:=b3.size;have sy3:Sl w3 (.slice ay N cy) R:=sy1.below (show Bw w1 w3 from b12.trans b3);have rp3:=(b3.block w.heap.size (by omega)).trans rw2_p;have rr3:=(b3.block (w.heap.size+1) hRB).trans rw2_r;have d3:=d2.trans (b3.mono (show w.heap.size<=w1.heap.size by omega));have lr3:w.heap.size+1<w3.heap.size:=by omega
 have z13:w1.heap.size<=w3.heap.size:=by omega
 obtain⟨a3,c3,h3⟩:=Ed HO3.out;rw[HM.out]at h3
 subst h3;have c1:w3.cell? ⟨w.heap.size,1,none⟩=some (.int .i64 s):=cell_of_row _ _ 1 _ _ _ rp3;obtain⟨T,hT⟩:∃ T,M+N=T:=⟨_,rfl⟩;have HT:Hid (M+N=T):=hT;clear hT;clear o3 g3 b3 hlt2 HO2 sl2_x cc2_p0;go_wp2_with fail
 apply Y6 (λg c Wz=>Wz.heap[w.heap.size+1]?=some (.cells #[.slice g T c,.int .i64 s] 121)/\Wz.ownsRow w1.heap.size 5 1 (.slice g T c) T ((d++R).map (Value.int .u8))/\Below (w.heap.size+1) w3 Wz)
 .intro K2 HK2;have ed0:Bw w3 w3.drew:=(Below.refl _ _).drew;refine wp_region_held (S:=λw'=>Below (w.heap.size+1) w3 w') (by kernel_rfl) ?_;have hS0:(λw'=>Below (w.heap.size+1) w3 w') w3.drew:=ed0.mono (ks lr3);refine Ah (i:=0) 29 (v:=.slice a3 M c3) rfl rfl (by kernel_rfl) (by kernel_rfl) (by kernel_rfl) (λ_ _ _ h=>h) (kt ⟨by rfl,λ_ _=>by kernel_rfl⟩) hS0 ?_;simp only[Act.put,N',Y',iM];refine Ah (i:=1) 30 (v:=.slice ay N cy) rfl rfl (by kernel_rfl) (by kernel_rfl) (by kernel_rfl) (λ_ _ _ h=>h) (kt ⟨by rfl,λ_ _=>by kernel_rfl⟩) hS0 ?_;simp only[Act.put,N',Y',iM];refine Ah (i:=3) 32 (v:=.pointer (some ⟨w.heap.size,1,none⟩)) rfl rfl (by kernel_rfl) (by kernel_rfl) (by kernel_rfl) (λ_ _ _ h=>h) (kt ⟨by rfl,λ_ _=>by kernel_rfl⟩) hS0 ?_;simp only[Act.put,N',Y',iM];refine Ah (i:=4) 33 (v:=.int .i64 s) rfl rfl (by kernel_rfl) (by kernel_rfl) (by kernel_rfl) (λ_ _ _ h=>h) (Gm (by rfl) 3 (.tmp 32) rfl _ underlying3 rfl ⟨w.heap.size,1,none⟩ rfl (.int .i64 s) (λw' hw'=>(hw'.cell (p:=⟨w.heap.size,1,none⟩) (show w.heap.size<w.heap.size+1 by omega)).trans c1)) hS0 ?_;simp only[Act.put,N',Y',iM];have od:w3.drew.ownsRow w1.heap.size 5 1 (.slice a3 M c3) d.length (d.map (Value.int .u8)):=Df HO3.out (λk hk=>ed0.block k (HO3.out.lt k hk).2);have rd:=(ed0.block (w.heap.size+1) lr3).trans rr3;have hlt:=od.lt;have hlen2:d.length+R.length<=140737488355328:=by rw[HM.out,HN.out];omega
  refine BK (i:=2) (by kernel_rfl) (UM (i:=2) (d:=31) rfl (by kernel_rfl) rfl (.tmp 29) (.tmp 30) 28 rfl w1.heap.size 5 underlying28 At (.slice a3 M c3) (.slice ay N cy) (by kernel_rfl) (by kernel_rfl) d R od (sy3.below ed0) hlen2 (iP z13 ed0.size) ?_);intro v4 w4 o4 g4;have b4:Below (w.heap.size+1) w3 w4:=(ed0.mono (ks lr3)).grown g4 (iP (ks lr3) ed0.size) (λk hk=>iP (ks hRB) (hlt k hk).1);have r4:w4.heap[w.heap.size+1]?=some (.cells #[.slice none 0 0,.int .i64 0] 121):=(g4.block (w.heap.size+1) (Z' lr3 ed0.size) (λe=>LC od rd (by decide) _ e.symm rfl)).trans rd;have hTT:(d++R).length=T:=by rw[G',HM.out,HN.out];exact HT.out
  rw[hTT]at o4
  obtain⟨a4,c4,h4⟩:=Ed o4;subst h4;refine⟨b4,?_⟩;simp only[Act.put,N',Y',iM];refine Ah (i:=5) 34 (v:=.agg #[.slice a4 T c4,.int .i64 s]) rfl rfl (by kernel_rfl) (by kernel_rfl) (by kernel_rfl) (λ_ _ _ h=>h) (kt ⟨by rfl,λ_ _=>by kernel_rfl⟩) b4 ?_;simp only[Act.put,N',Y',iM];have hone:=YE a4 T c4 s;have e7:Below (w.heap.size+1) w3 (w4.setRow (w.heap.size+1) #[.slice a4 T c4,.int .i64 s]):=CF b4 (A' _) _;have q7:=setRow_heap w4 (w.heap.size+1) _ (#[.slice a4 T c4,.int .i64 s]) 121 _ r4;have o7:=Vl o4 r4 (by decide) (#[.slice a4 T c4,.int .i64 s]);refine BK (i:=6) (by kernel_rfl) (Ib (i:=6) rfl (by kernel_rfl) rfl 121 (.tmp 4) (.tmp 34) rfl (w.heap.size+1) #[.slice a4 T c4,.int .i64 s] (by kernel_rfl) (by kernel_rfl) 121 _ r4 LK rfl hone ⟨e7,?_⟩);refine Ah (i:=7) 5 (v:=.int .i64 0) rfl rfl (by kernel_rfl) (by kernel_rfl) (by kernel_rfl) (λ_ _ _ h=>h) (kt ⟨by rfl,λ_ _=>by kernel_rfl⟩) e7 ?_;simp only[Act.put,N',Y',iM];exact wpAnyH_done (by kernel_rfl) (HK2.out a4 c4 _ ⟨q7,o7,e7⟩) _
 rintro g c Wz ⟨qR,oR,eR⟩;have dR:=d3.trans (eR.mono (by omega));have HTL:Hid ((d++AI b).length=T):=by unfold Hid;rw[HR.out,G',HM.out,HN.out];exact HT.out
 clear rp3 rr3 c1 HO3;go_wp2
 refine bodyPost_ret (Tu rfl _ _ (w.heap.size+1) 121 _ (0,0) _ rfl qR underlying121 rfl LK) rfl ?_;rw[HTL.out,HR.out];exact⟨_,rfl,Fh oR (by omega),dR⟩
theorem O2(b:Bal)(hb:Ab b)(w:World) :
  Calls prog 161 #[.agg (baA b)] w λe w'=>∃ y,e=.returned y/\w'.ownsRow w.heap.size 5 1 y 9 ((Bn b).map (Value.int .u8))/\Bw w w':=by
 obtain⟨br,bn⟩:=b;have hb':=hb;unfold Ab at hb';simp only at hb';have HB:Hid (Ab ⟨br,bn⟩):=hb;clear hb;simp only[baA];obtain⟨W0,hW0⟩:∃ W0,w.alloc (.cells #[.int .i64 br,.int .i64 bn] 102)=W0:=⟨_,rfl⟩;have r0_p:W0.heap[w.heap.size]?=some (.cells #[.int .i64 br,.int .i64 bn] 102):=by rw[<- hW0];exact DP _ _
 have bb:Bw w W0:=by rw[<- hW0];exact BU _ _
 have l0_p:w.heap.size<W0.heap.size:=(H'.1 r0_p).1;obtain⟨W1,hW1⟩:∃ W1,W0.alloc (.cells #[.int .u8 1] 5)=W1:=⟨_,rfl⟩;have b1:Bw W0 W1:=by rw[<- hW1];exact BU _ _
 have o1:W1.ownsRow W0.heap.size 5 1 (.slice (some ⟨W0.heap.size,0,none⟩) 1 1) [(1:Int)].length ([(1:Int)].map (Value.int .u8)):=by rw[<- hW1];exact IT W0 1 1 5 rfl (A' _) rfl
 have d1:=bb.trans (b1.mono bb.size);have rw1_p:=(b1.block _ l0_p).trans r0_p;have lw1_p:=Z' l0_p b1.size;clear l0_p r0_p;have cc1_p0:W1.cell? ⟨w.heap.size,0,none⟩=some (.int .i64 br):=cell_of_row _ _ 0 _ _ _ rw1_p;have cc1_p1:W1.cell? ⟨w.heap.size,1,none⟩=some (.int .i64 bn):=cell_of_row _ _ 1 _ _ _ rw1_p;obtain⟨W2,hW2⟩:∃ W2,W1.alloc (.cells #[.int .i64 br,.int .i64 bn] 3)=W2:=⟨_,rfl⟩;have b2:Bw W1 W2:=by rw[<- hW2];exact BU _ _
 have rn:W2.heap[W1.heap.size]?=some (.cells ([br,bn].map (Value.int .i64)).toArray 3):=by rw[<- hW2];exact heap_alloc_new _ _
 have z1:W0.heap.size<=W2.heap.size:=iP b1.size b2.size;have d2:=d1.trans (b2.mono d1.size);have rw2_p:=(b2.block _ lw1_p).trans rw1_p;have lw2_p:=Z' lw1_p b2.size;have ow2_o:=Df o1 (λk hk=>b2.block k (o1.lt k hk).2);clear lw1_p rw1_p o1;go_enter func161,ntmps161
 go_wp2_with fail
 clear hW0 hW1 hW2 cc1_p0 cc1_p1;refine(FI (.slice (some ⟨W0.heap.size,0,none⟩) 1 1) [1] [br,bn] W0.heap.size W1.heap.size W2 ow2_o z1 (by simp) (by simp) (by intro x hx;simp at hx;omega) rn).mono ?_;rintro e w3 ⟨v3,rfl,o3,b3⟩;have d3:=d2.trans (b3.mono bb.size);have HO:Hid (w3.ownsRow w.heap.size 5 1 v3 9 ((Bn ⟨br,bn⟩).map (Value.int .u8))):=Fh o3 bb.size;clear o3 b3 rn ow2_o;go_wp2
 go_ret;exact⟨_,rfl,HO.out,d3⟩
theorem O4(v:Vt)(hv:Ak v)(x:Value)(w:World)(hx:Sl w x (Dy v.w.k v.w.c v.w.s v.w.n v.w.v)) :
  Calls prog 179 #[.agg (vtA v),x] w λe w'=>∃ y,e=.returned y/\w'.ownsRow w.heap.size 5 1 y 33 ((Be v).map (Value.int .u8))/\Bw w w':=by
 obtain⟨vs,⟨vr,vn⟩,⟨vk,vc,vq,vm,vx⟩⟩:=v;have hv':=hv;unfold Ak Ab at hv';simp only at hv' hx;obtain⟨hv1,hv2,-⟩:=hv';clear hv;simp only[vtA,vtC];obtain⟨W0,hW0⟩:∃ W0,w.alloc (.cells #[.int .i64 vs,.int .i64 vr,.int .i64 vn,.int .i64 vk,.int .i64 vc,.int .i64 vq,.int .i64 vm,.int .i64 vx] 166)=W0:=⟨_,rfl⟩;have r0_p:W0.heap[w.heap.size]?=some (.cells #[.int .i64 vs,.int .i64 vr,.int .i64 vn,.int .i64 vk,.int .i64 vc,.int .i64 vq,.int .i64 vm,.int .i64 vx] 166):=by rw[<- hW0];exact DP _ _
 have bb:Bw w W0:=by rw[<- hW0];exact BU _ _
 have l0_p:w.heap.size<W0.heap.size:=(H'.1 r0_p).1;have sl0_x:=hx.below bb;obtain⟨W1,hW1⟩:∃ W1,W0.alloc (.cells #[.int .u8 2] 5)=W1:=⟨_,rfl⟩;have b1:Bw W0 W1:=by rw[<- hW1];exact BU _ _
 have o1:W1.ownsRow W0.heap.size 5 1 (.slice (some ⟨W0.heap.size,0,none⟩) 1 1) [(2:Int)].length ([(2:Int)].map (Value.int .u8)):=by rw[<- hW1];exact IT W0 2 2 5 rfl (A' _) rfl
 have d1:=bb.trans (b1.mono bb.size);have rw1_p:=(b1.block _ l0_p).trans r0_p;have lw1_p:=Z' l0_p b1.size;have sl1_x:=sl0_x.below b1;clear l0_p r0_p sl0_x;have cc1_p0:W1.cell? ⟨w.heap.size,0,none⟩=some (.int .i64 vs):=cell_of_row _ _ 0 _ _ _ rw1_p;have cc1_p1:W1.cell? ⟨w.heap.size,1,none⟩=some (.int .i64 vr):=cell_of_row _ _ 1 _ _ _ rw1_p;have cc1_p2:W1.cell? ⟨w.heap.size,2,none⟩=some (.int .i64 vn):=cell_of_row _ _ 2 _ _ _ rw1_p;obtain⟨W2,hW2⟩:∃ W2,W1.alloc (.cells #[.int .i64 vs,.int .i64 vr,.int .i64 vn] 3)=W2:=⟨_,rfl⟩;have b2:Bw W1 W2:=by rw[<- hW2];exact BU _ _
 have rn:W2.heap[W1.heap.size]?=some (.cells ([vs,vr,vn].map (Value.int .i64)).toArray 3):=by rw[<- hW2];exact heap_alloc_new _ _
 have z1:W0.heap.size<=W2.heap.size:=iP b1.size b2.size;have d2:=d1.trans (b2.mono d1.size);have rw2_p:=(b2.block _ lw1_p).trans rw1_p;have lw2_p:=Z' lw1_p b2.size;have sl2_x:=sl1_x.below b2;have ow2_o:=Df o1 (λk hk=>b2.block k (o1.lt k hk).2);clear lw1_p rw1_p sl1_x o1;go_enter func179,ntmps179
 go_wp2_with fail
 clear hW0 hW1 hW2 cc1_p0 cc1_p1 cc1_p2;refine(FI (.slice (some ⟨W0.heap.size,0,none⟩) 1 1) [2] [vs,vr,vn] W0.heap.size W1.heap.size W2 ow2_o z1 (by simp) (by simp) (by intro x hx;simp at hx;omega) rn).mono ?_;rintro e w3 ⟨v3,rfl,o3,b3⟩;have d3:=d2.trans (b3.mono bb.size);have sx3:=hx.below d3;have z3:W0.heap.size<=w3.heap.size:=iP z1 b3.size;have hlt:=o3.lt;have HB:Hid ([2]++CJ [vs,vr,vn]++Dy vk vc vq vm vx=Be ⟨vs,⟨vr,vn⟩,⟨vk,vc,vq,vm,vx⟩⟩):=rfl;have hll:([(2:Int)]++CJ [vs,vr,vn]).length+(Dy vk vc vq vm vx).length<=140737488355328:=by show 33<=_;decide
 generalize hL:[(2:Int)]++CJ [vs,vr,vn]=L at o3 HB hll;generalize hC:Dy vk vc vq vm vx=C at sx3 HB hll;clear hL hC rn b3 ow2_o;go_wp2_with (at_builtin;refine Aa _ rfl _ _ 28 rfl W0.heap.size 5 underlying28 At _ _ rfl rfl L C o3 sx3 hll z3 ?_)
 intro v4 w4 o4 g4;have d4:Bw w w4:=d3.grown g4 (iP bb.size z3) (λk hk=>iP bb.size (hlt k hk).1);have HO:Hid (w4.ownsRow w.heap.size 5 1 v4 33 ((Be ⟨vs,⟨vr,vn⟩,⟨vk,vc,vq,vm,vx⟩⟩).map (Value.int .u8))):=by
  have o4b:w4.ownsRow W0.heap.size 5 1 v4 (L++C).length ((L++C).map (Value.int .u8)):=by simpa using o4
  have:=Fh o4b bb.size;rw[HB.out]at this
  exact this
 clear o4 g4 o3 hlt HB;go_wp2
 go_ret;exact⟨_,rfl,HO.out,d4⟩
end Go.Proofs.YtalbmmghmoggcadGreatDoor
