/- Part 23 of the walk. -/
import Derived.Test.YtalbmmghmoggcadGreatDoorZ19
set_option maxRecDepth 100000
set_option maxHeartbeats 4000000
open Go.Proofs.Tryz
set_option linter.unusedVariables false
namespace Go.Proofs.YtalbmmghmoggcadGreatDoor
open Go.RowKit
section
variable{A E:Int}{S s:Sto}{i:Nat}{m:Cmd}{w:World}
theorem YP{g:Gh}{nb ob:Nat}{p:Nod}{ls:List Let}{ts:List Tol}(h:NS i nb ob g w p ls ts)(hup:p.up=true)(hw:p.wants.length<100000000)(c:Cmd) :
  Calls prog 81 #[pt nb 0,.agg #[iv c.k,iv c.c,iv c.s,iv c.n,iv c.v]] w (NP i nb ob g w (.tuple #[]) (p.want c) ls ts):=by
 obtain⟨x,lt,tl,hN,hO,hg⟩:=h;obtain⟨mb,hmb⟩:=hN.upm hup;obtain⟨x0,rfl⟩:∃ x0:NX,x={ x0 with asked:=some mb }:=⟨x,by cases x;simp only at hmb;subst hmb;rfl⟩;clear hmb;have hA:AskAt g w (.n 5 i) mb p.asked:=hN.askSome rfl;refine gI (fn:=f81) (TN i) g func81 hg ?_;refine qN hN ?_;refine qO hO ?_;obtain⟨ht5,hk5,es,ck,hr5,hes⟩:=id hA;refine Hr mb _ 5 i hr5 ht5 hk5 (by kernel_rfl) ?_;refine qR [] 13 [0,0,13,0,2,4,6,8,0,10,3] λs1 g1 w1 c1=>?_;refine qU 6 (.tuple #[.agg #[iv ((p.asked c).getD Cc).r,iv ((p.asked c).getD Cc).n],.bool (p.asked c).isSome]) (λW hW=>(XX (g:=g) (τ:=.n 5 i) (b:=mb) (f:=p.asked) ⟨ht5,hk5,es,ck,AP.at (hW rfl) 2 mb (.map (es.map mkA).toArray ck) (.n 5 i) (by kernel_rfl),hes⟩ c)) ?_;refine qR [] 11 [14,16,18,21,0,0,23,4,0,24] λs2 g2 w2 c2=>?_;by_cases h1:(p.asked c).isSome=true
 .refine qI ((p.asked c).isSome) true h1 ?_;refine qE (.tuple #[]) λK=>?_;rw[show p.want c=p from if_pos h1];have C4:=c1.n c2;exact⟨_,rfl,⟨({ x0 with asked:=some mb }:NX),lt,tl,hN.ch C4,hO.ch C4,K.new⟩,((c1.nil (TN i)).n c2)⟩
 .refine qI ((p.asked c).isSome) false (by simpa using h1) ?_;refine Hs [true,true,false,true,true] ?_;have hwn:x0.wants.n=p.wants.length:=hN.wants.num;refine qR [] 11 [12,0,2,4,6,8,10,0,12,2,15,0,0] λs5 g5 w5 c5=>?_;refine JI 8 (x:=({ x0 with asked:=some mb }:NX).wants) 37 37 25 5 40 (.agg #[iv 0,iv 0,iv 0,iv 0,iv 0]) ⟨(s5 0),0,none⟩ 1 1 [iv c.k,iv c.c,iv c.s,iv c.n,iv c.v] (hN.wants.ch ((c1.trans c2).trans c5) (by simp) (by simp)) (by kernel_rfl) (by kernel_rfl) (by kernel_rfl) underlying37 (by kernel_rfl) (by kernel_rfl) (by decide) (by decide) rfl (by simp[Value.oneCell']) (λK=>BL K 4 (s5 0) [iv c.k,iv c.c,iv c.s,iv c.n,iv c.v] 25 .z true (by kernel_rfl)) (by show x0.wants.n+1<=_;unfold maxLen;omega) (by show(x0.wants.n+1)*40<=_;omega) ?_;intro y6 g6 w6 a6 n6 cc6 G6;have c6:=cc6 w.heap.size [.n 4 i] (O'.2 rfl);refine qR [.n 0 i] 13 [18,20,22,25,0,1,8,0,2,4,6,8,0,10,2,12] λs7 g7 w7 c7=>?_;refine ST 7 (τ:=.n 5 i) (b:=mb) c Cc (((((hA.ch c1).ch c2).ch c5).ch c6).ch c7) (by kernel_rfl) (by kernel_rfl) (by kernel_rfl) ?_;intro w8 A8 cc8;have c8:=cc8 w.heap.size [.n 5 i] (O'.2 rfl);refine qR [] 1 [] λs9 g9 w9 c9=>?_;refine qE (.tuple #[]) λK=>?_;rw[show p.want c={ p with wants:=p.wants++[c],asked:=Ex p.asked c (some Cc) }from if_neg h1];have C10:=((((((c1.nil ([.n 4 i,.n 0 i,.n 5 i]:List Tg)).n c2).n c5).m c6).m c7).m c8).n c9;have Z10:Tg.z∉([.n 4 i,.n 0 i,.n 5 i]:List Tg):=by simp
  exact⟨_,rfl,⟨({ x0 with asked:=some mb,wants:=y6 }:NX),lt,tl,K.nd 0 (hN.tape.ch C10 Z10) (hN.votes.ch C10 Z10) (Bl hN.heard C10 Z10) (BP hN.pend C10 Z10 (by simp)) (hN.queue.ch C10) (hN.agreed.ch C10) (by rw[Cd];exact(((a6.ch c7).ch c8).ch c9)) (A8.ch c9) (λ_=>⟨mb,rfl⟩),hO.ch C10 Z10 (by simp<;>omega),K.new⟩,(((((((c1.nil (TN i)).n c2).n c5).trans (c6.mono (by simp[TN]))).trans (c7.mono (by simp[TN]))).trans (c8.mono (by simp[TN]))).n c9)⟩
theorem N1(n g:Int)(w:World) :
  Calls prog 153 #[.int .i64 n,.int .i64 g] w λe w'=>e=.returned (.bool (decide (0<=n/\n<=g)))/\w'=w:=by
 by_cases h0:0<=n
 .by_cases h1:n<=g
  .rw[I' (show 0<=n/\n<=g from⟨h0,h1⟩)];go_enter func153,ntmps153
   go_wp2
   go_ret;exact⟨rfl,rfl⟩
  .rw[D' (show ¬ (0<=n/\n<=g)from λh=>h1 h.2)];go_enter func153,ntmps153
   go_wp2
   go_ret;exact⟨rfl,rfl⟩
 .rw[D' (show ¬ (0<=n/\n<=g)from λh=>h0 h.1)];go_enter func153,ntmps153
  go_wp2
  go_ret;exact⟨rfl,rfl⟩
theorem S5(s:Sto)(w:World) :
  Calls prog 125 #[.agg (stA s)] w λe w'=>e=.returned (.int .i64 (Mx s))/\Bw w w':=by
 have bb:Bw w (w.alloc (.cells (stA s) 115)):=(Below.refl _ _).alloc (A' _) _;have hS:Bs (w.alloc (.cells (stA s) 115)) w.heap.size s:=heap_alloc_new _ _;generalize hW:w.alloc (.cells (stA s) 115)=W at bb hS;go_enter func125,ntmps125
 go_wp2_with ((with_reducible (refine Ev ?_));(refine FW rfl _ rfl w.heap.size 0 rfl s.V hS.rangeV ?_))
 clear hW
 go_loopw [9] (λiv wr=>∃ i:Nat,i<=8/\iv=.int .i64 (i:Int)/\Hid (∀ j,j<i->VaB (s.V j))/\W=wr) (λiv _=>(8-intOf iv).toNat)
 case atStart=>exact⟨0,by omega,rfl,λj hj=>by omega,rfl⟩
 case round =>
  obtain⟨i,hi,rfl,hb,rfl⟩:=hrel;by_cases hlt:i<8
  .have hlt':(i:Int)<8:=by omega
   have hix:=T5 s.V i hlt;go_wp2_with fail
   refine(N1 (s.V i) 1073741824 _).mono ?_;rintro e w1 ⟨rfl,rfl⟩;by_cases hv:0<=s.V i/\s.V i<=1073741824
   .rw[I' hv];have hB:Hid (∀ j,j<i+1->VaB (s.V j)):=λj hj=>by
     by_cases h:j=i
     .subst h;exact hv
     .exact hb.out j (by omega)
    clear hv hix hb;go_wp2
    go_roundw
    case rel=>exact⟨i+1,by omega,by go_num,hB,by simp⟩
    case measure=>simp[intOf];omega
   .rw[D' hv];have hE:Hid (Mx s=5):=Kh (λh=>hv (h.1 i hlt));clear hv hix hb;go_wp2
    go_ret;rw[hE.out];exact⟨rfl,bb⟩
  .obtain rfl:i=8:=by omega
   clear hlt hi;go_wp2_with ((with_reducible (refine Ev ?_));(refine FW rfl _ rfl w.heap.size 8 rfl s.L hS.rangeL ?_))
   go_loopw [18] (λiv wr=>∃ i:Nat,i<=8/\iv=.int .i64 (i:Int)/\Hid (∀ j,j<i->ClB (s.L j) (s.C j) (s.A j))/\W=wr) (λiv _=>(8-intOf iv).toNat)
   case atStart=>exact⟨0,by omega,rfl,λj hj=>by omega,rfl⟩
   case round =>
    obtain⟨i,hi,rfl,hc,rfl⟩:=hrel;by_cases hlt:i<8
    .have hlt':(i:Int)<8:=by omega
     have hix:=T5 s.L i hlt;go_wp2_with fail
     refine(N1 (s.L i) 1048577 _).mono ?_;rintro e w1 ⟨rfl,rfl⟩;by_cases hv:0<=s.L i/\s.L i<=1048577
     .rw[I' hv];have c0:=hS.cellC i hlt;have c1:=hS.cellA i hlt;have i0:(0:Int)<=(i:Int):=by omega
      by_cases h0:s.L i=0
      .rw[h0];by_cases hca:s.C i=0/\s.A i=0
       .rw[hca.1]at c0
        rw[hca.2]at c1
        have hB:Hid (∀ j,j<i+1->ClB (s.L j) (s.C j) (s.A j)):=λj hj=>by
         by_cases h:j=i
         .subst h;exact⟨hv,λ_=>hca⟩
         .exact hc.out j (by omega)
        clear hv hix hca h0 hc;go_wp2
        go_roundw
        case rel=>exact⟨i+1,by omega,by go_num,hB,by simp⟩
        case measure=>simp[intOf];omega
       .have hE:Hid (Mx s=5):=Kh (λh=>hca ((h.2 i hlt).2 h0));have hne:=aA (s.C i) (s.A i);rw[D' hca]at hne
        clear hv hix hca h0 hc hb;go_wp2
        go_ret;rw[hE.out];exact⟨rfl,bb⟩
      .have hB:Hid (∀ j,j<i+1->ClB (s.L j) (s.C j) (s.A j)):=λj hj=>by
        by_cases h:j=i
        .subst h;exact⟨hv,λg=>absurd g h0⟩
        .exact hc.out j (by omega)
       have hne:(s.L i==0)=false:=by simpa using h0
       clear hv hix hc;go_wp2
       go_roundw
       case rel=>exact⟨i+1,by omega,by go_num,hB,by simp⟩
       case measure=>simp[intOf];omega
     .rw[D' hv];have hE:Hid (Mx s=5):=Kh (λh=>hv (h.2 i hlt).1);clear hv hix hb hc;go_wp2
      go_ret;rw[hE.out];exact⟨rfl,bb⟩
    .obtain rfl:i=8:=by omega
     have hE:Hid (Mx s=0):=bF ⟨hb.out,hc.out⟩;clear hlt hi hc hb;go_wp2
     go_ret;rw[hE.out];exact⟨rfl,bb⟩
theorem lt8(h:i<8):i=0\/i=1\/i=2\/i=3\/i=4\/i=5\/i=6\/i=7:=by omega
theorem di(s:Sto)(ci ni:Nat)(q v:Int)(w:World)(hc:ci<8)(hn:ni<8)(q0:0<=q)(q1:q<=1048576) :
  Calls prog 154 #[.agg (stA s),.agg #[iv 1,iv (ci:Int),iv q,iv (ni:Int),iv v]] w λe w'=>e=.returned (.tuple #[.agg (stA (Oi s ⟨1,ci,q,ni,v⟩)),.agg #[iv 0,iv (Mn s ⟨1,ci,q,ni,v⟩)]])/\Bw w w':=by
 have hgz:∀ b,w.heap.size<=b->gS.t b=.z/\gS.k b=0:=λ_ _=>⟨rfl,rfl⟩;refine gI (fn:=f154) [] gS func154 hgz ?_;refine qR [] 26 [1,0,0,0,1,0,1,0,1,0,1] λσ1 g1 w1 c1=>?_;refine BX 48 (λg' w' e L=>e=[(2,pt (σ1 0) 0),(3,pt (σ1 1) 0),(4,pt (σ1 2) 0),(5,pt (σ1 3) 0),(6,pt (σ1 4) 0)]/\L=[⟨(σ1 0),.cells (stA ({ s with V:=Bo s.V ni v })) 115,.l,false⟩,⟨(σ1 1),.cells #[iv 1,iv (ci:Int),iv q,iv (ni:Int),iv v] 25,.z,false⟩,⟨(σ1 2),.cells (stA FP) 115,.l,false⟩,⟨(σ1 3),.cells #[iv 0,iv 0] 112,.l,false⟩,⟨(σ1 4),.cells #[iv 0,iv 0] 112,.l,false⟩]/\True/\Cg w.heap.size ([]:List Tg) g1 w1 g' w') (by kernel_rfl) ?_ ?_
 .intro J hJ;rcases lt8 hn with rfl|rfl|rfl|rfl|rfl|rfl|rfl|rfl <;>
  (refine qR [] 8 [1,1,0,0] λσ3 g3 w3 c3=>?_;exact qB [true,true,true,true,true] λz K0 K=>hJ _ _ _ z _ ⟨rfl,rfl,trivial,(c3.nil ([]:List Tg))⟩ K)
 rintro g2 w2 _ z2 _ ⟨rfl,rfl,_,c2⟩;refine qR [] 13 [1,4,0,1,1] λσ4 g4 w4 c4=>?_;refine qV 4 (iv (q+1)) (AD (x:=(.tmp 37)) (y:=(.const (iv 1))) q 1 underlying3 (by omega)) ?_;refine BX 48 (λg' w' e L=>e=[(2,pt (σ1 0) 0),(3,pt (σ1 1) 0),(4,pt (σ1 2) 0),(5,pt (σ1 3) 0),(6,pt (σ1 4) 0)]/\L=[⟨(σ1 0),.cells (stA (Sto.mk (Bo s.V ni v) (Bo s.L ci (q+1)) s.C s.A s.R)) 115,.l,false⟩,⟨(σ1 1),.cells #[iv 1,iv (ci:Int),iv q,iv (ni:Int),iv v] 25,.z,false⟩,⟨(σ1 2),.cells (stA FP) 115,.l,false⟩,⟨(σ1 3),.cells #[iv 0,iv 0] 112,.l,false⟩,⟨(σ1 4),.cells #[iv 0,iv v] 112,.l,false⟩]/\True/\Cg w.heap.size ([]:List Tg) g4 w4 g' w') (by kernel_rfl) ?_ ?_
 .intro J hJ;rcases lt8 hc with rfl|rfl|rfl|rfl|rfl|rfl|rfl|rfl <;>
  (refine qR [] 4 [0,0] λσ6 g6 w6 c6=>?_;exact qB [true,true,true,true,true] λz K0 K=>hJ _ _ _ z _ ⟨rfl,rfl,trivial,(c6.nil ([]:List Tg))⟩ K)
 rintro g5 w5 _ z5 _ ⟨rfl,rfl,_,c5⟩;refine qR [] 2 [] λσ7 g7 w7 c7=>?_;refine BX 48 (λg' w' e L=>e=[(2,pt (σ1 0) 0),(3,pt (σ1 1) 0),(4,pt (σ1 2) 0),(5,pt (σ1 3) 0),(6,pt (σ1 4) 0)]/\L=[⟨(σ1 0),.cells (stA (Sto.mk (Bo s.V ni v) (Bo s.L ci (q+1)) (Bo s.C ci 0) (Bo s.A ci v) s.R)) 115,.l,false⟩,⟨(σ1 1),.cells #[iv 1,iv (ci:Int),iv q,iv (ni:Int),iv v] 25,.z,false⟩,⟨(σ1 2),.cells (stA FP) 115,.l,false⟩,⟨(σ1 3),.cells #[iv 0,iv 0] 112,.l,false⟩,⟨(σ1 4),.cells #[iv 0,iv v] 112,.l,false⟩]/\True/\Cg w.heap.size ([]:List Tg) g7 w7 g' w') (by kernel_rfl) ?_ ?_
 .intro J hJ;rcases lt8 hc with rfl|rfl|rfl|rfl|rfl|rfl|rfl|rfl <;>
  (refine qR [] 7 [1,4,0,0] λσ9 g9 w9 c9=>?_;exact qB [true,true,true,true,true] λz K0 K=>hJ _ _ _ z _ ⟨rfl,rfl,trivial,(c9.nil ([]:List Tg))⟩ K)
 rintro g8 w8 _ z8 _ ⟨rfl,rfl,_,c8⟩;refine qR [] 3 [2,0,0] λσ10 g10 w10 c10=>?_;refine BX 48 (λg' w' e L=>e=[(2,pt (σ1 0) 0),(3,pt (σ1 1) 0),(4,pt (σ1 2) 0),(5,pt (σ1 3) 0),(6,pt (σ1 4) 0)]/\L=[⟨(σ1 0),.cells (stA (Sto.mk (Bo s.V ni v) (Bo s.L ci (q+1)) (Bo s.C ci 0) (Bo s.A ci v) s.R)) 115,.l,false⟩,⟨(σ1 1),.cells #[iv 1,iv (ci:Int),iv q,iv (ni:Int),iv v] 25,.z,false⟩,⟨(σ1 2),.cells (stA (Sto.mk (Bo s.V ni v) (Bo s.L ci (q+1)) (Bo s.C ci 0) (Bo s.A ci v) s.R)) 115,.l,false⟩,⟨(σ1 3),.cells #[iv 0,iv v] 112,.l,false⟩,⟨(σ1 4),.cells #[iv 0,iv v] 112,.l,false⟩]/\True/\Cg w.heap.size ([]:List Tg) g10 w10 g' w') (by kernel_rfl) ?_ ?_
 .intro J hJ
  (exact CN 1 2 (by kernel_rfl) (by(refine qR [] 4 [4,5,2,0,7,3,0] λσ13 g13 w13 c13=>?_;exact qB [true,true,true,true,true] λz K0 K=>hJ _ _ _ z _ ⟨rfl,rfl,trivial,(c13.nil ([]:List Tg))⟩ K)) (by(refine qR [] 4 [2,0,3,4,7,3,0] λσ14 g14 w14 c14=>?_;exact qB [true,true,true,true,true] λz K0 K=>hJ _ _ _ z _ ⟨rfl,rfl,trivial,(c14.nil ([]:List Tg))⟩ K)))
 rintro g11 w11 _ z11 _ ⟨rfl,rfl,_,c11⟩;exact qE4 4 5 115 112 2 (σ1 2) 3 (σ1 3) (stA (Oi s ⟨1,ci,q,ni,v⟩)) #[iv 0,iv (Mn s ⟨1,ci,q,ni,v⟩)] λK=>⟨rfl,Cg.below (((((((c1.trans c2).trans c4).trans c5).trans c7).trans c8).trans c10).trans c11) (λ_ _=>M')⟩
theorem dj(s:Sto)(ci ni:Nat)(q v:Int)(w:World)(hc:ci<8)(hn:ni<8)(q0:0<=q)(q1:q<=1048576) :
  Calls prog 154 #[.agg (stA s),.agg #[iv 2,iv (ci:Int),iv q,iv (ni:Int),iv v]] w λe w'=>e=.returned (.tuple #[.agg (stA (Oi s ⟨2,ci,q,ni,v⟩)),.agg #[iv 0,iv (Mn s ⟨2,ci,q,ni,v⟩)]])/\Bw w w':=by
 have hgz:∀ b,w.heap.size<=b->gS.t b=.z/\gS.k b=0:=λ_ _=>⟨rfl,rfl⟩;refine gI (fn:=f154) [] gS func154 hgz ?_;refine qR [] 31 [1,0,0,0,1,0,1,0,1,0,1] λσ1 g1 w1 c1=>?_;refine BX 48 (λg' w' e L=>e=[(2,pt (σ1 0) 0),(3,pt (σ1 1) 0),(4,pt (σ1 2) 0),(5,pt (σ1 3) 0),(6,pt (σ1 4) 0)]/\L=[⟨(σ1 0),.cells (stA s) 115,.l,false⟩,⟨(σ1 1),.cells #[iv 2,iv (ci:Int),iv q,iv (ni:Int),iv v] 25,.z,false⟩,⟨(σ1 2),.cells (stA FP) 115,.l,false⟩,⟨(σ1 3),.cells #[iv 0,iv 0] 112,.l,false⟩,⟨(σ1 4),.cells #[iv 0,iv (s.V ni)] 112,.l,false⟩]/\True/\Cg w.heap.size ([]:List Tg) g1 w1 g' w') (by kernel_rfl) ?_ ?_
 .intro J hJ;rcases lt8 hn with rfl|rfl|rfl|rfl|rfl|rfl|rfl|rfl <;>
  (refine qR [] 8 [1,0,4,0] λσ3 g3 w3 c3=>?_;exact qB [true,true,true,true,true] λz K0 K=>hJ _ _ _ z _ ⟨rfl,rfl,trivial,(c3.nil ([]:List Tg))⟩ K)
 rintro g2 w2 _ z2 _ ⟨rfl,rfl,_,c2⟩;refine qR [] 7 [1,1] λσ4 g4 w4 c4=>?_;refine qV 4 (iv (q+1)) (AD (x:=(.tmp 37)) (y:=(.const (iv 1))) q 1 underlying3 (by omega)) ?_;refine BX 48 (λg' w' e L=>e=[(2,pt (σ1 0) 0),(3,pt (σ1 1) 0),(4,pt (σ1 2) 0),(5,pt (σ1 3) 0),(6,pt (σ1 4) 0)]/\L=[⟨(σ1 0),.cells (stA (Sto.mk s.V (Bo s.L ci (q+1)) s.C s.A s.R)) 115,.l,false⟩,⟨(σ1 1),.cells #[iv 2,iv (ci:Int),iv q,iv (ni:Int),iv v] 25,.z,false⟩,⟨(σ1 2),.cells (stA FP) 115,.l,false⟩,⟨(σ1 3),.cells #[iv 0,iv 0] 112,.l,false⟩,⟨(σ1 4),.cells #[iv 0,iv (s.V ni)] 112,.l,false⟩]/\True/\Cg w.heap.size ([]:List Tg) g4 w4 g' w') (by kernel_rfl) ?_ ?_
 .intro J hJ;rcases lt8 hc with rfl|rfl|rfl|rfl|rfl|rfl|rfl|rfl <;>
  (refine qR [] 4 [0,0] λσ6 g6 w6 c6=>?_;exact qB [true,true,true,true,true] λz K0 K=>hJ _ _ _ z _ ⟨rfl,rfl,trivial,(c6.nil ([]:List Tg))⟩ K)
 rintro g5 w5 _ z5 _ ⟨rfl,rfl,_,c5⟩;refine qR [] 2 [] λσ7 g7 w7 c7=>?_;refine BX 48 (λg' w' e L=>e=[(2,pt (σ1 0) 0),(3,pt (σ1 1) 0),(4,pt (σ1 2) 0),(5,pt (σ1 3) 0),(6,pt (σ1 4) 0)]/\L=[⟨(σ1 0),.cells (stA (Sto.mk s.V (Bo s.L ci (q+1)) (Bo s.C ci 0) (Bo s.A ci (s.V ni)) s.R)) 115,.l,false⟩,⟨(σ1 1),.cells #[iv 2,iv (ci:Int),iv q,iv (ni:Int),iv v] 25,.z,false⟩,⟨(σ1 2),.cells (stA FP) 115,.l,false⟩,⟨(σ1 3),.cells #[iv 0,iv 0] 112,.l,false⟩,⟨(σ1 4),.cells #[iv 0,iv (s.V ni)] 112,.l,false⟩]/\True/\Cg w.heap.size ([]:List Tg) g7 w7 g' w') (by kernel_rfl) ?_ ?_
 .intro J hJ;rcases lt8 hc with rfl|rfl|rfl|rfl|rfl|rfl|rfl|rfl <;>
  (refine qR [] 7 [1,4,0,0] λσ9 g9 w9 c9=>?_;exact qB [true,true,true,true,true] λz K0 K=>hJ _ _ _ z _ ⟨rfl,rfl,trivial,(c9.nil ([]:List Tg))⟩ K)
 rintro g8 w8 _ z8 _ ⟨rfl,rfl,_,c8⟩;refine qR [] 3 [2,0,0] λσ10 g10 w10 c10=>?_;refine BX 48 (λg' w' e L=>e=[(2,pt (σ1 0) 0),(3,pt (σ1 1) 0),(4,pt (σ1 2) 0),(5,pt (σ1 3) 0),(6,pt (σ1 4) 0)]/\L=[⟨(σ1 0),.cells (stA (Sto.mk s.V (Bo s.L ci (q+1)) (Bo s.C ci 0) (Bo s.A ci (s.V ni)) s.R)) 115,.l,false⟩,⟨(σ1 1),.cells #[iv 2,iv (ci:Int),iv q,iv (ni:Int),iv v] 25,.z,false⟩,⟨(σ1 2),.cells (stA (Sto.mk s.V (Bo s.L ci (q+1)) (Bo s.C ci 0) (Bo s.A ci (s.V ni)) s.R)) 115,.l,false⟩,⟨(σ1 3),.cells #[iv 0,iv (s.V ni)] 112,.l,false⟩,⟨(σ1 4),.cells #[iv 0,iv (s.V ni)] 112,.l,false⟩]/\True/\Cg w.heap.size ([]:List Tg) g10 w10 g' w') (by kernel_rfl) ?_ ?_
 .intro J hJ
  (exact CN 1 2 (by kernel_rfl) (by(refine qR [] 4 [4,5,2,0,7,3,0] λσ13 g13 w13 c13=>?_;exact qB [true,true,true,true,true] λz K0 K=>hJ _ _ _ z _ ⟨rfl,rfl,trivial,(c13.nil ([]:List Tg))⟩ K)) (by(refine qR [] 4 [2,0,3,4,7,3,0] λσ14 g14 w14 c14=>?_;exact qB [true,true,true,true,true] λz K0 K=>hJ _ _ _ z _ ⟨rfl,rfl,trivial,(c14.nil ([]:List Tg))⟩ K)))
 rintro g11 w11 _ z11 _ ⟨rfl,rfl,_,c11⟩;exact qE4 4 5 115 112 2 (σ1 2) 3 (σ1 3) (stA (Oi s ⟨2,ci,q,ni,v⟩)) #[iv 0,iv (Mn s ⟨2,ci,q,ni,v⟩)] λK=>⟨rfl,Cg.below (((((((c1.trans c2).trans c4).trans c5).trans c7).trans c8).trans c10).trans c11) (λ_ _=>M')⟩
theorem dk(s:Sto)(ci ni:Nat)(q v:Int)(w:World)(hc:ci<8)(hn:ni<8)(q0:0<=q)(q1:q<=1048576) :
  Calls prog 154 #[.agg (stA s),.agg #[iv 3,iv (ci:Int),iv q,iv (ni:Int),iv v]] w λe w'=>e=.returned (.tuple #[.agg (stA (Oi s ⟨3,ci,q,ni,v⟩)),.agg #[iv 0,iv (Mn s ⟨3,ci,q,ni,v⟩)]])/\Bw w w':=by
 have hgz:∀ b,w.heap.size<=b->gS.t b=.z/\gS.k b=0:=λ_ _=>⟨rfl,rfl⟩;refine gI (fn:=f154) [] gS func154 hgz ?_;refine qR [] 37 [1,0,0,0,1,0,1,0,1,0,1] λσ1 g1 w1 c1=>?_;refine BX 48 (λg' w' e L=>e=[(2,pt (σ1 0) 0),(3,pt (σ1 1) 0),(4,pt (σ1 2) 0),(5,pt (σ1 3) 0),(6,pt (σ1 4) 0)]/\L=[⟨(σ1 0),.cells (stA ({ s with R:=Bo s.R ni true })) 115,.l,false⟩,⟨(σ1 1),.cells #[iv 3,iv (ci:Int),iv q,iv (ni:Int),iv v] 25,.z,false⟩,⟨(σ1 2),.cells (stA FP) 115,.l,false⟩,⟨(σ1 3),.cells #[iv 0,iv 0] 112,.l,false⟩,⟨(σ1 4),.cells #[iv 0,iv 0] 112,.l,false⟩]/\True/\Cg w.heap.size ([]:List Tg) g1 w1 g' w') (by kernel_rfl) ?_ ?_
 .intro J hJ;rcases lt8 hn with rfl|rfl|rfl|rfl|rfl|rfl|rfl|rfl <;>
  (refine qR [] 6 [1,0,0] λσ3 g3 w3 c3=>?_;exact qB [true,true,true,true,true] λz K0 K=>hJ _ _ _ z _ ⟨rfl,rfl,trivial,(c3.nil ([]:List Tg))⟩ K)
 rintro g2 w2 _ z2 _ ⟨rfl,rfl,_,c2⟩;refine qR [] 7 [1,1] λσ4 g4 w4 c4=>?_;refine qV 4 (iv (q+1)) (AD (x:=(.tmp 37)) (y:=(.const (iv 1))) q 1 underlying3 (by omega)) ?_;refine BX 48 (λg' w' e L=>e=[(2,pt (σ1 0) 0),(3,pt (σ1 1) 0),(4,pt (σ1 2) 0),(5,pt (σ1 3) 0),(6,pt (σ1 4) 0)]/\L=[⟨(σ1 0),.cells (stA (Sto.mk s.V (Bo s.L ci (q+1)) s.C s.A (Bo s.R ni true))) 115,.l,false⟩,⟨(σ1 1),.cells #[iv 3,iv (ci:Int),iv q,iv (ni:Int),iv v] 25,.z,false⟩,⟨(σ1 2),.cells (stA FP) 115,.l,false⟩,⟨(σ1 3),.cells #[iv 0,iv 0] 112,.l,false⟩,⟨(σ1 4),.cells #[iv 0,iv 0] 112,.l,false⟩]/\True/\Cg w.heap.size ([]:List Tg) g4 w4 g' w') (by kernel_rfl) ?_ ?_
 .intro J hJ;rcases lt8 hc with rfl|rfl|rfl|rfl|rfl|rfl|rfl|rfl <;>
  (refine qR [] 4 [0,0] λσ6 g6 w6 c6=>?_;exact qB [true,true,true,true,true] λz K0 K=>hJ _ _ _ z _ ⟨rfl,rfl,trivial,(c6.nil ([]:List Tg))⟩ K)
 rintro g5 w5 _ z5 _ ⟨rfl,rfl,_,c5⟩;refine qR [] 2 [] λσ7 g7 w7 c7=>?_;refine BX 48 (λg' w' e L=>e=[(2,pt (σ1 0) 0),(3,pt (σ1 1) 0),(4,pt (σ1 2) 0),(5,pt (σ1 3) 0),(6,pt (σ1 4) 0)]/\L=[⟨(σ1 0),.cells (stA (Sto.mk s.V (Bo s.L ci (q+1)) (Bo s.C ci 0) (Bo s.A ci 0) (Bo s.R ni true))) 115,.l,false⟩,⟨(σ1 1),.cells #[iv 3,iv (ci:Int),iv q,iv (ni:Int),iv v] 25,.z,false⟩,⟨(σ1 2),.cells (stA FP) 115,.l,false⟩,⟨(σ1 3),.cells #[iv 0,iv 0] 112,.l,false⟩,⟨(σ1 4),.cells #[iv 0,iv 0] 112,.l,false⟩]/\True/\Cg w.heap.size ([]:List Tg) g7 w7 g' w') (by kernel_rfl) ?_ ?_
 .intro J hJ;rcases lt8 hc with rfl|rfl|rfl|rfl|rfl|rfl|rfl|rfl <;>
  (refine qR [] 7 [1,4,0,0] λσ9 g9 w9 c9=>?_;exact qB [true,true,true,true,true] λz K0 K=>hJ _ _ _ z _ ⟨rfl,rfl,trivial,(c9.nil ([]:List Tg))⟩ K)
 rintro g8 w8 _ z8 _ ⟨rfl,rfl,_,c8⟩;refine qR [] 3 [2,0,0] λσ10 g10 w10 c10=>?_;refine BX 48 (λg' w' e L=>e=[(2,pt (σ1 0) 0),(3,pt (σ1 1) 0),(4,pt (σ1 2) 0),(5,pt (σ1 3) 0),(6,pt (σ1 4) 0)]/\L=[⟨(σ1 0),.cells (stA (Sto.mk s.V (Bo s.L ci (q+1)) (Bo s.C ci 0) (Bo s.A ci 0) (Bo s.R ni true))) 115,.l,false⟩,⟨(σ1 1),.cells #[iv 3,iv (ci:Int),iv q,iv (ni:Int),iv v] 25,.z,false⟩,⟨(σ1 2),.cells (stA (Sto.mk s.V (Bo s.L ci (q+1)) (Bo s.C ci 0) (Bo s.A ci 0) (Bo s.R ni true))) 115,.l,false⟩,⟨(σ1 3),.cells #[iv 0,iv 0] 112,.l,false⟩,⟨(σ1 4),.cells #[iv 0,iv 0] 112,.l,false⟩]/\True/\Cg w.heap.size ([]:List Tg) g10 w10 g' w') (by kernel_rfl) ?_ ?_
 .intro J hJ
  (exact CN 1 2 (by kernel_rfl) (by(refine qR [] 4 [4,5,2,0,7,3,0] λσ13 g13 w13 c13=>?_;exact qB [true,true,true,true,true] λz K0 K=>hJ _ _ _ z _ ⟨rfl,rfl,trivial,(c13.nil ([]:List Tg))⟩ K)) (by(refine qR [] 4 [2,0,3,4,7,3,0] λσ14 g14 w14 c14=>?_;exact qB [true,true,true,true,true] λz K0 K=>hJ _ _ _ z _ ⟨rfl,rfl,trivial,(c14.nil ([]:List Tg))⟩ K)))
 rintro g11 w11 _ z11 _ ⟨rfl,rfl,_,c11⟩;exact qE4 4 5 115 112 2 (σ1 2) 3 (σ1 3) (stA (Oi s ⟨3,ci,q,ni,v⟩)) #[iv 0,iv (Mn s ⟨3,ci,q,ni,v⟩)] λK=>⟨rfl,Cg.below (((((((c1.trans c2).trans c4).trans c5).trans c7).trans c8).trans c10).trans c11) (λ_ _=>M')⟩
theorem VH(s:Sto)(k:Int)(ci ni:Nat)(q v:Int)(w:World)(hk:1<=k/\k<=3)(hc:ci<8)(hn:ni<8)(q0:0<=q)(q1:q<=1048576)(hS:Oi s ⟨k,ci,q,ni,v⟩=S)(hA:Mn s ⟨k,ci,q,ni,v⟩=A) :
  Calls prog 154 #[.agg (stA s),.agg #[iv k,iv (ci:Int),iv q,iv (ni:Int),iv v]] w λe w'=>e=.returned (.tuple #[.agg (stA S),.agg #[iv 0,iv A]])/\Bw w w':=by
 subst hS hA;rcases(show k=1\/k=2\/k=3 by omega)with rfl|rfl|rfl
 .exact di s ci ni q v w hc hn q0 q1
 .exact dj s ci ni q v w hc hn q0 q1
 .exact dk s ci ni q v w hc hn q0 q1
theorem V4(s:Sto)(k:Int)(ci ni:Nat)(q v:Int)(w:World)(k0:0<=k)(k3:k<=3)(hc:ci<8)(hn:ni<8)(q0:0<=q)(q1:q<=1048576) :
  Calls prog 126 #[.agg (stA s),.agg #[iv k,iv (ci:Int),iv q,iv (ni:Int),iv v]] w λe w'=>e=.returned (.tuple #[.agg (stA (dnS s ⟨k,ci,q,ni,v⟩)),.agg #[iv (dnC s ⟨k,ci,q,ni,v⟩),iv (dnA s ⟨k,ci,q,ni,v⟩)]])/\Bw w w':=by
 have hgz:∀ b,w.heap.size<=b->gS.t b=.z/\gS.k b=0:=λ_ _=>⟨rfl,rfl⟩;refine gI (fn:=f126) [] gS func126 hgz ?_;refine qR [] 14 [0,0,0,0,1,0,1,0,1] λσ1 g1 w1 c1=>?_;by_cases h1:k=0
 .refine qI ((k==0)) true (by simpa using h1) ?_;refine qR [] 7 [0,2,0,3,0] λσ2 g2 w2 c2=>?_;rw[show dnS s ⟨k,ci,q,ni,v⟩=s from if_neg (λg=>g.1 h1),show dnC s ⟨k,ci,q,ni,v⟩=0 from if_pos h1,show dnA s ⟨k,ci,q,ni,v⟩=0 from if_pos h1];exact qE4 4 5 115 112 2 (σ1 2) 3 (σ1 3) (stA s) #[iv 0,iv 0] λK=>⟨rfl,Cg.below (c1.trans c2) (λ_ _=>M')⟩
 .refine qI ((k==0)) false (by simpa using h1) ?_;refine qR [] 3 [] λσ3 g3 w3 c3=>?_;refine BX 49 (λg' w' e L=>e=[(2,pt (σ1 0) 0),(3,pt (σ1 1) 0),(4,pt (σ1 2) 0),(5,pt (σ1 3) 0),(6,iv (s.L ci))]/\L=[⟨(σ1 0),.cells (stA s) 115,.z,false⟩,⟨(σ1 1),.cells #[iv k,iv (ci:Int),iv q,iv (ni:Int),iv v] 25,.z,false⟩,⟨(σ1 2),.cells (stA FP) 115,.l,false⟩,⟨(σ1 3),.cells #[iv 0,iv 0] 112,.l,false⟩]/\True/\Cg w.heap.size ([]:List Tg) g3 w3 g' w') (by kernel_rfl) ?_ ?_
  .intro J hJ;rcases lt8 hc with rfl|rfl|rfl|rfl|rfl|rfl|rfl|rfl <;>
   (refine qR [] 7 [1,0] λσ5 g5 w5 c5=>?_;exact qB [true,true,true,true] λz K0 K=>hJ _ _ _ z _ ⟨rfl,rfl,trivial,(c5.nil ([]:List Tg))⟩ K)
  rintro g4 w4 _ z4 _ ⟨rfl,rfl,_,c4⟩;refine qR [] 7 [1] λσ6 g6 w6 c6=>?_;refine qV 3 (iv (q+1)) (AD (x:=(.tmp 20)) (y:=(.const (iv 1))) q 1 underlying3 (by omega)) ?_;refine qR [] 3 [] λσ7 g7 w7 c7=>?_;by_cases h2:s.L ci=q+1
  .refine qI (((s.L ci)==(q+1))) true (by simpa using h2) ?_;refine qR [] 2 [6] λσ8 g8 w8 c8=>?_;refine BX 49 (λg' w' e L=>e=[(2,pt (σ1 0) 0),(3,pt (σ1 1) 0),(4,pt (σ1 2) 0),(5,pt (σ1 3) 0)]/\L=[⟨(σ1 0),.cells (stA s) 115,.z,false⟩,⟨(σ1 1),.cells #[iv k,iv (ci:Int),iv q,iv (ni:Int),iv v] 25,.z,false⟩,⟨(σ1 2),.cells (stA s) 115,.l,false⟩,⟨(σ1 3),.cells #[iv (s.C ci),iv (s.A ci)] 112,.l,false⟩]/\True/\Cg w.heap.size ([]:List Tg) g8 w8 g' w') (by kernel_rfl) ?_ ?_
   .intro J hJ;rcases lt8 hc with rfl|rfl|rfl|rfl|rfl|rfl|rfl|rfl <;>
    (refine qR [] 3 [0,0,2,6] λσ10 g10 w10 c10=>?_;exact CN 2 6 (by kernel_rfl) (by(refine qR [] 2 [1,8] λσ11 g11 w11 c11=>?_;exact CN 5 6 (by kernel_rfl) (by(refine qR [] 4 [0,13,2,0,15,3,0] λσ12 g12 w12 c12=>?_;exact qB [true,true,true,true] λz K0 K=>hJ _ _ _ z _ ⟨rfl,rfl,trivial,(((c10.nil ([]:List Tg)).n c11).n c12)⟩ K)) (by(refine qR [] 4 [2,0,11,0,15,3,0] λσ13 g13 w13 c13=>?_;exact qB [true,true,true,true] λz K0 K=>hJ _ _ _ z _ ⟨rfl,rfl,trivial,(((c10.nil ([]:List Tg)).n c11).n c13)⟩ K)))) (by(refine qR [] 6 [2,0,5,1,8,11,0,15,3,0] λσ14 g14 w14 c14=>?_;exact qB [true,true,true,true] λz K0 K=>hJ _ _ _ z _ ⟨rfl,rfl,trivial,((c10.nil ([]:List Tg)).n c14)⟩ K)))
   rintro g9 w9 _ z9 _ ⟨rfl,rfl,_,c9⟩;rw[show dnS s ⟨k,ci,q,ni,v⟩=s from if_neg (λg=>g.2.1 (by show q<s.L ci;omega)),show dnC s ⟨k,ci,q,ni,v⟩=s.C ci from(if_neg h1).trans (if_pos h2),show dnA s ⟨k,ci,q,ni,v⟩=s.A ci from(if_neg h1).trans (if_pos h2)];exact qE4 4 5 115 112 2 (σ1 2) 3 (σ1 3) (stA s) #[iv (s.C ci),iv (s.A ci)] λK=>⟨rfl,Cg.below ((((((c1.trans c3).trans c4).trans c6).trans c7).trans c8).trans c9) (λ_ _=>M')⟩
  .refine qI (((s.L ci)==(q+1))) false (by simpa using h2) ?_;refine qR [] 8 [1] λσ16 g16 w16 c16=>?_;by_cases h3:q<s.L ci
   .refine qI ((decide (q<(s.L ci)))) true (I' h3) ?_;refine qR [] 7 [0,2,0,3,0] λσ17 g17 w17 c17=>?_;rw[show dnS s ⟨k,ci,q,ni,v⟩=s from if_neg (λg=>g.2.1 h3),show dnC s ⟨k,ci,q,ni,v⟩=7 from(if_neg h1).trans ((if_neg h2).trans (if_pos h3)),show dnA s ⟨k,ci,q,ni,v⟩=0 from(if_neg h1).trans ((if_neg h2).trans (if_pos h3))];exact qE4 4 5 115 112 2 (σ1 2) 3 (σ1 3) (stA s) #[iv 7,iv 0] λK=>⟨rfl,Cg.below ((((((c1.trans c3).trans c4).trans c6).trans c7).trans c16).trans c17) (λ_ _=>M')⟩
   .refine qI ((decide (q<(s.L ci)))) false (D' h3) ?_;refine qR [] 2 [] λσ18 g18 w18 c18=>?_;refine BX 49 (λg' w' e L=>e=[(2,pt (σ1 0) 0),(3,pt (σ1 1) 0),(4,pt (σ1 2) 0),(5,pt (σ1 3) 0),(36,.bool (s.R ci))]/\L=[⟨(σ1 0),.cells (stA s) 115,.z,false⟩,⟨(σ1 1),.cells #[iv k,iv (ci:Int),iv q,iv (ni:Int),iv v] 25,.z,false⟩,⟨(σ1 2),.cells (stA FP) 115,.l,false⟩,⟨(σ1 3),.cells #[iv 0,iv 0] 112,.l,false⟩]/\True/\Cg w.heap.size ([]:List Tg) g18 w18 g' w') (by kernel_rfl) ?_ ?_
    .intro J hJ;rcases lt8 hc with rfl|rfl|rfl|rfl|rfl|rfl|rfl|rfl <;>
     (refine qR [] 7 [1,0] λσ20 g20 w20 c20=>?_;exact qB [true,true,true,true] λz K0 K=>hJ _ _ _ z _ ⟨rfl,rfl,trivial,(c20.nil ([]:List Tg))⟩ K)
    rintro g19 w19 _ z19 _ ⟨rfl,rfl,_,c19⟩;by_cases h4:s.R ci=true
    .refine qI ((s.R ci)) true h4 ?_;refine qR [] 7 [0,2,0,3,0] λσ22 g22 w22 c22=>?_;rw[show dnS s ⟨k,ci,q,ni,v⟩=s from if_neg (λg=>Bool.noConfusion (h4.symm.trans g.2.2)),show dnC s ⟨k,ci,q,ni,v⟩=11 from(if_neg h1).trans ((if_neg h2).trans ((if_neg h3).trans (if_pos h4))),show dnA s ⟨k,ci,q,ni,v⟩=0 from(if_neg h1).trans ((if_neg h2).trans ((if_neg h3).trans (if_pos h4)))];exact qE4 4 5 115 112 2 (σ1 2) 3 (σ1 3) (stA s) #[iv 11,iv 0] λK=>⟨rfl,Cg.below ((((((((c1.trans c3).trans c4).trans c6).trans c7).trans c16).trans c18).trans c19).trans c22) (λ_ _=>M')⟩
    .refine qI ((s.R ci)) false (by simpa using h4) ?_;obtain⟨S,hS⟩:∃ S,Oi s ⟨k,ci,q,ni,v⟩=S:=⟨_,rfl⟩;obtain⟨A,hA⟩:∃ A,Mn s ⟨k,ci,q,ni,v⟩=A:=⟨_,rfl⟩;refine qR [] 6 [0,1] λσ23 g23 w23 c23=>?_;have bb24:=(Cg.below ((((((((c1.trans c3).trans c4).trans c6).trans c7).trans c16).trans c18).trans c19).trans c23) (λ_ _=>M'));refine Ag λKq24=>?_;have hG24:∀ z,w23.heap.size<=z->g23.t z=.z:=λz hz=>(Kq24.new z hz).1;refine qC 2 (VH s k ci ni q v w23 (by omega) hc hn q0 q1 hS hA) ?_;rintro e' w24 ⟨rfl,b24⟩;refine⟨_,rfl,b24,?_⟩;have c24:=Cg.ofBelow (B:=w.heap.size) (T:=[]) (g:=g23) b24;refine qR [] 5 [2,0,3,0] λσ25 g25 w25 c25=>?_;rw[show dnS s ⟨k,ci,q,ni,v⟩=S from(if_pos ⟨h1,h3,by simpa using h4⟩).trans hS,show dnC s ⟨k,ci,q,ni,v⟩=0 from(if_neg h1).trans ((if_neg h2).trans ((if_neg h3).trans (if_neg h4))),show dnA s ⟨k,ci,q,ni,v⟩=A from(if_neg h1).trans ((if_neg h2).trans ((if_neg h3).trans ((if_neg h4).trans hA)))];exact qE4 4 5 115 112 2 (σ1 2) 3 (σ1 3) (stA S) #[iv 0,iv A] λK=>⟨rfl,Cg.below ((((((((((c1.trans c3).trans c4).trans c6).trans c7).trans c16).trans c18).trans c19).trans c23).trans c24).trans c25) (λ_ _=>M')⟩
theorem YL(he:m.e=0)(hS:dnS s m=S){C:Int}(hC:dnC s m=C)(hA:dnA s m=A) :
  Calls prog 126 #[.agg (stA s),.agg #[iv m.k,iv m.c,iv m.s,iv m.n,iv m.v]] w λe w'=>e=.returned (.tuple #[.agg (stA S),.agg #[iv C,iv A]])/\Bw w w':=by
 subst hS hC hA;obtain⟨k,c,q,n,v⟩:=m;obtain⟨hk,hi⟩:=Zn he;unfold InC at hi;simp only at hk hi ⊢;obtain⟨ci,rfl⟩:∃ ci:Nat,c=(ci:Int):=⟨c.toNat,by omega⟩;obtain⟨ni,rfl⟩:∃ ni:Nat,n=(ni:Int):=⟨n.toNat,by omega⟩;exact V4 s k ci ni q v w hk.1 hk.2 (by omega) (by omega) (by omega) (by omega)
theorem V3(hE:Mx s=E):Calls prog 125 #[.agg (stA s)] w λe w'=>e=.returned (iv E)/\Bw w w':=by subst hE;exact S5 s w
theorem UK(ht:NTab w)(hE:m.e=E):Calls prog 22 #[.agg #[iv m.k,iv m.c,iv m.s,iv m.n,iv m.v]] w λe w'=>e=.returned (iv E)/\Bw w w':=by subst hE;exact DH m.k m.c m.s m.n m.v w ht
theorem gY(s:Sto)(m:Cmd)(w:World)(hN:NTab w) :
  Calls prog 79 #[.agg (stA s),.agg #[iv m.k,iv m.c,iv m.s,iv m.n,iv m.v]] w λe w'=>e=.returned (.tuple #[.agg (stA (doS s m)),.agg #[iv (doC s m),iv (doA s m)],iv (doE s m)])/\Bw w w':=by
 obtain⟨E,hE⟩:∃ E,Mx s=E:=⟨_,rfl⟩;obtain⟨F,hF⟩:∃ F,m.e=F:=⟨_,rfl⟩;have hgz:∀ b,w.heap.size<=b->gS.t b=.z/\gS.k b=0:=λ_ _=>⟨rfl,rfl⟩;refine gI (fn:=f79) [] gS func79 hgz ?_;refine qR [] 12 [0,0,0,0,1,0,1,0,0] λσ1 g1 w1 c1=>?_;have bb2:=(Cg.below c1 (λ_ _=>M'));refine Ag λKq2=>?_;have hG2:∀ z,w1.heap.size<=z->g1.t z=.z:=λz hz=>(Kq2.new z hz).1;refine qC 1 (V3 hE) ?_;rintro e' w2 ⟨rfl,b2⟩;refine⟨_,rfl,b2,?_⟩;have c2:=Cg.ofBelow (B:=w.heap.size) (T:=[]) (g:=g1) b2;refine qR [] 7 [] λσ3 g3 w3 c3=>?_;by_cases h1:E≠0
 .refine qI ((E != 0)) true (by simpa using h1) ?_;refine qR [] 9 [2,0,3,0] λσ4 g4 w4 c4=>?_;have hD:doE s m=E:=by unfold doE;unfold Mx at hE;split at hE;exact absurd hE.symm h1;rename_i g;rw[if_neg g];exact hE
  have hD0:doE s m≠0:=by rw[hD];exact h1
  rw[Wq hD0,Wn hD0,show doA s m=0 from if_neg hD0,hD];exact qE5 4 5 6 115 112 2 (σ1 2) 3 (σ1 3) (stA FP) #[iv 0,iv 0] (iv E) λK=>⟨rfl,(Cg.below (((c1.trans c2).trans c3).trans c4) (λ_ _=>M'))⟩
 .refine qI ((E != 0)) false (by simpa using h1) ?_;have hB:TG s:=ma λg=>absurd (hE.symm.trans (Kh g)) (by rw[show E=0 from by simpa using h1];decide);refine qR [] 5 [1] λσ5 g5 w5 c5=>?_;have bb6:=(Cg.below (((c1.trans c2).trans c3).trans c5) (λ_ _=>M'));refine Ag λKq6=>?_;have hG6:∀ z,w5.heap.size<=z->g5.t z=.z:=λz hz=>(Kq6.new z hz).1;refine qC 1 (UK (hN.below bb6) hF) ?_;rintro e' w6 ⟨rfl,b6⟩;refine⟨_,rfl,b6,?_⟩;have c6:=Cg.ofBelow (B:=w.heap.size) (T:=[]) (g:=g5) b6;refine qR [] 7 [] λσ7 g7 w7 c7=>?_;by_cases h2:F≠0
  .refine qI ((F != 0)) true (by simpa using h2) ?_;refine qR [] 9 [2,0,3,0] λσ8 g8 w8 c8=>?_;have hD:doE s m=F:=(if_pos hB).trans hF;have hD0:doE s m≠0:=by rw[hD];exact h2
   rw[Wq hD0,Wn hD0,show doA s m=0 from if_neg hD0,hD];exact qE5 4 5 6 115 112 2 (σ1 2) 3 (σ1 3) (stA FP) #[iv 0,iv 0] (iv F) λK=>⟨rfl,(Cg.below ((((((c1.trans c2).trans c3).trans c5).trans c6).trans c7).trans c8) (λ_ _=>M'))⟩
  .refine qI ((F != 0)) false (by simpa using h2) ?_;have hF0:m.e=0:=by rw[hF];simpa using h2
   have hD:doE s m=0:=(if_pos hB).trans hF0;obtain⟨S,hS⟩:∃ S,dnS s m=S:=⟨_,rfl⟩;obtain⟨C,hC⟩:∃ C,dnC s m=C:=⟨_,rfl⟩;obtain⟨A,hA⟩:∃ A,dnA s m=A:=⟨_,rfl⟩;refine qR [] 5 [0,1] λσ9 g9 w9 c9=>?_;have bb10:=(Cg.below ((((((c1.trans c2).trans c3).trans c5).trans c6).trans c7).trans c9) (λ_ _=>M'));refine Ag λKq10=>?_;have hG10:∀ z,w9.heap.size<=z->g9.t z=.z:=λz hz=>(Kq10.new z hz).1;refine qC 2 (YL hF0 hS hC hA) ?_;rintro e' w10 ⟨rfl,b10⟩;refine⟨_,rfl,b10,?_⟩;have c10:=Cg.ofBelow (B:=w.heap.size) (T:=[]) (g:=g9) b10;refine qR [] 11 [0,0,0,0,4,0,5,0,2,0,4] λσ11 g11 w11 c11=>?_;refine BX 33 (λg' w' e L=>e=[(4,pt (σ1 2) 0),(5,pt (σ1 3) 0),(6,iv 0)]/\L=[⟨(σ1 0),.cells (stA s) 115,.z,false⟩,⟨(σ1 1),.cells #[iv m.k,iv m.c,iv m.s,iv m.n,iv m.v] 25,.z,false⟩,⟨(σ1 2),.cells (stA S) 115,.l,false⟩,⟨(σ1 3),.cells #[iv C,iv A] 112,.l,false⟩,⟨(σ11 0),.cells (stA S) 115,.z,false⟩,⟨(σ11 1),.cells #[iv C,iv A] 112,.z,false⟩]/\True/\Cg w.heap.size ([]:List Tg) g11 w11 g' w') (by kernel_rfl) ?_ ?_
   .intro J hJ
    (exact CN 1 2 (by kernel_rfl) (by(refine qR [] 5 [5,5,2,0,7,3,0,8] λσ14 g14 w14 c14=>?_;exact qB [true,true,true,true,true,true] λz K0 K=>hJ _ _ _ z _ ⟨rfl,rfl,trivial,(c14.nil ([]:List Tg))⟩ K)) (by(refine qR [] 5 [2,0,3,5,7,3,0,8] λσ15 g15 w15 c15=>?_;exact qB [true,true,true,true,true,true] λz K0 K=>hJ _ _ _ z _ ⟨rfl,rfl,trivial,(c15.nil ([]:List Tg))⟩ K)))
   rintro g12 w12 _ z12 _ ⟨rfl,rfl,_,c12⟩;rw[dG hD,dC hD,dB hD,hD,hS,hC,hA];exact qE5 4 5 6 115 112 2 (σ1 2) 3 (σ1 3) (stA S) #[iv C,iv A] (iv 0) λK=>⟨rfl,(Cg.below (((((((((c1.trans c2).trans c3).trans c5).trans c6).trans c7).trans c9).trans c10).trans c11).trans c12) (λ_ _=>M'))⟩
theorem Dj(s:Sto)(k c q n v:Int)(w:World)(hN:NTab w) :
  Calls prog 79 #[.agg (stA s),.agg (cmA k c q n v)] w λe w'=>e=.returned (.tuple #[.agg (stA (doS s ⟨k,c,q,n,v⟩)),.agg #[.int .i64 (doC s ⟨k,c,q,n,v⟩),.int .i64 (doA s ⟨k,c,q,n,v⟩)],.int .i64 (doE s ⟨k,c,q,n,v⟩)])/\Bw w w':=gY s ⟨k,c,q,n,v⟩ w hN
end
end Go.Proofs.YtalbmmghmoggcadGreatDoor
