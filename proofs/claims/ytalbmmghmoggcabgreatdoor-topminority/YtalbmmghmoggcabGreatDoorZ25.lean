/- Part 25 of the walk. -/
import Derived.Test.YtalbmmghmoggcabGreatDoorZ24
set_option maxRecDepth 100000
set_option maxHeartbeats 4000000
open Go.Proofs.Tryz
set_option linter.unusedVariables false
namespace Go.Proofs.YtalbmmghmoggcabGreatDoor
section
section
def paE(n tc tr tu k c s m v:Int):Int:=if ¬ (0<=n/\n<1073741824)then 2 else if Ll tc tr tu≠0 then Ll tc tr tu else AU k c s m v
def paP(tc tr tu k c s m v:Int):List Int:=Jn FH tc tr tu++H7 k c s m v
def paL(n tc tr tu k c s m v:Int):List Int:=if paE n tc tr tu k c s m v=0 then c::Jd (FI c) n (paP tc tr tu k c s m v)else[]
variable{c k m n s tc tr tu v:Int}
theorem VK(h:paE n tc tr tu k c s m v=0):(0<=n/\n<1073741824)/\CB tc tr tu/\AU k c s m v=0:=by
 unfold paE at h;split at h
 .cases h
 .rename_i g1
  split at h
  .rename_i g;exact absurd h g
  .rename_i g2
   refine⟨gi.1 g1,?_,h⟩;have g3:=gi.1 g2;unfold Ll at g3;split at g3
   .assumption
   .cases g3
theorem bB(h1:0<=n/\n<1073741824)(h2:Ll tc tr tu=0):paE n tc tr tu k c s m v=AU k c s m v:=by
 unfold paE;rw[if_neg (λg=>g h1),if_neg (λg=>g h2)]
theorem VL(h:paE n tc tr tu k c s m v=0):paL n tc tr tu k c s m v=c::Jd (FI c) n (paP tc tr tu k c s m v):=if_pos h
theorem Gn(tc tr tu k c s m v:Int):(paP tc tr tu k c s m v).length=42:=by unfold paP;rw[N',DJ,EV]
theorem Wq{p:List Int}(h0:0<=n)(h1:n<1073741824)(hp:p.length=42):Dy (FI c) n 0 noB p=0:=by
 unfold Dy;rw[if_neg (λg=>g (OkC.new (Fb c) n h0 (by omega))),if_neg (by omega),if_neg (by omega)]
end
end
section
open Go.RowKit
section
variable{c n tc tr tu:Int}{w:World}{x y:S3}
theorem Vb(hk:Sl w x.v FH)(ht:AA w)(h:CB tc tr tu) :
  Calls prog 33 #[x.v,.agg #[iv tc,iv tr,iv tu]] w λe w'=>∃ y:S3,e=.returned (.tuple #[y.v,iv 0])/\Sl w' y.v (Jn FH tc tr tu)/\Bw w w':=by
 refine(SC x.v FH tc tr tu w hk ht).mono ?_;have h9:KX FH tc tr tu=0:=by rw[NL I7];exact Jw h
 rintro e w' ⟨v,rfl,ho,hb⟩;rw[show NN FH tc tr tu=Jn FH tc tr tu from if_pos h9]at ho
 rw[h9];obtain⟨y,rfl,hy⟩:=Fg ho (by rw[DJ];decide) (TJ _ h);exact⟨y,rfl,hy,hb⟩
theorem Uq{l m:List Int}{e:TypeId}{g:Nat}(hr:w.heap[g]?=some (.cells #[x.v,y.v] e))(h0:Sl w x.v l)(h1:Sl w y.v m)(q0:l.length<=1000)(q1:m.length<=1000)(q3:0<l.length) :
  Calls prog 38 #[.slice (some ⟨g,0,none⟩) 2 2] w λe w'=>∃ z:S3,e=.returned z.v/\Sl w' z.v (l++m)/\Nb w.heap.size z (l++m)/\Bw w w':=by
 refine(X1 hr h0 h1 q0 q1 q3).mono ?_;rintro e w' ⟨v,rfl,ho,hb⟩;obtain⟨z,rfl,hz,hn⟩:=Qt ho (by rw[N'];omega) (λa ha=>(Y'.1 ha).elim (h0.byte a) (h1.byte a));exact⟨z,rfl,hz,hn,hb⟩
theorem YI{p:List Int}(hk:Sl w x.v (FI c))(hp:Sl w y.v p)(ht:Cf w)(h0:0<=n)(h1:n<1073741824)(hl:p.length=42) :
  Calls prog 37 #[.agg #[x.v,iv n,iv 0,.bool false,.bool false,.bool false,.bool false,.bool false,.bool false,.bool false,.bool false],y.v] w λe w'=>∃ u z:S3,e=.returned (.tuple #[.agg #[u.v,iv (n+1),iv 0,.bool false,.bool false,.bool false,.bool false,.bool false,.bool false,.bool false,.bool false],z.v,iv 0])/\Sl w' z.v (Jd (FI c) n p)/\Bw w w':=by
 refine(YJ x.v (FI c) n 0 noB y.v p w hk rfl hp ht (Wq h0 h1 hl)).mono ?_;rintro e w' ⟨v1,v2,rfl,h2,_,ho,hb⟩;obtain⟨u,rfl,_⟩:=RG h2;obtain⟨z,rfl,hz⟩:=Fg ho (by rw[Fj];omega) (Tn _ _ hp.byte);exact⟨u,z,rfl,hz,hb⟩
theorem Yx{k s m v:Int}(h:paE n tc tr tu k c s m v=0)(hT:Tabs w) :
  Calls prog 17 #[iv n,.agg #[iv tc,iv tr,iv tu],.agg #[iv k,iv c,iv s,iv m,iv v]] w λe w'=>∃ y:S3,e=.returned (.tuple #[y.v,iv 0])/\Sl w' y.v (paL n tc tr tu k c s m v)/\Nb w.heap.size y (paL n tc tr tu k c s m v)/\Bw w w':=by
 obtain⟨hn,hB,hC⟩:=VK h;have hc:=(F5 hC).2;unfold InC at hc;rw[VL h];refine kIn func17 ?_;refine kR 11 [0,0,0,0] λσ1 w1 b1=>?_;refine kV 1 (.bool false) (rLt (x:=(.tmp 14)) (y:=(.const (iv 0))) (t:=3) (m:=n) (n:=0) (D' (by omega))) ?_;refine kR 2 [] λσ2 w2 b2=>?_;refine kV 4 (.bool false) (rGe (x:=(.tmp 17)) (y:=(.const (iv 1073741824))) (t:=3) (m:=n) (n:=1073741824) (D' (by omega))) ?_;refine kR 7 [8,2,0] λσ3 w3 b3=>?_;have B4:=(btr (btr b1 b2) b3);refine kC 0 (Ib (hT.t.below B4)) ?_;rintro _ w5 ⟨yi,rfl,hyi,b5⟩;refine⟨_,rfl,b5,?_⟩;have B7:=(btr B4 b5);refine kC 2 (Vb hyi (hT.t.below B7) hB) ?_;rintro _ w8 ⟨yt,rfl,hyt,b8⟩;refine⟨_,rfl,b8,?_⟩;refine kR 17 [6,8,10,12,14,1] λσ9 w9 b9=>?_;have B10:=(btr (btr B7 b8) b9);refine kC 1 (UN (m:=⟨k,c,s,m,v⟩) (hT.n.below B10) hC) ?_;rintro _ w11 ⟨yc,rfl,hyc,b11⟩;refine⟨_,rfl,b11,?_⟩;refine kR 18 [1] λσ12 w12 b12=>?_;have B13:=(btr (btr B10 b11) b12);refine kC 2 (Vm (c:=c) (by omega) (hT.t.below B13) (if_pos (by omega))) ?_;rintro _ w14 ⟨yk,rfl,hyk,b14⟩;refine⟨_,rfl,b14,?_⟩;replace hyk:=hyk rfl;refine kR 22 [0,0] λσ15 w15 b15=>?_;refine Ae λK=>?_;refine kC 6 (Uq (K.ats 2 (σ15 0) _ 25 .z true (by kernel_rfl)) (((((hyt.below b9).below b11).below b12).below b14).below b15) (((hyc.below b12).below b14).below b15) (by rw[DJ];decide) (by rw[EV];decide) (by rw[DJ];decide)) ?_;rintro _ w16 ⟨yp,rfl,hyp,_,b16⟩;refine⟨_,rfl,b16,?_⟩;have B18:=(btr (btr (btr B13 b14) b15) b16);refine kC 7 (YI ((hyk.below b15).below b16) hyp (hT.q.below hT.q.pos B18) hn.1 hn.2 (Gn tc tr tu k c s m v)) ?_;rintro _ w19 ⟨u,z,rfl,hz,b19⟩;refine⟨_,rfl,b19,?_⟩;refine kR 21 [0,0,3,0,1] λσ20 w20 b20=>?_;refine kV 2 (.int .u8 c) (Zz (P:=prog) (src:=3) (dst:=5) (k:=.i64) (n:=c) (by kernel_rfl) underlying5 (by kernel_rfl) (by rw[IntKind.wrap_u8];omega)) ?_;refine kR 3 [0,0,0,0] λσ21 w21 b21=>?_;refine Ae λK=>?_;have hc1:Sl w21 (S3.v ⟨some ⟨(σ21 0),0,none⟩,1,1⟩) [c]:=Sl.ofRow (l:=[c]) (K.ats 4 (σ21 0) _ 5 .z true (by kernel_rfl)) (by show 1<=_;decide) (λa ha=>by rw[O'.1 ha];omega);have B22:=(btr (btr (btr B18 b19) b20) b21);refine kC 6 (Uq (x:=⟨some ⟨(σ21 0),0,none⟩,1,1⟩) (K.ats 5 (σ21 1) _ 25 .z true (by kernel_rfl)) hc1 ((hz.below b20).below b21) (by show 1<=1000;decide) (by rw[Fj];show(paP tc tr tu k c s m v).length+20<=1000;rw[Gn];decide) (by show 0<1;decide)) ?_;rintro _ w23 ⟨y,rfl,hy,hw,b23⟩;refine⟨_,rfl,b23,?_⟩;refine kR 3 [] λσ24 w24 b24=>?_;have B25:=(btr (btr B22 b23) b24);exact kE (.tuple #[S3.v y,iv 0]) ⟨y,rfl,(hy.below b24),hw.mono B22.size,B25⟩
end
end
section
structure Gr where
 k:Int
 a:Int
 b:Int
 c:Int
 d:Int
def pkT(g:Gr):Int:=if pick g.d 17=16 then(pick g.c 4+1)%4 else pick g.c 4
def pkR(g:Gr):Int:=if pick g.d 17=15 then 0 else 7
def pkP(g:Gr):List Int:=paL (pick g.a 1000) (pkT g) (pkR g) 60 (wK g.b) (pick g.c 4) (pick g.d 6) (pick g.a 4) (wV g.b g.d)
theorem VR(g:Gr):paE (pick g.a 1000) (pkT g) (pkR g) 60 (wK g.b) (pick g.c 4) (pick g.d 6) (pick g.a 4) (wV g.b g.d)=0:=by
 have h1:=AO g.a 1000 (by omega);have h2:=AO g.c 4 (by omega);have h3:=AO g.d 6 (by omega);have hT:CB (pkT g) (pkR g) 60:=by
  unfold CB pkT pkR;refine⟨?_,?_,by omega⟩<;>split<;>omega
 rw[bB ⟨h1.1,by omega⟩ (Jw hT)];exact Zj g.b g.a g.d _ _ (by omega) (by omega)
def pkB(g:Gr):List Int:=if pick g.d 23=22/\30<(pkP g).length then(pkP g).take 30 else pkP g
def acN(k:Int)(n:Int):Lac:=⟨k,n,0,0,[]⟩
def Mq(g:Gr)(cr:Bool):Lac :=
 if pick g.k 24<3 then⟨1,pick g.a 5,0,0,pkB g⟩
 else if pick g.k 24<5 then acN 2 (pick g.a 5)
 else if pick g.k 24<14 then acN 3 (pick g.a 5)
 else if pick g.k 24=14 then⟨4,0,pick g.c 20,0,[]⟩
 else if pick g.k 24=15 then⟨5,0,pick g.c 20,0,[]⟩
 else if pick g.k 24=16 then⟨6,0,pick g.c 20,0,[]⟩
 else if pick g.k 24=17/\cr=true then⟨8,pick g.a 5,0,pick g.c 90,[]⟩
 else if pick g.k 24=18/\cr=true then acN 9 (pick g.a 5)
 else acN 7 0
def Wl(s:Nat)(x:Lac):Lac:=if x.k=1/\6<s+1 then acN 7 0 else x
def bR(s:Nat)(x:Lac):Nat:=if x.k=1 then s+1 else s
def MI(cr:Bool):Nat->List Gr->List Lac
 | _,[]=>[]
 | s,g::l=>Wl s (Mq g cr)::MI cr (bR s (Mq g cr)) l
def scr(l:List Gr)(most:Nat)(cr:Bool):List Lac:=MI cr 0 (l.take most)
end
section
open Go.RowKit
section
variable{fn:Func}{R:Ending->World->Prop}{B:Nat}{T:List Tg}{g:Gh}{w:World}
theorem aI{s:Xs}(i':Nat)(r i:Nat)(hsem:CK s i'=some (Instr.makeMap 88 none>>=λv=>pure (.value v)))
  (hob:(nxt s i' undef s.L).o.map Ob.l'=(nxt s i' undef s.L).o.map Ob.r')
  (hk:∀ b g' w',w.heap.size<=b->AskAt g' w' (.n r i) b (λ_=>none)->(∀ B T,Cg B T g w g' w')->(∀ b,w'.heap.size<=b->g'.t b=.z/\g'.k b=0)->GG prog fn R B T (nxt s i' (.map (some b)) s.L).s g' w'):GG prog fn R B T s g w:=by
 refine JQ i' s.L hob (BC hsem) λhK ops j o hop=>?_;have hr:(Instr.makeMap 88 none).run prog w=.ok (.map (some w.heap.size)) (w.alloc (.map #[] 0)):=by
  simp[Instr.makeMap,go_sem]
 have hC:∀ B T,Cg B T g w (Mr g w (.n r i) 0) (w.alloc (.map #[] 0)):=λB T =>
  ⟨rfl,rfl,rfl,by simp,λb hb=>.inl (if_neg (by omega)),λb hb=>by show _<=(if b=w.heap.size then _ else g.k b);rw[if_neg (by omega)];exact A' _,λb hb _ _=>if_neg (by omega),λb hb _ _=>heap_alloc_old w _ hb,λb hb j hj=>World.cell?_of_block (w:=w) (heap_alloc_old w _ hb)⟩
 have hG:∀ b,(w.alloc (.map #[] 0)).heap.size<=b->(Mr g w (.n r i) 0).t b=.z/\(Mr g w (.n r i) 0).k b=0:=λb hb=>by
  have hb':w.heap.size+1<=b:=by simpa using hb
  show(if b=w.heap.size then _ else g.t b)=.z/\(if b=w.heap.size then _ else g.k b)=0;rw[if_neg (by omega),if_neg (by omega)];exact hK.new b (by omega)
 refine⟨.map (some w.heap.size),_,Mr g w (.n r i) 0,.inl ?_,hK.ch (hC _ []) hG (by simp),hk _ _ _ (A' _) ⟨if_pos rfl,if_pos rfl,[],0,heap_alloc_new _ _,λx hx=>absurd hx H',List.nodup_nil,List.nodup_nil,λ_=>rfl⟩ hC hG⟩;rw[CP hsem hop,Sem.run_bind,hr,Result.andThen_ok];rfl
end
section
def dB(a:Acc)(y:S3)(b:Nat):Array Value:=((Ax 0 0 (Bg.bare true [] 0 a []) (NX.mk s30 y s30 s30 s30 s30 (λ_=>s30) (some b))).toList.drop 6).toArray
variable{g:Gh}{i nb ob:Nat}{ls:List Let}{p:Nod}{ts:List Tol}{w:World}
theorem AP(i:Nat)(hg:∀ b,w.heap.size<=b->g.t b=.z/\g.k b=0)(a:Acc)(y:S3) :
  Calls prog 22 #[.agg #[iv a.p.r,iv a.p.n,S3.v y]] w λe w'=>∃ (b:Nat) (g':Gh),e=.returned (.agg (dB a y b))/\AskAt g' w' (.n 5 i) b (λ_=>none)/\(∀ b,w'.heap.size<=b->g'.t b=.z/\g'.k b=0)/\Cg w.heap.size [] g w g' w':=by
 refine gI (fn:=f22) [] g func22 hg ?_;refine qR [] 8 [0,0,1,0,0] λs1 g1 w1 c1=>?_;refine aI 1 5 i (by kernel_rfl) (by kernel_rfl) ?_;intro mb g2 w2 hmb A2 cc2 n2;have c2:=cc2 w.heap.size [];refine qR [] 3 [1,0] λs3 g3 w3 c3=>?_;exact qE1 2 90 1 (s1 1) (dB a y mb) λK=>⟨mb,_,rfl,(A2.ch c3),K.new,((c1.trans c2).trans c3)⟩
theorem Pends.nil(g:Gh)(w:World)(nb:Nat):Pends g w nb [] []:=⟨rfl,λk v q h=>by cases h⟩
theorem U7(h:NS i nb ob g w p ls ts)(k:Int)(hk1:-9223372036854775808<=k)(hk2:k<=9223372036854775807) :
  Calls prog 28 #[pt nb 0,iv k] w (NP i nb ob g w (.tuple #[]) (if p.up then p.crash k else p) ls ts):=by
 obtain⟨x,lt,tl,hN,hO,hg⟩:=h;refine gI (fn:=f28) (TN i) g func28 hg ?_;refine qN hN ?_;refine qO hO ?_;refine qR [] 9 [0] λs1 g1 w1 c1=>?_;by_cases h1:p.up=true
 .refine qI ((!p.up)) false (by simpa using h1) ?_;rw[if_pos h1];refine qR [] 8 [0] λs2 g2 w2 c2=>?_;refine Ae λKq=>?_;have hS:=(hN.tape.ch (c1.trans c2)).s;have hG:∀ z,w2.heap.size<=z->g2.t z=.z:=λz hz=>(Kq.new z hz).1;refine qC 5 (U6 (s:=p.sy) (k:=k) hS hk1 hk2) ?_;rintro e' w3 ⟨tz,rfl,hy3,hn3,b3⟩;refine⟨_,rfl,b3,?_⟩;have c3:=Cg.ofBelow (B:=w.heap.size) (T:=[]) (g:=g2) b3;have htn:=Im hy3;have hts:FSl _ _ tz _:=⟨hy3,λhl a ha=>hG _ (hn3 hl a ha)⟩;refine qR [] 13 [0,0,2,0] λs4 g4 w4 c4=>?_;by_cases h2:KS p.d p.sy k≠0
  .refine qI (((KS p.d p.sy k) != 0)) true (by simpa using h2) ?_;refine qE (.tuple #[]) λK=>?_;rw[show p.crash k=p from if_pos h2];exact⟨_,rfl,(nsC hN hO (((c1.n c2).n c3).n c4) K),((((c1.nil (TN i)).n c2).n c3).n c4)⟩
  .refine qI (((KS p.d p.sy k) != 0)) false (by simpa using h2) ?_;refine qR [] 8 [7,0,2,4,8,10,12] λs7 g7 w7 c7=>?_;refine BG 33 (λg' w' e L=>e=[(0,pt nb 0)]/\L=[⟨nb,.cells (Ax i ob (p.bare false (Nv p.d p.sy k) (Nx p.d p.sy k) DL []) (NX.mk tz s30 s30 s30 s30 s30 (λ_=>s30) none)) 95,.n 0 i,false⟩,⟨ob,.cells #[S3.v lt,S3.v tl] 65,.n 50 0,false⟩,⟨(s4 0),.cells #[S3.v tz,iv (Nx p.d p.sy k)] 93,.z,false⟩]/\True/\Cg w.heap.size ([.n 0 i]:List Tg) g7 w7 g' w') (by kernel_rfl) ?_ ?_
   .intro J hJ
    (exact Cu 3 7 (by kernel_rfl) (by(refine qR [.n 0 i] 9 [2,15,0,1,16,18,21,0,1,22,24,27,0,1] λs10 g10 w10 c10=>?_;exact qB [true,true,true] λz K0 K=>hJ _ _ _ z _ ⟨rfl,rfl,trivial,c10⟩ K)) (by(refine qR [.n 0 i] 9 [0,1,7,2,16,18,21,0,1,22,24,27,0,1] λs11 g11 w11 c11=>?_;exact qB [true,true,true] λz K0 K=>hJ _ _ _ z _ ⟨rfl,rfl,trivial,c11⟩ K)))
   rintro g8 w8 _ z8 _ ⟨rfl,rfl,_,c8⟩;refine qE (.tuple #[]) λK=>?_;rw[show p.crash k=(p.bare false (Nv p.d p.sy k) (Nx p.d p.sy k) DL [])from if_neg h2];exact⟨_,rfl,⟨(NX.mk tz s30 s30 s30 s30 s30 (λ_=>s30) none),lt,tl,K.nd 0 (((hts.ch c4).ch c7).ch c8) ⟨Sv.nil _,λh=>absurd rfl h⟩ (λ_ _=>⟨Sv.nil _,λh=>absurd rfl h⟩) ⟨[],OwnS.nil _ _ _ _ _ _,Pends.nil _ _ _⟩ (OwnS.nil _ _ _ _ _ _) (OwnS.nil _ _ _ _ _ _) (OwnS.nil _ _ _ _ _ _) rfl (λh=>by cases h),hO.ch ((((((c1.nil ([.n 0 i]:List Tg)).n c2).n c3).n c4).n c7).trans (c8)) (hn:=by simp<;>omega),K.new⟩,((((((c1.nil (TN i)).n c2).n c3).n c4).n c7).trans (c8.mono (by simp[TN])))⟩
 .refine qI ((!p.up)) true (by simpa using h1) ?_;refine qE (.tuple #[]) λK=>?_;rw[if_neg h1];exact⟨_,rfl,(nsC hN hO c1 K),(c1.nil (TN i))⟩
def nx0(b:Nat):NX:=NX.mk s30 s30 s30 s30 s30 s30 (λ_=>s30) (some b)
theorem Oh{b:Nat}(hr:w.heap[nb]?=some (.cells (Ax i ob Bg (nx0 b)) 95))(ht:g.t nb=.n 0 i)(hk:g.k nb=0)(hA:AskAt g w (.n 5 i) b (λ_=>none)):NodeAt g w i nb ob (nx0 b) Bg :=
 ⟨hr,ht,hk,⟨⟨⟨none,0,rfl,A' _,λ_=>rfl,.inl rfl⟩,by simp[Bg],by simp[Bg]⟩,λh=>absurd rfl h⟩,⟨Sv.nil _,λh=>absurd rfl h⟩,λ_ _=>⟨Sv.nil _,λh=>absurd rfl h⟩,⟨[],OwnS.nil _ _ _ _ _ _,Pends.nil _ _ _⟩,OwnS.nil _ _ _ _ _ _,OwnS.nil _ _ _ _ _ _,OwnS.nil _ _ _ _ _ _,hA,λ_=>⟨b,rfl⟩⟩
def nbF(a b c d e:Nat):Nat->Nat
 | 0=>a
 | 1=>b
 | 2=>c
 | 3=>d
 | _=>e
theorem Ke(hg:∀ b,w.heap.size<=b->g.t b=.z/\g.k b=0) :
  Calls prog 13 #[] w λe w'=>∃ (mb tb ob:Nat) (nb:Nat->Nat) (g':Gh),e=.returned (pt mb 0)/\MS mb tb ob nb g' w' Cb/\Cg w.heap.size [.n 70 0] g w g' w':=by
 refine gI (fn:=f13) [.n 70 0] g func13 hg ?_;refine qR [] 8 [52,0] λs1 g1 w1 c1=>?_;refine Ae λK=>?_;refine qG 2 [.n 70 0] [true] (QR K.new) ?_;rintro e' w2 ⟨tb,g2,rfl,A2,n2,c2⟩;refine⟨_,g2,rfl,c2,n2,?_⟩;replace c2:=c2.ret (B:=w.heap.size);refine qR [] 10 [1,0] λs3 g3 w3 c3=>?_;refine Zt 5 27 [(1,pt (s3 0) 0),(8,iv 0)] [true,true] [⟨(s1 0),.cells #[sn,sn] 65,.n 50 0,false⟩,⟨(s3 0),.cells #[.pointer none,.pointer none,.pointer none,.pointer none,.pointer none,pt (s1 0) 0,.map (some tb)] 71,.l,false⟩] (by kernel_rfl) (by kernel_rfl) (by kernel_rfl) (by kernel_rfl) λJ4 hJ4 z=>?_;refine qR [] 25 [14,0,2,4,6,8,10,12,1,14,22,24] λs5 g5 w5 c5=>?_;refine Ae λK=>?_;refine qG 8 [] [true,true] (AP 0 K.new DL s30) ?_;rintro e' w6 ⟨b6,g6,rfl,A6,n6,c6⟩;refine⟨_,g6,rfl,c6,n6,?_⟩;replace c6:=c6.ret (B:=w.heap.size);refine qR [] 10 [18,21,2,0,26,29,1,0] λs7 g7 w7 c7=>?_;refine DA (J4 5) 27 [(1,pt (s3 0) 0),(8,iv 1)] [true,true,true] [⟨(s1 0),.cells #[sn,sn] 65,.n 50 0,false⟩,⟨(s3 0),.cells #[pt (s7 0) 0,.pointer none,.pointer none,.pointer none,.pointer none,pt (s1 0) 0,.map (some tb)] 71,.l,false⟩,⟨(s7 0),.cells (Ax 0 (s1 0) Bg (nx0 b6)) 95,.n 0 0,false⟩] (by kernel_rfl) (by kernel_rfl) (by kernel_rfl) (by kernel_rfl) (by kernel_rfl) λz K0 K=>hJ4 4 _ _ _ _ _ ?_ K;refine qR [] 25 [14,0,2,4,6,8,10,12,1,14,22,24] λs8 g8 w8 c8=>?_;refine Ae λK=>?_;refine qG 8 [] [true,true,true] (AP 1 K.new DL s30) ?_;rintro e' w9 ⟨b9,g9,rfl,A9,n9,c9⟩;refine⟨_,g9,rfl,c9,n9,?_⟩;replace c9:=c9.ret (B:=w.heap.size);refine qR [] 10 [18,21,2,1,26,29,1,0] λs10 g10 w10 c10=>?_;refine DA (J4 4) 27 [(1,pt (s3 0) 0),(8,iv 2)] [true,true,true,true] [⟨(s1 0),.cells #[sn,sn] 65,.n 50 0,false⟩,⟨(s3 0),.cells #[pt (s7 0) 0,pt (s10 0) 0,.pointer none,.pointer none,.pointer none,pt (s1 0) 0,.map (some tb)] 71,.l,false⟩,⟨(s7 0),.cells (Ax 0 (s1 0) Bg (nx0 b6)) 95,.n 0 0,false⟩,⟨(s10 0),.cells (Ax 1 (s1 0) Bg (nx0 b9)) 95,.n 0 1,false⟩] (by kernel_rfl) (by kernel_rfl) (by kernel_rfl) (by kernel_rfl) (by kernel_rfl) λz K0 K=>hJ4 3 _ _ _ _ _ ?_ K;refine qR [] 25 [14,0,2,4,6,8,10,12,1,14,22,24] λs11 g11 w11 c11=>?_;refine Ae λK=>?_;refine qG 8 [] [true,true,true,true] (AP 2 K.new DL s30) ?_;rintro e' w12 ⟨b12,g12,rfl,A12,n12,c12⟩;refine⟨_,g12,rfl,c12,n12,?_⟩;replace c12:=c12.ret (B:=w.heap.size);refine qR [] 10 [18,21,2,2,26,29,1,0] λs13 g13 w13 c13=>?_;refine DA (J4 3) 27 [(1,pt (s3 0) 0),(8,iv 3)] [true,true,true,true,true] [⟨(s1 0),.cells #[sn,sn] 65,.n 50 0,false⟩,⟨(s3 0),.cells #[pt (s7 0) 0,pt (s10 0) 0,pt (s13 0) 0,.pointer none,.pointer none,pt (s1 0) 0,.map (some tb)] 71,.l,false⟩,⟨(s7 0),.cells (Ax 0 (s1 0) Bg (nx0 b6)) 95,.n 0 0,false⟩,⟨(s10 0),.cells (Ax 1 (s1 0) Bg (nx0 b9)) 95,.n 0 1,false⟩,⟨(s13 0),.cells (Ax 2 (s1 0) Bg (nx0 b12)) 95,.n 0 2,false⟩] (by kernel_rfl) (by kernel_rfl) (by kernel_rfl) (by kernel_rfl) (by kernel_rfl) λz K0 K=>hJ4 2 _ _ _ _ _ ?_ K;refine qR [] 25 [14,0,2,4,6,8,10,12,1,14,22,24] λs14 g14 w14 c14=>?_;refine Ae λK=>?_;refine qG 8 [] [true,true,true,true,true] (AP 3 K.new DL s30) ?_;rintro e' w15 ⟨b15,g15,rfl,A15,n15,c15⟩;refine⟨_,g15,rfl,c15,n15,?_⟩;replace c15:=c15.ret (B:=w.heap.size);refine qR [] 10 [18,21,2,3,26,29,1,0] λs16 g16 w16 c16=>?_;refine DA (J4 2) 27 [(1,pt (s3 0) 0),(8,iv 4)] [true,true,true,true,true,true] [⟨(s1 0),.cells #[sn,sn] 65,.n 50 0,false⟩,⟨(s3 0),.cells #[pt (s7 0) 0,pt (s10 0) 0,pt (s13 0) 0,pt (s16 0) 0,.pointer none,pt (s1 0) 0,.map (some tb)] 71,.l,false⟩,⟨(s7 0),.cells (Ax 0 (s1 0) Bg (nx0 b6)) 95,.n 0 0,false⟩,⟨(s10 0),.cells (Ax 1 (s1 0) Bg (nx0 b9)) 95,.n 0 1,false⟩,⟨(s13 0),.cells (Ax 2 (s1 0) Bg (nx0 b12)) 95,.n 0 2,false⟩,⟨(s16 0),.cells (Ax 3 (s1 0) Bg (nx0 b15)) 95,.n 0 3,false⟩] (by kernel_rfl) (by kernel_rfl) (by kernel_rfl) (by kernel_rfl) (by kernel_rfl) λz K0 K=>hJ4 1 _ _ _ _ _ ?_ K;refine qR [] 25 [14,0,2,4,6,8,10,12,1,14,22,24] λs17 g17 w17 c17=>?_;refine Ae λK=>?_;refine qG 8 [] [true,true,true,true,true,true] (AP 4 K.new DL s30) ?_;rintro e' w18 ⟨b18,g18,rfl,A18,n18,c18⟩;refine⟨_,g18,rfl,c18,n18,?_⟩;replace c18:=c18.ret (B:=w.heap.size);refine qR [] 10 [18,21,2,4,26,29,1,0] λs19 g19 w19 c19=>?_;refine DA (J4 1) 27 [(1,pt (s3 0) 0),(8,iv 5)] [true,true,true,true,true,true,true] [⟨(s1 0),.cells #[sn,sn] 65,.n 50 0,false⟩,⟨(s3 0),.cells #[pt (s7 0) 0,pt (s10 0) 0,pt (s13 0) 0,pt (s16 0) 0,pt (s19 0) 0,pt (s1 0) 0,.map (some tb)] 71,.l,false⟩,⟨(s7 0),.cells (Ax 0 (s1 0) Bg (nx0 b6)) 95,.n 0 0,false⟩,⟨(s10 0),.cells (Ax 1 (s1 0) Bg (nx0 b9)) 95,.n 0 1,false⟩,⟨(s13 0),.cells (Ax 2 (s1 0) Bg (nx0 b12)) 95,.n 0 2,false⟩,⟨(s16 0),.cells (Ax 3 (s1 0) Bg (nx0 b15)) 95,.n 0 3,false⟩,⟨(s19 0),.cells (Ax 4 (s1 0) Bg (nx0 b18)) 95,.n 0 4,false⟩] (by kernel_rfl) (by kernel_rfl) (by kernel_rfl) (by kernel_rfl) (by kernel_rfl) λz K0 K=>hJ4 0 _ _ _ _ _ ?_ K;refine qR [] 12 [] λs20 g20 w20 c20=>?_;refine dp 1 (s3 0) (by kernel_rfl) λg21 c21=>?_;refine qE (pt (s3 0) 0) λK=>⟨(s3 0),tb,(s1 0),(nbF (s7 0) (s10 0) (s13 0) (s16 0) (s19 0)),_,rfl,?_,((((((((((((((((((((c1.nil [.n 70 0]).trans c2).n c3).n c5).n c6).n c7).n c8).n c9).n c10).n c11).n c12).n c13).n c14).n c15).n c16).n c17).n c18).n c19).n c20).n c21)⟩;obtain⟨z1,z2⟩:=K.isZ 1 (s3 0) (.cells (mtA (nbF (s7 0) (s10 0) (s13 0) (s16 0) (s19 0)) (s1 0) tb) 71) false (by kernel_rfl);obtain⟨o1,o2,o3⟩:=K.isN 0 (s1 0) (.cells #[S3.v s30,S3.v s30] 65) 50 0 (by kernel_rfl);obtain⟨q0,r0,t0⟩:=K.isN 2 (s7 0) (.cells (Ax 0 (s1 0) Bg (nx0 b6)) 95) 0 0 (by kernel_rfl);obtain⟨q1,r1,t1⟩:=K.isN 3 (s10 0) (.cells (Ax 1 (s1 0) Bg (nx0 b9)) 95) 0 1 (by kernel_rfl);obtain⟨q2,r2,t2⟩:=K.isN 4 (s13 0) (.cells (Ax 2 (s1 0) Bg (nx0 b12)) 95) 0 2 (by kernel_rfl);obtain⟨q3,r3,t3⟩:=K.isN 5 (s16 0) (.cells (Ax 3 (s1 0) Bg (nx0 b15)) 95) 0 3 (by kernel_rfl);obtain⟨q4,r4,t4⟩:=K.isN 6 (s19 0) (.cells (Ax 4 (s1 0) Bg (nx0 b18)) 95) 0 4 (by kernel_rfl);refine⟨⟨z1,z2⟩,((((((((((((((((((A2.ch c3).ch c5).ch c6).ch c7).ch c8).ch c9).ch c10).ch c11).ch c12).ch c13).ch c14).ch c15).ch c16).ch c17).ch c18).ch c19).ch c20).ch c21),λi hi=>?_,⟨s30,s30,o1,o2,o3,⟨[],OwnS.nil _ _ _ _ _ _,⟨rfl,λk b m h=>(by cases h)⟩⟩,OwnS.nil _ _ _ _ _ _⟩,K.new⟩;rcases five hi with rfl|rfl|rfl|rfl|rfl
 .exact⟨_,Oh q0 r0 t0 (((((((((((((((A6.ch c7).ch c8).ch c9).ch c10).ch c11).ch c12).ch c13).ch c14).ch c15).ch c16).ch c17).ch c18).ch c19).ch c20).ch c21)⟩
 .exact⟨_,Oh q1 r1 t1 ((((((((((((A9.ch c10).ch c11).ch c12).ch c13).ch c14).ch c15).ch c16).ch c17).ch c18).ch c19).ch c20).ch c21)⟩
 .exact⟨_,Oh q2 r2 t2 (((((((((A12.ch c13).ch c14).ch c15).ch c16).ch c17).ch c18).ch c19).ch c20).ch c21)⟩
 .exact⟨_,Oh q3 r3 t3 ((((((A15.ch c16).ch c17).ch c18).ch c19).ch c20).ch c21)⟩
 .exact⟨_,Oh q4 r4 t4 (((A18.ch c19).ch c20).ch c21)⟩
theorem Xd(h:NS i nb ob g w p ls ts)(hup:p.up=true)(hw:p.wants.length<100000000)(c:Cmd) :
  Calls prog 52 #[pt nb 0,.agg #[iv c.k,iv c.c,iv c.s,iv c.n,iv c.v]] w (NP i nb ob g w (.tuple #[]) (p.want c) ls ts):=by
 obtain⟨x,lt,tl,hN,hO,hg⟩:=h;obtain⟨mb,hmb⟩:=hN.upm hup;obtain⟨x0,rfl⟩:∃ x0:NX,x={ x0 with asked:=some mb }:=⟨x,by cases x;simp only at hmb;subst hmb;rfl⟩;clear hmb;have hA:AskAt g w (.n 5 i) mb p.asked:=hN.askSome rfl;refine gI (fn:=f52) (TN i) g func52 hg ?_;refine qN hN ?_;refine qO hO ?_;obtain⟨ht5,hk5,es,ck,hr5,hes⟩:=id hA;refine GD mb _ 5 i hr5 ht5 hk5 (by kernel_rfl) ?_;refine qR [] 13 [0,0,13,0,2,4,6,8,0,10,3] λs1 g1 w1 c1=>?_;refine qU 6 (.tuple #[.agg #[iv ((p.asked c).getD Cr).r,iv ((p.asked c).getD Cr).n],.bool (p.asked c).isSome]) (λW hW=>(Wb (g:=g) (τ:=.n 5 i) (b:=mb) (f:=p.asked) ⟨ht5,hk5,es,ck,AJ.at (hW rfl) 2 mb (.map (es.map mkA).toArray ck) (.n 5 i) (by kernel_rfl),hes⟩ c)) ?_;refine qR [] 11 [14,16,18,21,0,0,23,4,0,24] λs2 g2 w2 c2=>?_;by_cases h1:(p.asked c).isSome=true
 .refine qI ((p.asked c).isSome) true h1 ?_;refine qE (.tuple #[]) λK=>?_;rw[show p.want c=p from if_pos h1];have C4:=c1.n c2;exact⟨_,rfl,⟨({ x0 with asked:=some mb }:NX),lt,tl,hN.ch C4,hO.ch C4,K.new⟩,((c1.nil (TN i)).n c2)⟩
 .refine qI ((p.asked c).isSome) false (by simpa using h1) ?_;refine GE [true,true,false,true,true] ?_;have hwn:x0.wants.n=p.wants.length:=hN.wants.num;refine qR [] 11 [12,0,2,4,6,8,10,0,12,2,15,0,0] λs5 g5 w5 c5=>?_;refine IX 8 (x:=({ x0 with asked:=some mb }:NX).wants) 37 37 53 5 40 (.agg #[iv 0,iv 0,iv 0,iv 0,iv 0]) ⟨(s5 0),0,none⟩ 1 1 [iv c.k,iv c.c,iv c.s,iv c.n,iv c.v] (hN.wants.ch ((c1.trans c2).trans c5) (by simp) (by simp)) (by kernel_rfl) (by kernel_rfl) (by kernel_rfl) underlying37 (by kernel_rfl) (by kernel_rfl) (by decide) (by decide) rfl (by simp[Value.oneCell']) (λK=>BL K 4 (s5 0) [iv c.k,iv c.c,iv c.s,iv c.n,iv c.v] 53 .z true (by kernel_rfl)) (by show x0.wants.n+1<=_;unfold maxLen;omega) (by show(x0.wants.n+1)*40<=_;omega) ?_;intro y6 g6 w6 a6 n6 cc6 G6;have c6:=cc6 w.heap.size [.n 4 i] (O'.2 rfl);refine qR [.n 0 i] 13 [18,20,22,25,0,1,8,0,2,4,6,8,0,10,2,12] λs7 g7 w7 c7=>?_;refine Rp 7 (τ:=.n 5 i) (b:=mb) c Cr (((((hA.ch c1).ch c2).ch c5).ch c6).ch c7) (by kernel_rfl) (by kernel_rfl) (by kernel_rfl) ?_;intro w8 A8 cc8;have c8:=cc8 w.heap.size [.n 5 i] (O'.2 rfl);refine qR [] 1 [] λs9 g9 w9 c9=>?_;refine qE (.tuple #[]) λK=>?_;rw[show p.want c={ p with wants:=p.wants++[c],asked:=DU p.asked c (some Cr) }from if_neg h1];have C10:=((((((c1.nil ([.n 4 i,.n 0 i,.n 5 i]:List Tg)).n c2).n c5).m c6).m c7).m c8).n c9;have Z10:Tg.z∉([.n 4 i,.n 0 i,.n 5 i]:List Tg):=by simp
  exact⟨_,rfl,⟨({ x0 with asked:=some mb,wants:=y6 }:NX),lt,tl,K.nd 0 (hN.tape.ch C10 Z10) (hN.votes.ch C10 Z10) (Ba hN.heard C10 Z10) (B0 hN.pend C10 Z10 (by simp)) (hN.queue.ch C10) (hN.agreed.ch C10) (by rw[BK];exact(((a6.ch c7).ch c8).ch c9)) (A8.ch c9) (λ_=>⟨mb,rfl⟩),hO.ch C10 Z10 (by simp<;>omega),K.new⟩,(((((((c1.nil (TN i)).n c2).n c5).trans (c6.mono (by simp[TN]))).trans (c7.mono (by simp[TN]))).trans (c8.mono (by simp[TN]))).n c9)⟩
end
end
end Go.Proofs.YtalbmmghmoggcabGreatDoor
