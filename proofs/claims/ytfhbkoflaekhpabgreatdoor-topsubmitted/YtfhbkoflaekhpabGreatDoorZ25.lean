/- Part 25 of the walk. -/
import Derived.Test.YtfhbkoflaekhpabGreatDoorZ24
set_option maxRecDepth 100000
set_option maxHeartbeats 4000000
open Go.Proofs.Tryz
set_option linter.unusedVariables false
namespace Go.Proofs.YtfhbkoflaekhpabGreatDoor
section
def paE(n tc tr tu k c s m v:Int):Int:=if ¬ (0≤n∧n<1073741824)then 2 else if LZ tc tr tu≠0 then LZ tc tr tu else AY k c s m v
def paP(tc tr tu k c s m v:Int):List Int:=JG Gg tc tr tu++Dp k c s m v
def paL(n tc tr tu k c s m v:Int):List Int:=if paE n tc tr tu k c s m v=0 then c::J7 (Gi c) n (paP tc tr tu k c s m v)else[]
theorem Xc{n tc tr tu k c s m v:Int}(h:paE n tc tr tu k c s m v=0):(0≤n∧n<1073741824)∧CQ tc tr tu∧AY k c s m v=0:=by
 unfold paE at h;split at h
 ·cases h
 ·rename_i g1
  split at h
  ·rename_i g;exact absurd h g
  ·rename_i g2
   refine⟨Decidable.not_not.1 g1,?_,h⟩;have g3:=Decidable.not_not.1 g2;unfold LZ at g3;split at g3
   ·assumption
   ·cases g3
theorem dE{n tc tr tu k c s m v:Int}(h1:0≤n∧n<1073741824)(h2:LZ tc tr tu=0):paE n tc tr tu k c s m v=AY k c s m v:=by
 unfold paE;rw[if_neg (fun g=>g h1),if_neg (fun g=>g h2)]
theorem Xd{n tc tr tu k c s m v:Int}(h:paE n tc tr tu k c s m v=0):paL n tc tr tu k c s m v=c::J7 (Gi c) n (paP tc tr tu k c s m v):=if_pos h
theorem GM(tc tr tu k c s m v:Int):(paP tc tr tu k c s m v).length=42:=by unfold paP;rw[List.length_append,DZ,DP]
theorem X8{c n:Int}{p:List Int}(h0:0≤n)(h1:n<1073741824)(hp:p.length=42):DE (Gi c) n 0 noB p=0:=by
 unfold DE;rw[if_neg (fun g=>g (OkC.new (Fy c) n h0 (by omega))),if_neg (by omega),if_neg (by omega)]
end
section
open Go.RowKit
theorem Wb{x:S3}{tc tr tu:Int}{w:World}(hk:Sl w x.v Gg)(ht:AC w)(h:CQ tc tr tu) :
  Calls prog 56 #[x.v,.agg #[iv tc,iv tr,iv tu]] w fun e w'=>∃ y:S3,e=.returned (.tuple #[y.v,iv 0])∧Sl w' y.v (JG Gg tc tr tu)∧Bw w w':=by
 refine(T5 x.v Gg tc tr tu w hk ht).mono ?_;have h9:LJ Gg tc tr tu=0:=by rw[OF IY];exact JQ h
 rintro e w' ⟨v,rfl,ho,hb⟩;rw[show OG Gg tc tr tu=JG Gg tc tr tu from if_pos h9]at ho
 rw[h9];obtain⟨y,rfl,hy⟩:=F5 ho (by rw[DZ];decide) (UI _ h);exact⟨y,rfl,hy,hb⟩
theorem Vl{x y:S3}{l m:List Int}{w:World}{e:TypeId}{g:Nat}(hr:w.heap[g]?=some (.cells #[x.v,y.v] e))(h0:Sl w x.v l)(h1:Sl w y.v m)(q0:l.length≤1000)(q1:m.length≤1000)(q3:0<l.length) :
  Calls prog 59 #[.slice (some ⟨g,0,none⟩) 2 2] w fun e w'=>∃ z:S3,e=.returned z.v∧Sl w' z.v (l++m)∧Nb w.heap.size z (l++m)∧Bw w w':=by
 refine(YB hr h0 h1 q0 q1 q3).mono ?_;rintro e w' ⟨v,rfl,ho,hb⟩;obtain⟨z,rfl,hz,hn⟩:=Ri ho (by rw[List.length_append];omega) (fun a ha=>(List.mem_append.1 ha).elim (h0.byte a) (h1.byte a));exact⟨z,rfl,hz,hn,hb⟩
theorem aq{x y:S3}{c n:Int}{p:List Int}{w:World}(hk:Sl w x.v (Gi c))(hp:Sl w y.v p)(ht:Cq w)(h0:0≤n)(h1:n<1073741824)(hl:p.length=42) :
  Calls prog 58 #[.agg #[x.v,iv n,iv 0,.bool false,.bool false,.bool false,.bool false,.bool false,.bool false,.bool false,.bool false],y.v] w fun e w'=>∃ u z:S3,e=.returned (.tuple #[.agg #[u.v,iv (n+1),iv 0,.bool false,.bool false,.bool false,.bool false,.bool false,.bool false,.bool false,.bool false],z.v,iv 0])∧Sl w' z.v (J7 (Gi c) n p)∧Bw w w':=by
 refine(aw x.v (Gi c) n 0 noB y.v p w hk rfl hp ht (X8 h0 h1 hl)).mono ?_;rintro e w' ⟨v1,v2,rfl,h2,_,ho,hb⟩;obtain⟨u,rfl,_⟩:=SE h2;obtain⟨z,rfl,hz⟩:=F5 ho (by rw[FA];omega) (Uk _ _ hp.byte);exact⟨u,z,rfl,hz,hb⟩
theorem ZK{n tc tr tu k c s m v:Int}{w:World}(h:paE n tc tr tu k c s m v=0)(hT:Tabs w) :
  Calls prog 28 #[iv n,.agg #[iv tc,iv tr,iv tu],.agg #[iv k,iv c,iv s,iv m,iv v]] w fun e w'=>∃ y:S3,e=.returned (.tuple #[y.v,iv 0])∧Sl w' y.v (paL n tc tr tu k c s m v)∧Nb w.heap.size y (paL n tc tr tu k c s m v)∧Bw w w':=by
 obtain⟨hn,hB,hC⟩:=Xc h;have hc:=(Es hC).2;unfold InC at hc;rw[Xd h];refine kIn func28 ?_;refine kR 11 [0,0,0,0] fun σ1 w1 b1=>?_;refine kV 1 (.bool false) (rLt (x:=(.tmp 14)) (y:=(.const (iv 0))) (t:=3) (m:=n) (n:=0) (decide_eq_false (by omega))) ?_;refine kR 2 [] fun σ2 w2 b2=>?_;refine kV 4 (.bool false) (rGe (x:=(.tmp 17)) (y:=(.const (iv 1073741824))) (t:=3) (m:=n) (n:=1073741824) (decide_eq_false (by omega))) ?_;refine kR 7 [8,2,0] fun σ3 w3 b3=>?_;have B4:=(btr (btr b1 b2) b3);refine kC 0 (I0 (hT.t.below B4)) ?_;rintro _ w5 ⟨yi,rfl,hyi,b5⟩;refine⟨_,rfl,b5,?_⟩;have B7:=(btr B4 b5);refine kC 2 (Wb hyi (hT.t.below B7) hB) ?_;rintro _ w8 ⟨yt,rfl,hyt,b8⟩;refine⟨_,rfl,b8,?_⟩;refine kR 17 [6,8,10,12,14,1] fun σ9 w9 b9=>?_;have B10:=(btr (btr B7 b8) b9);refine kC 1 (VH (m:=⟨k,c,s,m,v⟩) (hT.n.below B10) hC) ?_;rintro _ w11 ⟨yc,rfl,hyc,b11⟩;refine⟨_,rfl,b11,?_⟩;refine kR 18 [1] fun σ12 w12 b12=>?_;have B13:=(btr (btr B10 b11) b12);refine kC 2 (Wr (c:=c) (by omega) (hT.t.below B13) (if_pos (by omega))) ?_;rintro _ w14 ⟨yk,rfl,hyk,b14⟩;refine⟨_,rfl,b14,?_⟩;replace hyk:=hyk rfl;refine kR 22 [0,0] fun σ15 w15 b15=>?_;refine Af fun K=>?_;refine kC 6 (Vl (K.ats 2 (σ15 0) _ 38 .z true (by kernel_rfl)) (((((hyt.below b9).below b11).below b12).below b14).below b15) (((hyc.below b12).below b14).below b15) (by rw[DZ];decide) (by rw[DP];decide) (by rw[DZ];decide)) ?_;rintro _ w16 ⟨yp,rfl,hyp,_,b16⟩;refine⟨_,rfl,b16,?_⟩;have B18:=(btr (btr (btr B13 b14) b15) b16);refine kC 7 (aq ((hyk.below b15).below b16) hyp (hT.q.below hT.q.pos B18) hn.1 hn.2 (GM tc tr tu k c s m v)) ?_;rintro _ w19 ⟨u,z,rfl,hz,b19⟩;refine⟨_,rfl,b19,?_⟩;refine kR 21 [0,0,3,0,1] fun σ20 w20 b20=>?_;refine kV 2 (.int .u8 c) (bH (P:=prog) (src:=3) (dst:=5) (k:=.i64) (n:=c) (by kernel_rfl) underlying5 (by kernel_rfl) (by rw[IntKind.wrap_u8];omega)) ?_;refine kR 3 [0,0,0,0] fun σ21 w21 b21=>?_;refine Af fun K=>?_;have hc1:Sl w21 (S3.v ⟨some ⟨(σ21 0),0,none⟩,1,1⟩) [c]:=Sl.ofRow (l:=[c]) (K.ats 4 (σ21 0) _ 5 .z true (by kernel_rfl)) (by show 1≤_;decide) (fun a ha=>by rw[List.mem_singleton.1 ha];omega);have B22:=(btr (btr (btr B18 b19) b20) b21);refine kC 6 (Vl (x:=⟨some ⟨(σ21 0),0,none⟩,1,1⟩) (K.ats 5 (σ21 1) _ 38 .z true (by kernel_rfl)) hc1 ((hz.below b20).below b21) (by show 1≤1000;decide) (by rw[FA];show(paP tc tr tu k c s m v).length+20≤1000;rw[GM];decide) (by show 0<1;decide)) ?_;rintro _ w23 ⟨y,rfl,hy,hw,b23⟩;refine⟨_,rfl,b23,?_⟩;refine kR 3 [] fun σ24 w24 b24=>?_;have B25:=(btr (btr B22 b23) b24);exact kE (.tuple #[S3.v y,iv 0]) ⟨y,rfl,(hy.below b24),hw.mono B22.size,B25⟩
end
section
structure Gr where
 k:Int
 a:Int
 b:Int
 c:Int
 d:Int
def pkT(g:Gr):Int:=if pick g.d 17=16 then(pick g.c 4+1)%4 else pick g.c 4
def pkR(g:Gr):Int:=if pick g.d 17=15 then 0 else 7
def pkP(g:Gr):List Int:=paL (pick g.a 1000) (pkT g) (pkR g) 60 (wK g.b) (pick g.c 4) (pick g.d 6) (pick g.a 4) (wV g.b g.d)
theorem Xj(g:Gr):paE (pick g.a 1000) (pkT g) (pkR g) 60 (wK g.b) (pick g.c 4) (pick g.d 6) (pick g.a 4) (wV g.b g.d)=0:=by
 have h1:=Bj g.a 1000 (by omega);have h2:=Bj g.c 4 (by omega);have h3:=Bj g.d 6 (by omega);have hT:CQ (pkT g) (pkR g) 60:=by
  unfold CQ pkT pkR;refine⟨?_,?_,by omega⟩<;>split<;>omega
 rw[dE ⟨h1.1,by omega⟩ (JQ hT)];exact aY g.b g.a g.d _ _ (by omega) (by omega)
def pkB(g:Gr):List Int:=if pick g.d 23=22∧30<(pkP g).length then(pkP g).take 30 else pkP g
def acN(k:Int)(n:Int):Lac:=⟨k,n,0,0,[]⟩
def OB(g:Gr)(cr:Bool):Lac :=
 if pick g.k 24<3 then⟨1,pick g.a 5,0,0,pkB g⟩
 else if pick g.k 24<5 then acN 2 (pick g.a 5)
 else if pick g.k 24<14 then acN 3 (pick g.a 5)
 else if pick g.k 24=14 then⟨4,0,pick g.c 20,0,[]⟩
 else if pick g.k 24=15 then⟨5,0,pick g.c 20,0,[]⟩
 else if pick g.k 24=16 then⟨6,0,pick g.c 20,0,[]⟩
 else if pick g.k 24=17∧cr=true then⟨8,pick g.a 5,0,pick g.c 90,[]⟩
 else if pick g.k 24=18∧cr=true then acN 9 (pick g.a 5)
 else acN 7 0
def X2(s:Nat)(x:Lac):Lac:=if x.k=1∧6<s+1 then acN 7 0 else x
def eb(s:Nat)(x:Lac):Nat:=if x.k=1 then s+1 else s
def NJ(cr:Bool):Nat→List Gr→List Lac
 | _,[]=>[]
 | s,g::l=>X2 s (OB g cr)::NJ cr (eb s (OB g cr)) l
def scr(l:List Gr)(most:Nat)(cr:Bool):List Lac:=NJ cr 0 (l.take most)
def Ek:List Lac:=(List.range 5).map fun n:Nat=>acN 9 (n:Int)
def fe:List Lac:=(List.range 5).map (fun n:Nat=>acN 3 (n:Int))++[acN 7 0]
def Ch:Nat→List Lac
 | 0=>[]
 | m+1=>Ch m++fe
def Gk(m:Nat):List Lac:=Ek++Ch m
end
section
open Go.RowKit
section
variable{fn:Func}{R:Ending→World→Prop}{B:Nat}{T:List Tg}{g:Gh}{w:World}
theorem de{s:Xs}(i':Nat)(r i:Nat)(hsem:CX s i'=some (Instr.makeMap 105 none>>=fun v=>pure (.value v)))
  (hob:(nxt s i' undef s.L).o.map Ob.l'=(nxt s i' undef s.L).o.map Ob.r')
  (hk:∀ b g' w',w.heap.size≤b→AskAt g' w' (.n r i) b (fun _=>none)→(∀ B T,Cg B T g w g' w')→(∀ b,w'.heap.size≤b→g'.t b=.z∧g'.k b=0)→GG prog fn R B T (nxt s i' (.map (some b)) s.L).s g' w'):GG prog fn R B T s g w:=by
 refine Ky i' s.L hob (BH hsem) fun hK ops j o hop=>?_;have hr:(Instr.makeMap 105 none).run prog w=.ok (.map (some w.heap.size)) (w.alloc (.map #[] 0)):=by
  simp[Instr.makeMap,go_sem]
 have hC:∀ B T,Cg B T g w (Nm g w (.n r i) 0) (w.alloc (.map #[] 0)):=fun B T =>
  ⟨rfl,rfl,rfl,by simp,fun b hb=>.inl (if_neg (by omega)),fun b hb=>by show _≤(if b=w.heap.size then _ else g.k b);rw[if_neg (by omega)];exact Nat.le_refl _,fun b hb _ _=>if_neg (by omega),fun b hb _ _=>heap_alloc_old w _ hb,fun b hb j hj=>World.cell?_of_block (w:=w) (heap_alloc_old w _ hb)⟩
 have hG:∀ b,(w.alloc (.map #[] 0)).heap.size≤b→(Nm g w (.n r i) 0).t b=.z∧(Nm g w (.n r i) 0).k b=0:=fun b hb=>by
  have hb':w.heap.size+1≤b:=by simpa using hb
  show(if b=w.heap.size then _ else g.t b)=.z∧(if b=w.heap.size then _ else g.k b)=0;rw[if_neg (by omega),if_neg (by omega)];exact hK.new b (by omega)
 refine⟨.map (some w.heap.size),_,Nm g w (.n r i) 0,.inl ?_,hK.ch (hC _ []) hG (by simp),hk _ _ _ (Nat.le_refl _) ⟨if_pos rfl,if_pos rfl,[],0,heap_alloc_new _ _,fun x hx=>absurd hx List.not_mem_nil,List.nodup_nil,List.nodup_nil,fun _=>rfl⟩ hC hG⟩;rw[Db hsem hop,Sem.run_bind,hr,Result.andThen_ok];rfl
end
def fC(a:Acc)(y:S3)(b:Nat):Array Value:=((AA 0 0 (CO.bare true [] 0 a []) (NX.mk s30 y s30 s30 s30 s30 (fun _=>s30) (some b))).toList.drop 6).toArray
theorem AR{g:Gh}{w:World}(i:Nat)(hg:∀ b,w.heap.size≤b→g.t b=.z∧g.k b=0)(a:Acc)(y:S3) :
  Calls prog 33 #[.agg #[iv a.p.r,iv a.p.n,S3.v y]] w fun e w'=>∃ (b:Nat) (g':Gh),e=.returned (.agg (fC a y b))∧AskAt g' w' (.n 5 i) b (fun _=>none)∧(∀ b,w'.heap.size≤b→g'.t b=.z∧g'.k b=0)∧Cg w.heap.size [] g w g' w':=by
 refine gI (fn:=f33) [] g func33 hg ?_;refine qR [] 8 [0,0,1,0,0] fun s1 g1 w1 c1=>?_;refine de 1 5 i (by kernel_rfl) (by kernel_rfl) ?_;intro mb g2 w2 hmb A2 cc2 n2;have c2:=cc2 w.heap.size [];refine qR [] 3 [1,0] fun s3 g3 w3 c3=>?_;exact qE1 2 107 1 (s1 1) (fC a y mb) fun K=>⟨mb,_,rfl,(A2.ch c3),K.new,((c1.trans c2).trans c3)⟩
theorem Pends.nil(g:Gh)(w:World)(nb:Nat):Pends g w nb [] []:=⟨rfl,fun k v q h=>by cases h⟩
theorem Vz{g:Gh}{w:World}{i nb ob:Nat}{p:Nod}{ls:List Let}{ts:List Tol}(h:NS i nb ob g w p ls ts)(k:Int)(hk1:-9223372036854775808≤k)(hk2:k≤9223372036854775807) :
  Calls prog 39 #[pt nb 0,iv k] w (NP i nb ob g w (.tuple #[]) (if p.up then p.crash k else p) ls ts):=by
 obtain⟨x,lt,tl,hN,hO,hg⟩:=h;refine gI (fn:=f39) (TN i) g func39 hg ?_;refine qN hN ?_;refine qO hO ?_;refine qR [] 9 [0] fun s1 g1 w1 c1=>?_;by_cases h1:p.up=true
 ·refine qI ((!p.up)) false (by simpa using h1) ?_;rw[if_pos h1];refine qR [] 8 [0] fun s2 g2 w2 c2=>?_;refine Af fun Kq=>?_;have hS:=(hN.tape.ch (c1.trans c2)).s;have hG:∀ z,w2.heap.size≤z→g2.t z=.z:=fun z hz=>(Kq.new z hz).1;refine qC 5 (Vy (s:=p.sy) (k:=k) hS hk1 hk2) ?_;rintro e' w3 ⟨tz,rfl,hy3,hn3,b3⟩;refine⟨_,rfl,b3,?_⟩;have c3:=Cg.ofBelow (B:=w.heap.size) (T:=[]) (g:=g2) b3;have htn:=IE hy3;have hts:FSl _ _ tz _:=⟨hy3,fun hl a ha=>hG _ (hn3 hl a ha)⟩;refine qR [] 13 [0,0,2,0] fun s4 g4 w4 c4=>?_;by_cases h2:Ge p.d p.sy k≠0
  ·refine qI (((Ge p.d p.sy k) != 0)) true (by simpa using h2) ?_;refine qE (.tuple #[]) fun K=>?_;rw[show p.crash k=p from if_pos h2];exact⟨_,rfl,(nsC hN hO (((c1.n c2).n c3).n c4) K),((((c1.nil (TN i)).n c2).n c3).n c4)⟩
  ·refine qI (((Ge p.d p.sy k) != 0)) false (by simpa using h2) ?_;refine qR [] 8 [7,0,2,4,8,10,12] fun s7 g7 w7 c7=>?_;refine BM 33 (fun g' w' e L=>e=[(0,pt nb 0)]∧L=[⟨nb,.cells (AA i ob (p.bare false (Jx p.d p.sy k) (Jy p.d p.sy k) Eb []) (NX.mk tz s30 s30 s30 s30 s30 (fun _=>s30) none)) 112,.n 0 i,false⟩,⟨ob,.cells #[S3.v lt,S3.v tl] 82,.n 50 0,false⟩,⟨(s4 0),.cells #[S3.v tz,iv (Jy p.d p.sy k)] 110,.z,false⟩]∧True∧Cg w.heap.size ([.n 0 i]:List Tg) g7 w7 g' w') (by kernel_rfl) ?_ ?_
   ·intro J hJ
    (exact CE 3 7 (by kernel_rfl) (by(refine qR [.n 0 i] 9 [2,15,0,1,16,18,21,0,1,22,24,27,0,1] fun s10 g10 w10 c10=>?_;exact qB [true,true,true] fun z K0 K=>hJ _ _ _ z _ ⟨rfl,rfl,trivial,c10⟩ K)) (by(refine qR [.n 0 i] 9 [0,1,7,2,16,18,21,0,1,22,24,27,0,1] fun s11 g11 w11 c11=>?_;exact qB [true,true,true] fun z K0 K=>hJ _ _ _ z _ ⟨rfl,rfl,trivial,c11⟩ K)))
   rintro g8 w8 _ z8 _ ⟨rfl,rfl,_,c8⟩;refine qE (.tuple #[]) fun K=>?_;rw[show p.crash k=(p.bare false (Jx p.d p.sy k) (Jy p.d p.sy k) Eb [])from if_neg h2];exact⟨_,rfl,⟨(NX.mk tz s30 s30 s30 s30 s30 (fun _=>s30) none),lt,tl,K.nd 0 (((hts.ch c4).ch c7).ch c8) ⟨Sv.nil _,fun h=>absurd rfl h⟩ (fun _ _=>⟨Sv.nil _,fun h=>absurd rfl h⟩) ⟨[],OwnS.nil _ _ _ _ _ _,Pends.nil _ _ _⟩ (OwnS.nil _ _ _ _ _ _) (OwnS.nil _ _ _ _ _ _) (OwnS.nil _ _ _ _ _ _) rfl (fun h=>by cases h),hO.ch ((((((c1.nil ([.n 0 i]:List Tg)).n c2).n c3).n c4).n c7).trans (c8)) (hn:=by simp<;>omega),K.new⟩,((((((c1.nil (TN i)).n c2).n c3).n c4).n c7).trans (c8.mono (by simp[TN])))⟩
 ·refine qI ((!p.up)) true (by simpa using h1) ?_;refine qE (.tuple #[]) fun K=>?_;rw[if_neg h1];exact⟨_,rfl,(nsC hN hO c1 K),(c1.nil (TN i))⟩
def nx0(b:Nat):NX:=NX.mk s30 s30 s30 s30 s30 s30 (fun _=>s30) (some b)
theorem OV{g:Gh}{w:World}{i nb ob b:Nat}(hr:w.heap[nb]?=some (.cells (AA i ob CO (nx0 b)) 112))(ht:g.t nb=.n 0 i)(hk:g.k nb=0)(hA:AskAt g w (.n 5 i) b (fun _=>none)):NodeAt g w i nb ob (nx0 b) CO :=
 ⟨hr,ht,hk,⟨⟨⟨none,0,rfl,Nat.le_refl _,fun _=>rfl,.inl rfl⟩,by simp[CO],by simp[CO]⟩,fun h=>absurd rfl h⟩,⟨Sv.nil _,fun h=>absurd rfl h⟩,fun _ _=>⟨Sv.nil _,fun h=>absurd rfl h⟩,⟨[],OwnS.nil _ _ _ _ _ _,Pends.nil _ _ _⟩,OwnS.nil _ _ _ _ _ _,OwnS.nil _ _ _ _ _ _,OwnS.nil _ _ _ _ _ _,hA,fun _=>⟨b,rfl⟩⟩
def nbF(a b c d e:Nat):Nat→Nat
 | 0=>a
 | 1=>b
 | 2=>c
 | 3=>d
 | _=>e
theorem KF{g:Gh}{w:World}(hg:∀ b,w.heap.size≤b→g.t b=.z∧g.k b=0) :
  Calls prog 16 #[] w fun e w'=>∃ (mb tb ob:Nat) (nb:Nat→Nat) (g':Gh),e=.returned (pt mb 0)∧MS mb tb ob nb g' w' BR∧Cg w.heap.size [.n 70 0] g w g' w':=by
 refine gI (fn:=f16) [.n 70 0] g func16 hg ?_;refine qR [] 8 [52,0] fun s1 g1 w1 c1=>?_;refine Af fun K=>?_;refine qG 2 [.n 70 0] [true] (RH K.new) ?_;rintro e' w2 ⟨tb,g2,rfl,A2,n2,c2⟩;refine⟨_,g2,rfl,c2,n2,?_⟩;replace c2:=c2.ret (B:=w.heap.size);refine qR [] 10 [1,0] fun s3 g3 w3 c3=>?_;refine bC 5 27 [(1,pt (s3 0) 0),(8,iv 0)] [true,true] [⟨(s1 0),.cells #[sn,sn] 82,.n 50 0,false⟩,⟨(s3 0),.cells #[.pointer none,.pointer none,.pointer none,.pointer none,.pointer none,pt (s1 0) 0,.map (some tb)] 88,.l,false⟩] (by kernel_rfl) (by kernel_rfl) (by kernel_rfl) (by kernel_rfl) fun J4 hJ4 z=>?_;refine qR [] 25 [14,0,2,4,6,8,10,12,1,14,22,24] fun s5 g5 w5 c5=>?_;refine Af fun K=>?_;refine qG 8 [] [true,true] (AR 0 K.new Eb s30) ?_;rintro e' w6 ⟨b6,g6,rfl,A6,n6,c6⟩;refine⟨_,g6,rfl,c6,n6,?_⟩;replace c6:=c6.ret (B:=w.heap.size);refine qR [] 10 [18,21,2,0,26,29,1,0] fun s7 g7 w7 c7=>?_;refine DQ (J4 5) 27 [(1,pt (s3 0) 0),(8,iv 1)] [true,true,true] [⟨(s1 0),.cells #[sn,sn] 82,.n 50 0,false⟩,⟨(s3 0),.cells #[pt (s7 0) 0,.pointer none,.pointer none,.pointer none,.pointer none,pt (s1 0) 0,.map (some tb)] 88,.l,false⟩,⟨(s7 0),.cells (AA 0 (s1 0) CO (nx0 b6)) 112,.n 0 0,false⟩] (by kernel_rfl) (by kernel_rfl) (by kernel_rfl) (by kernel_rfl) (by kernel_rfl) fun z K0 K=>hJ4 4 _ _ _ _ _ ?_ K;refine qR [] 25 [14,0,2,4,6,8,10,12,1,14,22,24] fun s8 g8 w8 c8=>?_;refine Af fun K=>?_;refine qG 8 [] [true,true,true] (AR 1 K.new Eb s30) ?_;rintro e' w9 ⟨b9,g9,rfl,A9,n9,c9⟩;refine⟨_,g9,rfl,c9,n9,?_⟩;replace c9:=c9.ret (B:=w.heap.size);refine qR [] 10 [18,21,2,1,26,29,1,0] fun s10 g10 w10 c10=>?_;refine DQ (J4 4) 27 [(1,pt (s3 0) 0),(8,iv 2)] [true,true,true,true] [⟨(s1 0),.cells #[sn,sn] 82,.n 50 0,false⟩,⟨(s3 0),.cells #[pt (s7 0) 0,pt (s10 0) 0,.pointer none,.pointer none,.pointer none,pt (s1 0) 0,.map (some tb)] 88,.l,false⟩,⟨(s7 0),.cells (AA 0 (s1 0) CO (nx0 b6)) 112,.n 0 0,false⟩,⟨(s10 0),.cells (AA 1 (s1 0) CO (nx0 b9)) 112,.n 0 1,false⟩] (by kernel_rfl) (by kernel_rfl) (by kernel_rfl) (by kernel_rfl) (by kernel_rfl) fun z K0 K=>hJ4 3 _ _ _ _ _ ?_ K;refine qR [] 25 [14,0,2,4,6,8,10,12,1,14,22,24] fun s11 g11 w11 c11=>?_;refine Af fun K=>?_;refine qG 8 [] [true,true,true,true] (AR 2 K.new Eb s30) ?_;rintro e' w12 ⟨b12,g12,rfl,A12,n12,c12⟩;refine⟨_,g12,rfl,c12,n12,?_⟩;replace c12:=c12.ret (B:=w.heap.size);refine qR [] 10 [18,21,2,2,26,29,1,0] fun s13 g13 w13 c13=>?_;refine DQ (J4 3) 27 [(1,pt (s3 0) 0),(8,iv 3)] [true,true,true,true,true] [⟨(s1 0),.cells #[sn,sn] 82,.n 50 0,false⟩,⟨(s3 0),.cells #[pt (s7 0) 0,pt (s10 0) 0,pt (s13 0) 0,.pointer none,.pointer none,pt (s1 0) 0,.map (some tb)] 88,.l,false⟩,⟨(s7 0),.cells (AA 0 (s1 0) CO (nx0 b6)) 112,.n 0 0,false⟩,⟨(s10 0),.cells (AA 1 (s1 0) CO (nx0 b9)) 112,.n 0 1,false⟩,⟨(s13 0),.cells (AA 2 (s1 0) CO (nx0 b12)) 112,.n 0 2,false⟩] (by kernel_rfl) (by kernel_rfl) (by kernel_rfl) (by kernel_rfl) (by kernel_rfl) fun z K0 K=>hJ4 2 _ _ _ _ _ ?_ K;refine qR [] 25 [14,0,2,4,6,8,10,12,1,14,22,24] fun s14 g14 w14 c14=>?_;refine Af fun K=>?_;refine qG 8 [] [true,true,true,true,true] (AR 3 K.new Eb s30) ?_;rintro e' w15 ⟨b15,g15,rfl,A15,n15,c15⟩;refine⟨_,g15,rfl,c15,n15,?_⟩;replace c15:=c15.ret (B:=w.heap.size);refine qR [] 10 [18,21,2,3,26,29,1,0] fun s16 g16 w16 c16=>?_;refine DQ (J4 2) 27 [(1,pt (s3 0) 0),(8,iv 4)] [true,true,true,true,true,true] [⟨(s1 0),.cells #[sn,sn] 82,.n 50 0,false⟩,⟨(s3 0),.cells #[pt (s7 0) 0,pt (s10 0) 0,pt (s13 0) 0,pt (s16 0) 0,.pointer none,pt (s1 0) 0,.map (some tb)] 88,.l,false⟩,⟨(s7 0),.cells (AA 0 (s1 0) CO (nx0 b6)) 112,.n 0 0,false⟩,⟨(s10 0),.cells (AA 1 (s1 0) CO (nx0 b9)) 112,.n 0 1,false⟩,⟨(s13 0),.cells (AA 2 (s1 0) CO (nx0 b12)) 112,.n 0 2,false⟩,⟨(s16 0),.cells (AA 3 (s1 0) CO (nx0 b15)) 112,.n 0 3,false⟩] (by kernel_rfl) (by kernel_rfl) (by kernel_rfl) (by kernel_rfl) (by kernel_rfl) fun z K0 K=>hJ4 1 _ _ _ _ _ ?_ K;refine qR [] 25 [14,0,2,4,6,8,10,12,1,14,22,24] fun s17 g17 w17 c17=>?_;refine Af fun K=>?_;refine qG 8 [] [true,true,true,true,true,true] (AR 4 K.new Eb s30) ?_;rintro e' w18 ⟨b18,g18,rfl,A18,n18,c18⟩;refine⟨_,g18,rfl,c18,n18,?_⟩;replace c18:=c18.ret (B:=w.heap.size);refine qR [] 10 [18,21,2,4,26,29,1,0] fun s19 g19 w19 c19=>?_;refine DQ (J4 1) 27 [(1,pt (s3 0) 0),(8,iv 5)] [true,true,true,true,true,true,true] [⟨(s1 0),.cells #[sn,sn] 82,.n 50 0,false⟩,⟨(s3 0),.cells #[pt (s7 0) 0,pt (s10 0) 0,pt (s13 0) 0,pt (s16 0) 0,pt (s19 0) 0,pt (s1 0) 0,.map (some tb)] 88,.l,false⟩,⟨(s7 0),.cells (AA 0 (s1 0) CO (nx0 b6)) 112,.n 0 0,false⟩,⟨(s10 0),.cells (AA 1 (s1 0) CO (nx0 b9)) 112,.n 0 1,false⟩,⟨(s13 0),.cells (AA 2 (s1 0) CO (nx0 b12)) 112,.n 0 2,false⟩,⟨(s16 0),.cells (AA 3 (s1 0) CO (nx0 b15)) 112,.n 0 3,false⟩,⟨(s19 0),.cells (AA 4 (s1 0) CO (nx0 b18)) 112,.n 0 4,false⟩] (by kernel_rfl) (by kernel_rfl) (by kernel_rfl) (by kernel_rfl) (by kernel_rfl) fun z K0 K=>hJ4 0 _ _ _ _ _ ?_ K;refine qR [] 12 [] fun s20 g20 w20 c20=>?_;refine fp 1 (s3 0) (by kernel_rfl) fun g21 c21=>?_;refine qE (pt (s3 0) 0) fun K=>⟨(s3 0),tb,(s1 0),(nbF (s7 0) (s10 0) (s13 0) (s16 0) (s19 0)),_,rfl,?_,((((((((((((((((((((c1.nil [.n 70 0]).trans c2).n c3).n c5).n c6).n c7).n c8).n c9).n c10).n c11).n c12).n c13).n c14).n c15).n c16).n c17).n c18).n c19).n c20).n c21)⟩;obtain⟨z1,z2⟩:=K.isZ 1 (s3 0) (.cells (mtA (nbF (s7 0) (s10 0) (s13 0) (s16 0) (s19 0)) (s1 0) tb) 88) false (by kernel_rfl);obtain⟨o1,o2,o3⟩:=K.isN 0 (s1 0) (.cells #[S3.v s30,S3.v s30] 82) 50 0 (by kernel_rfl);obtain⟨q0,r0,t0⟩:=K.isN 2 (s7 0) (.cells (AA 0 (s1 0) CO (nx0 b6)) 112) 0 0 (by kernel_rfl);obtain⟨q1,r1,t1⟩:=K.isN 3 (s10 0) (.cells (AA 1 (s1 0) CO (nx0 b9)) 112) 0 1 (by kernel_rfl);obtain⟨q2,r2,t2⟩:=K.isN 4 (s13 0) (.cells (AA 2 (s1 0) CO (nx0 b12)) 112) 0 2 (by kernel_rfl);obtain⟨q3,r3,t3⟩:=K.isN 5 (s16 0) (.cells (AA 3 (s1 0) CO (nx0 b15)) 112) 0 3 (by kernel_rfl);obtain⟨q4,r4,t4⟩:=K.isN 6 (s19 0) (.cells (AA 4 (s1 0) CO (nx0 b18)) 112) 0 4 (by kernel_rfl);refine⟨⟨z1,z2⟩,((((((((((((((((((A2.ch c3).ch c5).ch c6).ch c7).ch c8).ch c9).ch c10).ch c11).ch c12).ch c13).ch c14).ch c15).ch c16).ch c17).ch c18).ch c19).ch c20).ch c21),fun i hi=>?_,⟨s30,s30,o1,o2,o3,⟨[],OwnS.nil _ _ _ _ _ _,⟨rfl,fun k b m h=>(by cases h)⟩⟩,OwnS.nil _ _ _ _ _ _⟩,K.new⟩;rcases five hi with rfl|rfl|rfl|rfl|rfl
 ·exact⟨_,OV q0 r0 t0 (((((((((((((((A6.ch c7).ch c8).ch c9).ch c10).ch c11).ch c12).ch c13).ch c14).ch c15).ch c16).ch c17).ch c18).ch c19).ch c20).ch c21)⟩
 ·exact⟨_,OV q1 r1 t1 ((((((((((((A9.ch c10).ch c11).ch c12).ch c13).ch c14).ch c15).ch c16).ch c17).ch c18).ch c19).ch c20).ch c21)⟩
 ·exact⟨_,OV q2 r2 t2 (((((((((A12.ch c13).ch c14).ch c15).ch c16).ch c17).ch c18).ch c19).ch c20).ch c21)⟩
 ·exact⟨_,OV q3 r3 t3 ((((((A15.ch c16).ch c17).ch c18).ch c19).ch c20).ch c21)⟩
 ·exact⟨_,OV q4 r4 t4 (((A18.ch c19).ch c20).ch c21)⟩
theorem Ym{g:Gh}{w:World}{i nb ob:Nat}{p:Nod}{ls:List Let}{ts:List Tol}(h:NS i nb ob g w p ls ts)(hup:p.up=true)(hw:p.wants.length<100000000)(c:Cmd) :
  Calls prog 72 #[pt nb 0,.agg #[iv c.k,iv c.c,iv c.s,iv c.n,iv c.v]] w (NP i nb ob g w (.tuple #[]) (p.want c) ls ts):=by
 obtain⟨x,lt,tl,hN,hO,hg⟩:=h;obtain⟨mb,hmb⟩:=hN.upm hup;obtain⟨x0,rfl⟩:∃ x0:NX,x={ x0 with asked:=some mb }:=⟨x,by cases x;simp only at hmb;subst hmb;rfl⟩;clear hmb;have hA:AskAt g w (.n 5 i) mb p.asked:=hN.askSome rfl;refine gI (fn:=f72) (TN i) g func72 hg ?_;refine qN hN ?_;refine qO hO ?_;obtain⟨ht5,hk5,es,ck,hr5,hes⟩:=id hA;refine Hj mb _ 5 i hr5 ht5 hk5 (by kernel_rfl) ?_;refine qR [] 13 [0,0,13,0,2,4,6,8,0,10,3] fun s1 g1 w1 c1=>?_;refine qU 6 (.tuple #[.agg #[iv ((p.asked c).getD CB).r,iv ((p.asked c).getD CB).n],.bool (p.asked c).isSome]) (fun W hW=>(Xq (g:=g) (τ:=.n 5 i) (b:=mb) (f:=p.asked) ⟨ht5,hk5,es,ck,AM.at (hW rfl) 2 mb (.map (es.map mkA).toArray ck) (.n 5 i) (by kernel_rfl),hes⟩ c)) ?_;refine qR [] 11 [14,16,18,21,0,0,23,4,0,24] fun s2 g2 w2 c2=>?_;by_cases h1:(p.asked c).isSome=true
 ·refine qI ((p.asked c).isSome) true h1 ?_;refine qE (.tuple #[]) fun K=>?_;rw[show p.want c=p from if_pos h1];have C4:=c1.n c2;exact⟨_,rfl,⟨({ x0 with asked:=some mb }:NX),lt,tl,hN.ch C4,hO.ch C4,K.new⟩,((c1.nil (TN i)).n c2)⟩
 ·refine qI ((p.asked c).isSome) false (by simpa using h1) ?_;refine Hk [true,true,false,true,true] ?_;have hwn:x0.wants.n=p.wants.length:=hN.wants.num;refine qR [] 11 [12,0,2,4,6,8,10,0,12,2,15,0,0] fun s5 g5 w5 c5=>?_;refine J0 8 (x:=({ x0 with asked:=some mb }:NX).wants) 34 34 37 5 40 (.agg #[iv 0,iv 0,iv 0,iv 0,iv 0]) ⟨(s5 0),0,none⟩ 1 1 [iv c.k,iv c.c,iv c.s,iv c.n,iv c.v] (hN.wants.ch ((c1.trans c2).trans c5) (by simp) (by simp)) (by kernel_rfl) (by kernel_rfl) (by kernel_rfl) underlying34 (by kernel_rfl) (by kernel_rfl) (by decide) (by decide) rfl (by simp[Value.oneCell']) (fun K=>Ct K 4 (s5 0) [iv c.k,iv c.c,iv c.s,iv c.n,iv c.v] 37 .z true (by kernel_rfl)) (by show x0.wants.n+1≤_;unfold maxLen;omega) (by show(x0.wants.n+1)*40≤_;omega) ?_;intro y6 g6 w6 a6 n6 cc6 G6;have c6:=cc6 w.heap.size [.n 4 i] (List.mem_singleton.2 rfl);refine qR [.n 0 i] 13 [18,20,22,25,0,1,8,0,2,4,6,8,0,10,2,12] fun s7 g7 w7 c7=>?_;refine Sg 7 (τ:=.n 5 i) (b:=mb) c CB (((((hA.ch c1).ch c2).ch c5).ch c6).ch c7) (by kernel_rfl) (by kernel_rfl) (by kernel_rfl) ?_;intro w8 A8 cc8;have c8:=cc8 w.heap.size [.n 5 i] (List.mem_singleton.2 rfl);refine qR [] 1 [] fun s9 g9 w9 c9=>?_;refine qE (.tuple #[]) fun K=>?_;rw[show p.want c={ p with wants:=p.wants++[c],asked:=Em p.asked c (some CB) }from if_neg h1];have C10:=((((((c1.nil ([.n 4 i,.n 0 i,.n 5 i]:List Tg)).n c2).n c5).m c6).m c7).m c8).n c9;have Z10:Tg.z∉([.n 4 i,.n 0 i,.n 5 i]:List Tg):=by simp
  exact⟨_,rfl,⟨({ x0 with asked:=some mb,wants:=y6 }:NX),lt,tl,K.nd 0 (hN.tape.ch C10 Z10) (hN.votes.ch C10 Z10) (Bh hN.heard C10 Z10) (BF hN.pend C10 Z10 (by simp)) (hN.queue.ch C10) (hN.agreed.ch C10) (by rw[BQ];exact(((a6.ch c7).ch c8).ch c9)) (A8.ch c9) (fun _=>⟨mb,rfl⟩),hO.ch C10 Z10 (by simp<;>omega),K.new⟩,(((((((c1.nil (TN i)).n c2).n c5).trans (c6.mono (by simp[TN]))).trans (c7.mono (by simp[TN]))).trans (c8.mono (by simp[TN]))).n c9)⟩
end
end Go.Proofs.YtfhbkoflaekhpabGreatDoor
