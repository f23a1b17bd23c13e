/- Part 10 of the walk. -/
import Derived.Test.YtcjcngceghfoeaaGreatDoorZ9
set_option maxRecDepth 100000
set_option maxHeartbeats 4000000
open Go.Proofs.Tryz
set_option linter.unusedVariables false
namespace Go.Proofs.YtcjcngceghfoeaaGreatDoor
section
section
def paE(n tc tr tu k c s m v:Int):Int:=if ¬ (0<=n/\n<1073741824)then 2 else if Nl tc tr tu≠0 then Nl tc tr tu else Bi k c s m v
def paP(tc tr tu k c s m v:Int):List Int:=K7 F9 tc tr tu++Dm k c s m v
def paL(n tc tr tu k c s m v:Int):List Int:=if paE n tc tr tu k c s m v=0 then c::Kw (Jk c) n (paP tc tr tu k c s m v)else[]
variable{c k m n s tc tr tu v:Int}
theorem Zk(h:paE n tc tr tu k c s m v=0):(0<=n/\n<1073741824)/\D2 tc tr tu/\Bi k c s m v=0:=by
 unfold paE at h;split at h
 .cases h
 .rename_i g1
  split at h
  .rename_i g;exact absurd h g
  .rename_i g2
   refine⟨mz.1 g1,?_,h⟩;have a:=mz.1 g2;unfold Nl at a;split at a
   .assumption
   .cases a
theorem iE(a:0<=n/\n<1073741824)(b:Nl tc tr tu=0):paE n tc tr tu k c s m v=Bi k c s m v:=by
 unfold paE;rw[if_neg (λg=>g a),if_neg (λg=>g b)]
theorem Zl(h:paE n tc tr tu k c s m v=0):paL n tc tr tu k c s m v=c::Kw (Jk c) n (paP tc tr tu k c s m v):=if_pos h
theorem H8(a b d k c s m v:Int):(paP a b d k c s m v).length=42:=by unfold paP;rw[H',EP,BX]
end
end
section
open Go.RowKit
section
variable{tc tr tu:Int}{w:World}{x:S3}
theorem Yq(d:Sl w x.v F9)(f:AB w)(h:D2 tc tr tu) :
  Calls prog 47 #[x.v,.agg #[iv tc,iv tr,iv tu]] w λe w'=>∃ y:S3,e=.returned (.tuple #[y.v,iv 0])/\Sl w' y.v (K7 F9 tc tr tu)/\Bw w w':=by
 refine(V3 x.v F9 tc tr tu w d f).mono ?_;have a:MR F9 tc tr tu=0:=by rw[Qh JJ];exact KH h
 rintro e w' ⟨v,rfl,b,c⟩;rw[show Qi F9 tc tr tu=K7 F9 tc tr tu from if_pos a]at b
 rw[a];obtain⟨y,rfl,g⟩:=Pa b (by rw[EP];decide) (WQ _ h);exact⟨y,rfl,g,c⟩
theorem Xy{y:S3}{l m:List Int}{e:TypeId}{g:Nat}(j:w.heap[g]?=some (.cells #[x.v,y.v] e))(b:Sl w x.v l)(c:Sl w y.v m)(n:l.length<=1000)(o:m.length<=1000)(p:0<l.length) :
  Calls prog 45 #[.slice (some ⟨g,0,none⟩) 2 2] w λe w'=>∃ z:S3,e=.returned z.v/\Sl w' z.v (l++m)/\Nb w.heap.size z (l++m)/\Bw w w':=by
 refine(bW j b c n o p).mono ?_;rintro e w' ⟨v,rfl,i,f⟩;obtain⟨z,rfl,k,h⟩:=Jq i (by rw[H'];omega) (λa d=>(P'.1 d).elim (b.byte a) (c.byte a));exact⟨z,rfl,k,h,f⟩
theorem dM{n k c s m v:Int}(h:paE n tc tr tu k c s m v=0)(o:Tabs w) :
  Calls prog 24 #[iv n,.agg #[iv tc,iv tr,iv tu],.agg #[iv k,iv c,iv s,iv m,iv v]] w λe w'=>∃ y:S3,e=.returned (.tuple #[y.v,iv 0])/\Sl w' y.v (paL n tc tr tu k c s m v)/\Nb w.heap.size y (paL n tc tr tu k c s m v)/\Bw w w':=by
 obtain⟨Y,hB,X⟩:=Zk h;have hc:=(Fd X).2;unfold InC at hc;rw[Zl h];refine kIn func24 (kR 11 [0,0,0,0] λb4 w1 b1=>kV 1 (.bool false) (rLt (x:=(.tmp 14)) (y:=(.const (iv 0))) (t:=3) (m:=n) (n:=0) (E' (by omega))) (kR 2 [] λb6 w2 b2=>kV 4 (.bool false) (rGe (x:=(.tmp 17)) (y:=(.const (iv 1073741824))) (t:=3) (m:=n) (n:=1073741824) (E' (by omega))) (kR 7 [8,2,0] λb7 w3 b3=>?_)));have S:=(btr (btr b1 b2) b3);refine kC 0 (Jj (o.t.af S)) ?_;rintro _ w5 ⟨yi,rfl,M,_,U⟩;refine⟨_,rfl,U,?_⟩;have T:=(btr S U);refine kC 2 (Yq M (o.t.af T) hB) ?_;rintro _ w8 ⟨yt,rfl,Q,V⟩;refine⟨_,rfl,V,?_⟩;refine kR 17 [6,8,10,12,14,1] λc0 w9 W=>?_;have p:=(btr (btr T V) W);refine kC 1 (XY (m:=⟨k,c,s,m,v⟩) (o.n.af p) X) ?_;rintro _ a2 ⟨yc,rfl,L,g⟩;refine⟨_,rfl,g,?_⟩;refine kR 18 [1] λZ a3 i=>?_;have r:=(btr (btr p g) i);refine kC 2 (Y4 (c:=c) (by omega) (by omega) (o.t.af r)) ?_;rintro _ a4 ⟨yk,rfl,N,_,d⟩;refine⟨_,rfl,d,?_⟩;refine kR 22 [0,0] λH a5 f=>Af λK=>kC 6 (Xy (K.tP 2 (H 0) _ 52 .z true (by kernel_rfl)) (((((Q.af W).af g).af i).af d).af f) (((L.af i).af d).af f) (by rw[EP];decide) (by rw[BX];decide) (by rw[EP];decide)) ?_;rintro _ a6 ⟨yp,rfl,O,_,j⟩;refine⟨_,rfl,j,?_⟩;have A:=(btr (btr (btr r d) f) j);refine kC 7 (eC ((N.af f).af j) (DN c) O (my (Nat.le_of_eq (H8 tc tr tu k c s m v)) (by decide)) ⟨Y.1,Y.2⟩ (o.q.af o.q.pos A)) ?_;rintro _ a7 ⟨u,z,rfl,hz,_,C⟩;refine⟨_,rfl,C,?_⟩;refine kR 21 [0,0,3,0,1] λa0 a8 D=>kV 2 (.int .u8 c) (fO (P:=prog) (src:=3) (dst:=5) (k:=.i64) (n:=c) (by kernel_rfl) underlying5 (by kernel_rfl) (by rw[IntKind.wrap_u8];omega)) (kR 3 [0,0,0,0] λb R E=>Af λK=>?_);have J:Sl R (S3.v ⟨some ⟨(b 0),0,none⟩,1,1⟩) [c]:=Sl.ofRow (l:=[c]) (K.tP 4 (b 0) _ 5 .z true (by kernel_rfl)) (by show 1<=_;decide) (λa ha=>by rw[D'.1 ha];omega);have B:=(btr (btr (btr A C) D) E);refine kC 6 (Xy (x:=⟨some ⟨(b 0),0,none⟩,1,1⟩) (K.tP 5 (b 1) _ 52 .z true (by kernel_rfl)) J ((hz.af D).af E) (by show 1<=1000;decide) (by rw[EI];show(paP tc tr tu k c s m v).length+20<=1000;rw[H8];decide) (by show 0<1;decide)) ?_;rintro _ a9 ⟨y,rfl,hy,hw,F⟩;refine⟨_,rfl,F,?_⟩;refine kR 3 [] λa1 b0 G=>?_;have I:=(btr (btr B F) G);exact kE (.tuple #[S3.v y,iv 0]) ⟨y,rfl,(hy.af G),hw.mono B.size,I⟩
end
end
section
structure Gr where
 k:Int
 a:Int
 b:Int
 c:Int
 d:Int
def pkT(g:Gr):Int:=if pick g.d 17=16 then(pick g.c 4+1)%4 else pick g.c 4
def pkR(g:Gr):Int:=if pick g.d 17=15 then 0 else 7
def pkP(g:Gr):List Int:=paL (pick g.a 1000) (pkT g) (pkR g) 60 (wK g.b) (pick g.c 4) (pick g.d 6) (pick g.a 4) (wV g.b g.d)
theorem Zr(g:Gr):paE (pick g.a 1000) (pkT g) (pkR g) 60 (wK g.b) (pick g.c 4) (pick g.d 6) (pick g.a 4) (wV g.b g.d)=0:=by
 have e:=Bp g.a 1000 (by omega);have h:=Bp g.c 4 (by omega);have i:=Bp g.d 6 (by omega);have f:D2 (pkT g) (pkR g) 60:=by
  unfold D2 pkT pkR;refine⟨?_,?_,by omega⟩<;>split<;>omega
 rw[iE ⟨e.1,by omega⟩ (KH f)];exact fw g.b g.a g.d _ _ (by omega) (by omega)
def pkB(g:Gr):List Int:=if pick g.d 23=22/\30<(pkP g).length then(pkP g).take 30 else pkP g
def acN(k:Int)(n:Int):Lac:=⟨k,n,0,0,[]⟩
def ON(g:Gr)(cr:Bool):Lac :=
 if pick g.k 24<3 then⟨1,pick g.a 5,0,0,pkB g⟩
 else if pick g.k 24<5 then acN 2 (pick g.a 5)
 else if pick g.k 24<14 then acN 3 (pick g.a 5)
 else if pick g.k 24=14 then⟨4,0,pick g.c 20,0,[]⟩
 else if pick g.k 24=15 then⟨5,0,pick g.c 20,0,[]⟩
 else if pick g.k 24=16 then⟨6,0,pick g.c 20,0,[]⟩
 else if pick g.k 24=17/\cr=true then⟨8,pick g.a 5,0,pick g.c 90,[]⟩
 else if pick g.k 24=18/\cr=true then acN 9 (pick g.a 5)
 else acN 7 0
def Wv(s:Nat)(x:Lac):Lac:=if x.k=1/\6<s+1 then acN 7 0 else x
def eA(s:Nat)(x:Lac):Nat:=if x.k=1 then s+1 else s
def LZ(cr:Bool):Nat->List Gr->List Lac
 | _,[]=>[]
 | s,g::l=>Wv s (ON g cr)::LZ cr (eA s (ON g cr)) l
def scr(l:List Gr)(most:Nat)(cr:Bool):List Lac:=LZ cr 0 (l.take most)
def Ay:List Lac:=(List.range 5).map λn:Nat=>acN 9 (n:Int)
def An:List Lac:=(List.range 5).map (λn:Nat=>acN 3 (n:Int))++[acN 7 0]
def Ak:Nat->List Lac
 | 0=>[]
 | m+1=>Ak m++An
def Dk(m:Nat):List Lac:=Ay++Ak m
def hvy(x:Lac):Bool:=decide (x.k=1\/x.k=2\/x.k=6\/x.k=8)
def Fh(l:List Lac):Nat:=100+20*(l.filter hvy).length
def Cr(m:Nat)(i:Int):List Lac:=Dk 0++[acN 2 i]++Dk m
def FN(l:List Lac)(i:Int):List Lac:=Cr (Fh l) i++Cr (Fh l) i
end
section
open Go.RowKit
section
variable{fn:Func}{R:Ending->World->Prop}{B:Nat}{T:List Tg}{g:Gh}{w:World}
theorem ia{s:Xs}(d:Nat)(r i:Nat)(c:Du s d=some (Instr.makeMap 104 none>>=λv=>pure (.value v)))
  (e:(nxt s d undef s.L).o.map Ob.l'=(nxt s d undef s.L).o.map Ob.r')
  (q:∀ b g' w',w.heap.size<=b->AskAt g' w' (.n r i) b (λ_=>none)->(∀ B T,Cg B T g w g' w')->(∀ b,w'.heap.size<=b->g'.t b=.z/\g'.k b=0)->GG prog fn R B T (nxt s d (.map (some b)) s.L).s g' w'):GG prog fn R B T s g w:=by
 refine Ko d s.L e (BT c) λm A j o f=>?_;have u:(Instr.makeMap 104 none).run prog w=.ok (.map (some w.heap.size)) (w.alloc (.map #[] 0)):=by
  simp[Instr.makeMap,go_sem]
 have h:∀ B T,Cg B T g w (OO g w (.n r i) 0) (w.alloc (.map #[] 0)):=λB T =>
  ⟨rfl,rfl,rfl,by simp,λb a=>.inl (if_neg (by omega)),λb a=>by show _<=(if b=w.heap.size then _ else g.k b);rw[if_neg (by omega)];exact A' _,λb a _ _=>if_neg (by omega),λb a _ _=>heap_alloc_old w _ a,λb a j C=>World.cell?_of_block (w:=w) (heap_alloc_old w _ a)⟩
 have l:∀ b,(w.alloc (.map #[] 0)).heap.size<=b->(OO g w (.n r i) 0).t b=.z/\(OO g w (.n r i) 0).k b=0:=λb a=>by
  have p:w.heap.size+1<=b:=by simpa using a
  show(if b=w.heap.size then _ else g.t b)=.z/\(if b=w.heap.size then _ else g.k b)=0;rw[if_neg (by omega),if_neg (by omega)];exact m.new b (by omega)
 refine⟨.map (some w.heap.size),_,OO g w (.n r i) 0,.inl ?_,m.ch (h _ []) l (by simp),q _ _ _ (A' _) ⟨if_pos rfl,if_pos rfl,[],0,heap_alloc_new _ _,λx y=>absurd y Q',nX,nX,λ_=>rfl⟩ h l⟩;rw[Dv c f,Sem.run_bind,u,Result.andThen_ok];rfl
end
section
def ki(a:Acc)(y:S3)(b:Nat):Array Value:=((AG 0 0 (CV.bare true [] 0 a []) (NX.mk s30 y s30 s30 s30 s30 (λ_=>s30) (some b))).toList.drop 6).toArray
variable{E e0 s:Int}{L:List Vt}{P:Program}{W w:World}{b i n nb ob:Nat}{c m:Cmd}{f:Cmd->Option Bal}{g:Gh}{l:List Cmd}{ls:List Let}{p:Nod}{ts:List Tol}{u:Vt}
theorem Bf(i:Nat)(o:∀ b,w.heap.size<=b->g.t b=.z/\g.k b=0)(a:Acc)(y:S3) :
  Calls prog 29 #[.agg #[iv a.p.r,iv a.p.n,S3.v y]] w λe w'=>∃ (b:Nat) (g':Gh),e=.returned (.agg (ki a y b))/\AskAt g' w' (.n 5 i) b (λ_=>none)/\(∀ b,w'.heap.size<=b->g'.t b=.z/\g'.k b=0)/\Cg w.heap.size [] g w g' w':=by
 refine gI (fn:=f29) [] g func29 o (qR [] 8 [0,0,1,0,0] λs u C l=>ia 1 5 i (by kernel_rfl) (by kernel_rfl) ?_);intro h x D q j c B;have m:=c w.heap.size [];refine qR [] 3 [1,0] λs3 A E d=>qE1 2 106 1 (s 1) (ki a y h) λK=>⟨h,_,rfl,(j.ch d),K.new,((l.trans m).trans d)⟩
theorem Pends.nil(g:Gh)(w:World)(nb:Nat):Pends g w nb [] []:=⟨rfl,λk v q h=>by cases h⟩
theorem XF(h:NS i nb ob g w p ls ts)(k:Int)(G:-9223372036854775808<=k)(H:k<=9223372036854775807) :
  Calls prog 35 #[pt nb 0,iv k] w (NP i nb ob g w (.tuple #[]) (if p.up then p.lp k else p) ls ts):=by
 obtain⟨x,lt,P,u,y,Z⟩:=h;refine gI (fn:=f35) (TN i) g func35 Z (qN u (qO y (qR [] 9 [0] λs1 g1 w1 b=>?_)));by_cases q:p.up=true
 .refine qI ((!p.up)) false (by simpa using q) ?_;rw[if_pos q];refine qR [] 8 [0] λs2 O w2 c=>Af λKq=>?_;have X:=(u.tape.ch (b.trans c)).s;have W:∀ z,w2.heap.size<=z->O.t z=.z:=λz hz=>(Kq.new z hz).1;refine qC 5 (XE (s:=p.sy) (k:=k) X G H) ?_;rintro e' w3 ⟨A,rfl,m,I,N⟩;refine⟨_,rfl,N,?_⟩;have o:=Cg.eb (B:=w.heap.size) (T:=[]) (g:=O) N;have a0:=EW m;have M:FSl _ _ A _:=⟨m,λhl a Y=>W _ (I hl a Y)⟩;refine qR [] 13 [0,0,2,0] λs4 g4 w4 j=>?_;by_cases r:Gk p.d p.sy k≠0
  .refine qI (((Gk p.d p.sy k) != 0)) true (by simpa using r) (qE (.tuple #[]) λK=>?_);rw[show p.lp k=p from if_pos r];exact⟨_,rfl,(nsC u y (((b.n c).n o).n j) K),((((b.nil (TN i)).n c).n o).n j)⟩
  .refine qI (((Gk p.d p.sy k) != 0)) false (by simpa using r) (qR [] 8 [7,0,2,4,8,10,12] λs7 V w7 E=>DS 33 (λR w' e L=>e=[(0,pt nb 0)]/\L=[⟨nb,.cells (AG i ob (p.bare false (Ki p.d p.sy k) (Kj p.d p.sy k) Ea []) (NX.mk A s30 s30 s30 s30 s30 (λ_=>s30) none)) 111,.n 0 i,false⟩,⟨ob,.cells #[S3.v lt,S3.v P] 88,.n 50 0,false⟩,⟨(s4 0),.cells #[S3.v A,iv (Kj p.d p.sy k)] 109,.z,false⟩]/\True/\Cg w.heap.size ([.n 0 i]:List Tg) V w7 R w') (by kernel_rfl) ?_ ?_)
   .intro J hJ
    (exact DM 3 7 (by kernel_rfl) (by(refine qR [.n 0 i] 9 [2,15,0,1,16,18,21,0,1,22,24,27,0,1] λa1 S a3 C=>?_;exact qB [true,true,true] λz Q K=>hJ _ _ _ z _ ⟨rfl,rfl,trivial,C⟩ K)) (by(refine qR [.n 0 i] 9 [0,1,7,2,16,18,21,0,1,22,24,27,0,1] λa2 U a4 D=>?_;exact qB [true,true,true] λz Q K=>hJ _ _ _ z _ ⟨rfl,rfl,trivial,D⟩ K)))
   rintro g8 w8 _ z8 _ ⟨rfl,rfl,_,F⟩;refine qE (.tuple #[]) λK=>?_;rw[show p.lp k=(p.bare false (Ki p.d p.sy k) (Kj p.d p.sy k) Ea [])from if_neg r];exact⟨_,rfl,⟨(NX.mk A s30 s30 s30 s30 s30 (λ_=>s30) none),lt,P,K.nd 0 (((M.ch j).ch E).ch F) ⟨Sv.nil _,λh=>absurd rfl h⟩ (λ_ _=>⟨Sv.nil _,λh=>absurd rfl h⟩) ⟨[],OwnS.nil _ _ _ _ _ _,Pends.nil _ _ _⟩ (OwnS.nil _ _ _ _ _ _) (OwnS.nil _ _ _ _ _ _) (OwnS.nil _ _ _ _ _ _) rfl (λh=>by cases h),y.ch ((((((b.nil ([.n 0 i]:List Tg)).n c).n o).n j).n E).trans (F)) (hn:=by simp<;>omega),K.new⟩,((((((b.nil (TN i)).n c).n o).n j).n E).trans (F.mono (by simp[TN])))⟩
 .refine qI ((!p.up)) true (by simpa using q) (qE (.tuple #[]) λK=>?_);rw[if_neg q];exact⟨_,rfl,(nsC u y b K),(b.nil (TN i))⟩
def nx0(b:Nat):NX:=NX.mk s30 s30 s30 s30 s30 s30 (λ_=>s30) (some b)
theorem Qy(d:w.heap[nb]?=some (.cells (AG i ob CV (nx0 b)) 111))(e:g.t nb=.n 0 i)(c:g.k nb=0)(a:AskAt g w (.n 5 i) b (λ_=>none)):NodeAt g w i nb ob (nx0 b) CV :=
 ⟨d,e,c,⟨⟨⟨none,0,rfl,A' _,λ_=>rfl,.inl rfl⟩,by simp[CV],by simp[CV]⟩,λh=>absurd rfl h⟩,⟨Sv.nil _,λh=>absurd rfl h⟩,λ_ _=>⟨Sv.nil _,λh=>absurd rfl h⟩,⟨[],OwnS.nil _ _ _ _ _ _,Pends.nil _ _ _⟩,OwnS.nil _ _ _ _ _ _,OwnS.nil _ _ _ _ _ _,OwnS.nil _ _ _ _ _ _,a,λ_=>⟨b,rfl⟩⟩
def nbF(a b c d e:Nat):Nat->Nat
 | 0=>a
 | 1=>b
 | 2=>c
 | 3=>d
 | _=>e
theorem LC(hg:∀ b,w.heap.size<=b->g.t b=.z/\g.k b=0) :
  Calls prog 18 #[] w λe w'=>∃ (mb tb ob:Nat) (nb:Nat->Nat) (g':Gh),e=.returned (pt mb 0)/\MS mb tb ob nb g' w' AI/\Cg w.heap.size [.n 70 0] g w g' w':=by
 refine gI (fn:=f18) [.n 70 0] g func18 hg (qR [] 8 [52,0] λa g1 w1 c1=>Af λK=>qG 2 [.n 70 0] [true] (TB K.new) ?_);rintro R w2 ⟨tb,g2,rfl,A2,n2,T⟩;refine⟨_,g2,rfl,T,n2,?_⟩;replace T:=T.ret (B:=w.heap.size);refine qR [] 10 [1,0] λs3 g3 w3 c3=>fH 5 27 [(1,pt (s3 0) 0),(8,iv 0)] [true,true] [⟨(a 0),.cells #[sn,sn] 88,.n 50 0,false⟩,⟨(s3 0),.cells #[.pointer none,.pointer none,.pointer none,.pointer none,.pointer none,pt (a 0) 0,.map (some tb)] 94,.l,false⟩] (by kernel_rfl) (by kernel_rfl) (by kernel_rfl) (by kernel_rfl) λN E z=>qR [] 25 [14,0,2,4,6,8,10,12,1,14,22,24] λs5 g5 w5 c5=>Af λK=>qG 8 [] [true,true] (Bf 0 K.new Ea s30) ?_;rintro R w6 ⟨L,g6,rfl,A6,n6,Q⟩;refine⟨_,g6,rfl,Q,n6,?_⟩;replace Q:=Q.ret (B:=w.heap.size);refine qR [] 10 [18,21,2,0,26,29,1,0] λA g7 w7 X=>ED (N 5) 27 [(1,pt (s3 0) 0),(8,iv 1)] [true,true,true] [⟨(a 0),.cells #[sn,sn] 88,.n 50 0,false⟩,⟨(s3 0),.cells #[pt (A 0) 0,.pointer none,.pointer none,.pointer none,.pointer none,pt (a 0) 0,.map (some tb)] 94,.l,false⟩,⟨(A 0),.cells (AG 0 (a 0) CV (nx0 L)) 111,.n 0 0,false⟩] (by kernel_rfl) (by kernel_rfl) (by kernel_rfl) (by kernel_rfl) (by kernel_rfl) λz S K=>E 4 _ _ _ _ _ ?_ K;refine qR [] 25 [14,0,2,4,6,8,10,12,1,14,22,24] λs8 g8 w8 Y=>Af λK=>qG 8 [] [true,true,true] (Bf 1 K.new Ea s30) ?_;rintro R w9 ⟨P,g9,rfl,A9,n9,M⟩;refine⟨_,g9,rfl,M,n9,?_⟩;replace M:=M.ret (B:=w.heap.size);refine qR [] 10 [18,21,2,1,26,29,1,0] λc a5 c0 H=>ED (N 4) 27 [(1,pt (s3 0) 0),(8,iv 2)] [true,true,true,true] [⟨(a 0),.cells #[sn,sn] 88,.n 50 0,false⟩,⟨(s3 0),.cells #[pt (A 0) 0,pt (c 0) 0,.pointer none,.pointer none,.pointer none,pt (a 0) 0,.map (some tb)] 94,.l,false⟩,⟨(A 0),.cells (AG 0 (a 0) CV (nx0 L)) 111,.n 0 0,false⟩,⟨(c 0),.cells (AG 1 (a 0) CV (nx0 P)) 111,.n 0 1,false⟩] (by kernel_rfl) (by kernel_rfl) (by kernel_rfl) (by kernel_rfl) (by kernel_rfl) λz S K=>E 3 _ _ _ _ _ ?_ K;refine qR [] 25 [14,0,2,4,6,8,10,12,1,14,22,24] λb4 a6 c4 I=>Af λK=>qG 8 [] [true,true,true,true] (Bf 2 K.new Ea s30) ?_;rintro R d0 ⟨G,Z,rfl,U,a2,p⟩;refine⟨_,Z,rfl,p,a2,?_⟩;replace p:=p.ret (B:=w.heap.size);refine qR [] 10 [18,21,2,2,26,29,1,0] λj a7 d1 C=>ED (N 3) 27 [(1,pt (s3 0) 0),(8,iv 3)] [true,true,true,true,true] [⟨(a 0),.cells #[sn,sn] 88,.n 50 0,false⟩,⟨(s3 0),.cells #[pt (A 0) 0,pt (c 0) 0,pt (j 0) 0,.pointer none,.pointer none,pt (a 0) 0,.map (some tb)] 94,.l,false⟩,⟨(A 0),.cells (AG 0 (a 0) CV (nx0 L)) 111,.n 0 0,false⟩,⟨(c 0),.cells (AG 1 (a 0) CV (nx0 P)) 111,.n 0 1,false⟩,⟨(j 0),.cells (AG 2 (a 0) CV (nx0 G)) 111,.n 0 2,false⟩] (by kernel_rfl) (by kernel_rfl) (by kernel_rfl) (by kernel_rfl) (by kernel_rfl) λz S K=>E 2 _ _ _ _ _ ?_ K;refine qR [] 25 [14,0,2,4,6,8,10,12,1,14,22,24] λb5 a8 d2 D=>Af λK=>qG 8 [] [true,true,true,true,true] (Bf 3 K.new Ea s30) ?_;rintro R d3 ⟨J,a0,rfl,V,a3,o⟩;refine⟨_,a0,rfl,o,a3,?_⟩;replace o:=o.ret (B:=w.heap.size);refine qR [] 10 [18,21,2,3,26,29,1,0] λu a9 d4 x=>ED (N 2) 27 [(1,pt (s3 0) 0),(8,iv 4)] [true,true,true,true,true,true] [⟨(a 0),.cells #[sn,sn] 88,.n 50 0,false⟩,⟨(s3 0),.cells #[pt (A 0) 0,pt (c 0) 0,pt (j 0) 0,pt (u 0) 0,.pointer none,pt (a 0) 0,.map (some tb)] 94,.l,false⟩,⟨(A 0),.cells (AG 0 (a 0) CV (nx0 L)) 111,.n 0 0,false⟩,⟨(c 0),.cells (AG 1 (a 0) CV (nx0 P)) 111,.n 0 1,false⟩,⟨(j 0),.cells (AG 2 (a 0) CV (nx0 G)) 111,.n 0 2,false⟩,⟨(u 0),.cells (AG 3 (a 0) CV (nx0 J)) 111,.n 0 3,false⟩] (by kernel_rfl) (by kernel_rfl) (by kernel_rfl) (by kernel_rfl) (by kernel_rfl) λz S K=>E 1 _ _ _ _ _ ?_ K;refine qR [] 25 [14,0,2,4,6,8,10,12,1,14,22,24] λb7 b0 d5 y=>Af λK=>qG 8 [] [true,true,true,true,true,true] (Bf 4 K.new Ea s30) ?_;rintro R d6 ⟨O,a1,rfl,W,a4,d⟩;refine⟨_,a1,rfl,d,a4,?_⟩;replace d:=d.ret (B:=w.heap.size);refine qR [] 10 [18,21,2,4,26,29,1,0] λF b1 d7 q=>ED (N 1) 27 [(1,pt (s3 0) 0),(8,iv 5)] [true,true,true,true,true,true,true] [⟨(a 0),.cells #[sn,sn] 88,.n 50 0,false⟩,⟨(s3 0),.cells #[pt (A 0) 0,pt (c 0) 0,pt (j 0) 0,pt (u 0) 0,pt (F 0) 0,pt (a 0) 0,.map (some tb)] 94,.l,false⟩,⟨(A 0),.cells (AG 0 (a 0) CV (nx0 L)) 111,.n 0 0,false⟩,⟨(c 0),.cells (AG 1 (a 0) CV (nx0 P)) 111,.n 0 1,false⟩,⟨(j 0),.cells (AG 2 (a 0) CV (nx0 G)) 111,.n 0 2,false⟩,⟨(u 0),.cells (AG 3 (a 0) CV (nx0 J)) 111,.n 0 3,false⟩,⟨(F 0),.cells (AG 4 (a 0) CV (nx0 O)) 111,.n 0 4,false⟩] (by kernel_rfl) (by kernel_rfl) (by kernel_rfl) (by kernel_rfl) (by kernel_rfl) λz S K=>E 0 _ _ _ _ _ ?_ K;refine qR [] 12 [] λb8 b2 d8 r=>jR 1 (s3 0) (by kernel_rfl) λb3 s=>qE (pt (s3 0) 0) λK=>⟨(s3 0),tb,(a 0),(nbF (A 0) (c 0) (j 0) (u 0) (F 0)),_,rfl,?_,((((((((((((((((((((c1.nil [.n 70 0]).trans T).n c3).n c5).n Q).n X).n Y).n M).n H).n I).n p).n C).n D).n o).n x).n y).n d).n q).n r).n s)⟩;obtain⟨z1,z2⟩:=K.rM 1 (s3 0) (.cells (mtA (nbF (A 0) (c 0) (j 0) (u 0) (F 0)) (a 0) tb) 94) false (by kernel_rfl);obtain⟨o1,o2,o3⟩:=K.rN 0 (a 0) (.cells #[S3.v s30,S3.v s30] 88) 50 0 (by kernel_rfl);obtain⟨q0,r0,t0⟩:=K.rN 2 (A 0) (.cells (AG 0 (a 0) CV (nx0 L)) 111) 0 0 (by kernel_rfl);obtain⟨q1,r1,t1⟩:=K.rN 3 (c 0) (.cells (AG 1 (a 0) CV (nx0 P)) 111) 0 1 (by kernel_rfl);obtain⟨q2,r2,t2⟩:=K.rN 4 (j 0) (.cells (AG 2 (a 0) CV (nx0 G)) 111) 0 2 (by kernel_rfl);obtain⟨q3,r3,t3⟩:=K.rN 5 (u 0) (.cells (AG 3 (a 0) CV (nx0 J)) 111) 0 3 (by kernel_rfl);obtain⟨q4,r4,t4⟩:=K.rN 6 (F 0) (.cells (AG 4 (a 0) CV (nx0 O)) 111) 0 4 (by kernel_rfl);refine⟨⟨z1,z2⟩,((((((((((((((((((A2.ch c3).ch c5).ch Q).ch X).ch Y).ch M).ch H).ch I).ch p).ch C).ch D).ch o).ch x).ch y).ch d).ch q).ch r).ch s),λi hi=>?_,⟨s30,s30,o1,o2,o3,⟨[],OwnS.nil _ _ _ _ _ _,⟨rfl,λk b m h=>(by cases h)⟩⟩,OwnS.nil _ _ _ _ _ _⟩,K.new⟩;rcases ri hi with rfl|rfl|rfl|rfl|rfl
 .exact⟨_,Qy q0 r0 t0 (((((((((((((((A6.ch X).ch Y).ch M).ch H).ch I).ch p).ch C).ch D).ch o).ch x).ch y).ch d).ch q).ch r).ch s)⟩
 .exact⟨_,Qy q1 r1 t1 ((((((((((((A9.ch H).ch I).ch p).ch C).ch D).ch o).ch x).ch y).ch d).ch q).ch r).ch s)⟩
 .exact⟨_,Qy q2 r2 t2 (((((((((U.ch C).ch D).ch o).ch x).ch y).ch d).ch q).ch r).ch s)⟩
 .exact⟨_,Qy q3 r3 t3 ((((((V.ch x).ch y).ch d).ch q).ch r).ch s)⟩
 .exact⟨_,Qy q4 r4 t4 (((W.ch q).ch r).ch s)⟩
theorem bv(h:NS i nb ob g w p ls ts)(N:p.up=true)(hw:p.bn.length<100000000)(c:Cmd) :
  Calls prog 63 #[pt nb 0,.agg #[iv c.k,iv c.c,iv c.s,iv c.n,iv c.v]] w (NP i nb ob g w (.tuple #[]) (p.want c) ls ts):=by
 obtain⟨x,lt,T,d,J,Y⟩:=h;obtain⟨j,q⟩:=d.rW N;obtain⟨o,rfl⟩:∃ o:NX,x={ o with cl:=some j }:=⟨x,by cases x;simp only at q;subst q;rfl⟩;clear q;have R:AskAt g w (.n 5 i) j p.cl:=d.rT rfl;refine gI (fn:=f63) (TN i) g func63 Y (qN d (qO J ?_));obtain⟨A,y,Q,P,M,L⟩:=id R;refine Iv j _ 5 i M A y (by kernel_rfl) ?_;refine qR [] 13 [0,0,13,0,2,4,6,8,0,10,3] λs1 g1 w1 t=>qU 6 (.tuple #[.agg #[iv ((p.cl c).getD Bd).r,iv ((p.cl c).getD Bd).n],.bool (p.cl c).isSome]) (λW X=>(ZA (g:=g) (τ:=.n 5 i) (b:=j) (f:=p.cl) ⟨A,y,Q,P,AX.at (X rfl) 2 j (.map (Q.map mkA).toArray P) (.n 5 i) (by kernel_rfl),L⟩ c)) (qR [] 11 [14,16,18,21,0,0,23,4,0,24] λs2 g2 w2 u=>?_);by_cases E:(p.cl c).isSome=true
 .refine qI ((p.cl c).isSome) true E (qE (.tuple #[]) λK=>?_);rw[show p.want c=p from if_pos E];have O:=t.n u;exact⟨_,rfl,⟨({ o with cl:=some j }:NX),lt,T,d.ch O,J.ch O,K.new⟩,((t.nil (TN i)).n u)⟩
 .refine qI ((p.cl c).isSome) false (by simpa using E) (Iw [true,true,false,true,true] ?_);have Z:o.bn.n=p.bn.length:=d.bn.num;refine qR [] 11 [12,0,2,4,6,8,10,0,12,2,15,0,0] λS g5 w5 B=>Km 8 (x:=({ o with cl:=some j }:NX).bn) 35 35 51 5 40 (.agg #[iv 0,iv 0,iv 0,iv 0,iv 0]) ⟨(S 0),0,none⟩ 1 1 [iv c.k,iv c.c,iv c.s,iv c.n,iv c.v] (d.bn.ch ((t.trans u).trans B) (by simp) (by simp)) (by kernel_rfl) (by kernel_rfl) (by kernel_rfl) underlying35 (by kernel_rfl) (by kernel_rfl) (by decide) (by decide) rfl (by simp[Value.oneCell']) (λK=>Cu K 4 (S 0) [iv c.k,iv c.c,iv c.s,iv c.n,iv c.v] 51 .z true (by kernel_rfl)) (by show o.bn.n+1<=_;unfold maxLen;omega) (by show(o.bn.n+1)*40<=_;omega) ?_;intro y6 g6 w6 V n6 H G6;have F:=H w.heap.size [.n 4 i] (D'.2 rfl);refine qR [.n 0 i] 13 [18,20,22,25,0,1,8,0,2,4,6,8,0,10,2,12] λs7 g7 w7 C=>Ui 7 (τ:=.n 5 i) (b:=j) c Bd (((((R.ch t).ch u).ch B).ch F).ch C) (by kernel_rfl) (by kernel_rfl) (by kernel_rfl) ?_;intro w8 U I;have G:=I w.heap.size [.n 5 i] (D'.2 rfl);refine qR [] 1 [] λs9 g9 w9 D=>qE (.tuple #[]) λK=>?_;rw[show p.want c={ p with bn:=p.bn++[c],cl:=BV p.cl c (some Bd) }from if_neg E];have a:=((((((t.nil ([.n 4 i,.n 0 i,.n 5 i]:List Tg)).n u).n B).m F).m C).m G).n D;have e:Tg.z∉([.n 4 i,.n 0 i,.n 5 i]:List Tg):=by simp
  exact⟨_,rfl,⟨({ o with cl:=some j,bn:=y6 }:NX),lt,T,K.nd 0 (d.tape.ch a e) (d.mv.ch a e) (BA d.an a e) (Cc d.bw a e (by simp)) (d.fv.ch a) (d.ab.ch a) (by rw[Cp];exact(((V.ch C).ch G).ch D)) (U.ch D) (λ_=>⟨j,rfl⟩),J.ch a e (by simp<;>omega),K.new⟩,(((((((t.nil (TN i)).n u).n B).trans (F.mono (by simp[TN]))).trans (C.mono (by simp[TN]))).trans (G.mono (by simp[TN]))).n D)⟩
theorem Ow(n g:Int)(w:World) :
  Calls prog 80 #[.int .i64 n,.int .i64 g] w λe w'=>e=.returned (.bool (decide (0<=n/\n<=g)))/\w'=w:=by
 by_cases a:0<=n
 .by_cases h1:n<=g
  .rw[M' (show 0<=n/\n<=g from⟨a,h1⟩)];go_enter func80,ntmps80
   go_wp2
   go_ret;exact⟨rfl,rfl⟩
  .rw[E' (show ¬ (0<=n/\n<=g)from λh=>h1 h.2)];go_enter func80,ntmps80
   go_wp2
   go_ret;exact⟨rfl,rfl⟩
 .rw[E' (show ¬ (0<=n/\n<=g)from λh=>a h.1)];go_enter func80,ntmps80
  go_wp2
  go_ret;exact⟨rfl,rfl⟩
theorem TF(s:Sto)(w:World) :
  Calls prog 40 #[.agg (stA s)] w λe w'=>e=.returned (.int .i64 (Nj s))/\Bw w w':=by
 have n:Bw w (w.alloc (.cells (stA s) 45)):=(Below.refl _ _).alloc (A' _) _;have p:Bs (w.alloc (.cells (stA s) 45)) w.heap.size s:=heap_alloc_new _ _;generalize x:w.alloc (.cells (stA s) 45)=W at n p;go_enter func40,ntmps40
 go_wp2_with ((with_reducible (refine DU ?_));(refine GF rfl _ rfl w.heap.size 0 rfl s.V p.sT ?_))
 clear x
 go_loopw [9] (λiv wr=>∃ i:Nat,i<=8/\iv=.int .i64 (i:Int)/\Hid (∀ j,j<i->VaB (s.V j))/\W=wr) (λiv _=>(8-intOf iv).toNat)
 case atStart=>exact⟨0,by omega,rfl,λj r=>by omega,rfl⟩
 case round =>
  obtain⟨i,t,rfl,l,rfl⟩:=hrel;by_cases a:i<8
  .have hlt':(i:Int)<8:=by omega
   have d:=UP s.V i a;go_wp2_with fail
   refine(Ow (s.V i) 1073741824 _).mono ?_;rintro e y ⟨rfl,rfl⟩;by_cases b:0<=s.V i/\s.V i<=1073741824
   .rw[M' b];have o:Hid (∀ j,j<i+1->VaB (s.V j)):=λj r=>by
     by_cases h:j=i
     .subst h;exact b
     .exact l.out j (by omega)
    clear b d l;go_wp2
    go_roundw
    case rel=>exact⟨i+1,by omega,by go_num,o,by simp⟩
    case measure=>simp[intOf];omega
   .rw[E' b];have k:Hid (Nj s=5):=KG (λh=>b (h.1 i a));clear b d l;go_wp2
    go_ret;rw[k.out];exact⟨rfl,n⟩
  .obtain rfl:i=8:=by omega
   clear a t;go_wp2_with ((with_reducible (refine DU ?_));(refine GF rfl _ rfl w.heap.size 8 rfl s.L p.sS ?_))
   go_loopw [18] (λiv wr=>∃ i:Nat,i<=8/\iv=.int .i64 (i:Int)/\Hid (∀ j,j<i->ClB (s.L j) (s.C j) (s.A j))/\W=wr) (λiv _=>(8-intOf iv).toNat)
   case atStart=>exact⟨0,by omega,rfl,λj r=>by omega,rfl⟩
   case round =>
    obtain⟨i,t,rfl,f,rfl⟩:=hrel;by_cases a:i<8
    .have hlt':(i:Int)<8:=by omega
     have d:=UP s.L i a;go_wp2_with fail
     refine(Ow (s.L i) 1048577 _).mono ?_;rintro e y ⟨rfl,rfl⟩;by_cases b:0<=s.L i/\s.L i<=1048577
     .rw[M' b];have u:=p.sZ i a;have v:=p.sY i a;have z:(0:Int)<=(i:Int):=by omega
      by_cases m:s.L i=0
      .rw[m];by_cases c:s.C i=0/\s.A i=0
       .rw[c.1]at u
        rw[c.2]at v
        have o:Hid (∀ j,j<i+1->ClB (s.L j) (s.C j) (s.A j)):=λj r=>by
         by_cases h:j=i
         .subst h;exact⟨b,λ_=>c⟩
         .exact f.out j (by omega)
        clear b d c m f;go_wp2
        go_roundw
        case rel=>exact⟨i+1,by omega,by go_num,o,by simp⟩
        case measure=>simp[intOf];omega
       .have k:Hid (Nj s=5):=KG (λh=>c ((h.2 i a).2 m));have q:=dA (s.C i) (s.A i);rw[E' c]at q
        clear b d c m f l;go_wp2
        go_ret;rw[k.out];exact⟨rfl,n⟩
      .have o:Hid (∀ j,j<i+1->ClB (s.L j) (s.C j) (s.A j)):=λj r=>by
        by_cases h:j=i
        .subst h;exact⟨b,λg=>absurd g m⟩
        .exact f.out j (by omega)
       have q:(s.L i==0)=false:=by simpa using m
       clear b d f;go_wp2
       go_roundw
       case rel=>exact⟨i+1,by omega,by go_num,o,by simp⟩
       case measure=>simp[intOf];omega
     .rw[E' b];have k:Hid (Nj s=5):=KG (λh=>b (h.2 i a).1);clear b d l f;go_wp2
      go_ret;rw[k.out];exact⟨rfl,n⟩
    .obtain rfl:i=8:=by omega
     have k:Hid (Nj s=0):=eI ⟨l.out,f.out⟩;clear a t f l;go_wp2
     go_ret;rw[k.out];exact⟨rfl,n⟩
theorem lt8(h:i<8):i=0\/i=1\/i=2\/i=3\/i=4\/i=5\/i=6\/i=7:=by omega
theorem Xk(s:Sto)(k:Int)(b c:Nat)(q v:Int)(w:World)(B:1<=k/\k<=3)(n:b<8)(g:c<8)(D:0<=q)(E:q<=1048576){S:Sto}(m:MW s ⟨k,(b:Int),q,(c:Int),v⟩=S){A:Int}(j:SJ s ⟨k,(b:Int),q,(c:Int),v⟩=A) :
  Calls prog 84 #[.agg (stA s),.agg #[iv k,iv (b:Int),iv q,iv (c:Int),iv v]] w λe w'=>e=.returned (.tuple #[.agg (stA S),.agg #[iv 0,iv A]])/\Bw w w':=by
 subst m j;refine tIn [] func84 trivial (tR 17 [1,0,0,0,1,0,1,0,1,0,1] λa _ _=>Ig 48 (λi h d=>i=[(2,pt (a 0) 0),(3,pt (a 1) 0),(4,pt (a 2) 0),(5,pt (a 3) 0),(6,pt (a 4) 0)]/\h=[⟨(a 0),.cells (stA (Sto.mk (MW s ⟨k,(b:Int),q,(c:Int),v⟩).V s.L s.C s.A (MW s ⟨k,(b:Int),q,(c:Int),v⟩).R)) 45,.l,false⟩,⟨(a 1),.cells #[iv k,iv (b:Int),iv q,iv (c:Int),iv v] 51,.z,false⟩,⟨(a 2),.cells (stA AN) 45,.l,false⟩,⟨(a 3),.cells #[iv 0,iv 0] 41,.l,false⟩,⟨(a 4),.cells #[iv 0,iv (SJ s ⟨k,(b:Int),q,(c:Int),v⟩)] 41,.l,false⟩]/\d=[]) (λJ f=>?_) ?_)
 .rcases(show k=1\/k=2\/k=3 by omega)with rfl|rfl|rfl
  .rcases lt8 g with rfl|rfl|rfl|rfl|rfl|rfl|rfl|rfl <;>
    (refine tR 24 [1,1,0,0,1,4,0] λo _ _=>?_;exact tD f [true,true,true,true,true] ⟨rfl,rfl,rfl⟩ (λF=>F))
  .rcases lt8 g with rfl|rfl|rfl|rfl|rfl|rfl|rfl|rfl <;>
    (refine tR 23 [1,0,4,0] λp _ _=>?_;exact tD f [true,true,true,true,true] ⟨rfl,rfl,rfl⟩ (λF=>F))
  .rcases lt8 g with rfl|rfl|rfl|rfl|rfl|rfl|rfl|rfl <;>
    (refine tR 27 [1,0,0] λr _ _=>?_;exact tD f [true,true,true,true,true] ⟨rfl,rfl,rfl⟩ (λF=>F))
 rintro _ _ _ ⟨rfl,rfl,rfl⟩ _ _ _;rcases lt8 n with rfl|rfl|rfl|rfl|rfl|rfl|rfl|rfl <;>
  (refine tR 6 [1,1] λt _ _=>?_;refine tV 4 (iv (q+1)) (λF C=>(AO 37 q underlying3 (by omega))) ?_;refine tR 16 [0,0,1,4,0,0,2,0,0] λu _ _=>?_;exact Ih 1 2 (by refine tR 4 [4,5,2,0,7,3,0] λx _ _=>?_;exact tX λF C=>qE4 4 5 45 41 2 (a 2) 3 (a 3) (stA _) #[iv 0,iv _] λ_=>⟨rfl,CgQ.af C⟩) (by refine tR 4 [2,0,3,4,7,3,0] λy _ _=>?_;exact tX λF C=>qE4 4 5 45 41 2 (a 2) 3 (a 3) (stA _) #[iv 0,iv _] λ_=>⟨rfl,CgQ.af C⟩))
theorem WT(s:Sto)(k:Int)(c d:Nat)(q v:Int)(w:World)(k0:0<=k)(k3:k<=3)(U:c<8)(hn:d<8)(q0:0<=q)(q1:q<=1048576) :
  Calls prog 42 #[.agg (stA s),.agg #[iv k,iv (c:Int),iv q,iv (d:Int),iv v]] w λe w'=>e=.returned (.tuple #[.agg (stA (dnS s ⟨k,c,q,d,v⟩)),.agg #[iv (dnC s ⟨k,c,q,d,v⟩),iv (dnA s ⟨k,c,q,d,v⟩)]])/\Bw w w':=by
 have a4:∀ b,w.heap.size<=b->gS.t b=.z/\gS.k b=0:=λ_ _=>⟨rfl,rfl⟩;refine gI (fn:=f42) [] gS func42 a4 (qR [] 14 [0,0,0,0,1,0,1,0,1] λa g1 w1 x=>?_);by_cases h:k=0
 .refine qI ((k==0)) true (by simpa using h) (qR [] 7 [0,2,0,3,0] λf3 g2 w2 c2=>?_);rw[show dnS s ⟨k,c,q,d,v⟩=s from if_neg (λg=>g.1 h),show dnC s ⟨k,c,q,d,v⟩=0 from if_pos h,show dnA s ⟨k,c,q,d,v⟩=0 from if_pos h];exact qE4 4 5 45 41 2 (a 2) 3 (a 3) (stA s) #[iv 0,iv 0] λK=>⟨rfl,Cg.af (x.trans c2) (λ_ _=>Q')⟩
 .refine qI ((k==0)) false (by simpa using h) (qR [] 3 [] λf4 g3 w3 G=>DS 49 (λN w' e L=>e=[(2,pt (a 0) 0),(3,pt (a 1) 0),(4,pt (a 2) 0),(5,pt (a 3) 0),(6,iv (s.L c))]/\L=[⟨(a 0),.cells (stA s) 45,.z,false⟩,⟨(a 1),.cells #[iv k,iv (c:Int),iv q,iv (d:Int),iv v] 51,.z,false⟩,⟨(a 2),.cells (stA AN) 45,.l,false⟩,⟨(a 3),.cells #[iv 0,iv 0] 41,.l,false⟩]/\True/\Cg w.heap.size ([]:List Tg) g3 w3 N w') (by kernel_rfl) ?_ ?_)
  .intro J hJ;rcases lt8 U with rfl|rfl|rfl|rfl|rfl|rfl|rfl|rfl <;>
   (refine qR [] 7 [1,0] λf5 g5 w5 c5=>?_;exact qB [true,true,true,true] λz Q K=>hJ _ _ _ z _ ⟨rfl,rfl,trivial,(c5.nil ([]:List Tg))⟩ K)
  rintro g4 w4 _ z4 _ ⟨rfl,rfl,_,H⟩;refine qR [] 7 [1] λf6 g6 w6 I=>qV 3 (iv (q+1)) (AO 20 q underlying3 (by omega)) (qR [] 3 [] λf7 g7 w7 M=>?_);by_cases i:s.L c=q+1
  .refine qI (((s.L c)==(q+1))) true (by simpa using i) (qR [] 2 [6] λf8 g8 w8 c8=>DS 49 (λN w' e L=>e=[(2,pt (a 0) 0),(3,pt (a 1) 0),(4,pt (a 2) 0),(5,pt (a 3) 0)]/\L=[⟨(a 0),.cells (stA s) 45,.z,false⟩,⟨(a 1),.cells #[iv k,iv (c:Int),iv q,iv (d:Int),iv v] 51,.z,false⟩,⟨(a 2),.cells (stA s) 45,.l,false⟩,⟨(a 3),.cells #[iv (s.C c),iv (s.A c)] 41,.l,false⟩]/\True/\Cg w.heap.size ([]:List Tg) g8 w8 N w') (by kernel_rfl) ?_ ?_)
   .intro J hJ;rcases lt8 U with rfl|rfl|rfl|rfl|rfl|rfl|rfl|rfl <;>
    (refine qR [] 3 [0,0,2,6] λa8 c0 e0 p=>?_;exact DM 2 6 (by kernel_rfl) (by(refine qR [] 2 [1,8] λa9 d0 e1 E=>?_;exact DM 5 6 (by kernel_rfl) (by(refine qR [] 4 [0,13,2,0,15,3,0] λb0 d1 e2 V=>?_;exact qB [true,true,true,true] λz Q K=>hJ _ _ _ z _ ⟨rfl,rfl,trivial,(((p.nil ([]:List Tg)).n E).n V)⟩ K)) (by(refine qR [] 4 [2,0,11,0,15,3,0] λb1 d2 e3 W=>?_;exact qB [true,true,true,true] λz Q K=>hJ _ _ _ z _ ⟨rfl,rfl,trivial,(((p.nil ([]:List Tg)).n E).n W)⟩ K)))) (by(refine qR [] 6 [2,0,5,1,8,11,0,15,3,0] λb2 d3 e4 X=>?_;exact qB [true,true,true,true] λz Q K=>hJ _ _ _ z _ ⟨rfl,rfl,trivial,((p.nil ([]:List Tg)).n X)⟩ K)))
   rintro g9 w9 _ z9 _ ⟨rfl,rfl,_,c9⟩;rw[show dnS s ⟨k,c,q,d,v⟩=s from if_neg (λg=>g.2.1 (by show q<s.L c;omega)),show dnC s ⟨k,c,q,d,v⟩=s.C c from(if_neg h).trans (if_pos i),show dnA s ⟨k,c,q,d,v⟩=s.A c from(if_neg h).trans (if_pos i)];exact qE4 4 5 45 41 2 (a 2) 3 (a 3) (stA s) #[iv (s.C c),iv (s.A c)] λK=>⟨rfl,Cg.af ((((((x.trans G).trans H).trans I).trans M).trans c8).trans c9) (λ_ _=>Q')⟩
  .refine qI (((s.L c)==(q+1))) false (by simpa using i) (qR [] 8 [1] λb3 d4 e5 m=>?_);by_cases j:q<s.L c
   .refine qI ((decide (q<(s.L c)))) true (M' j) (qR [] 7 [0,2,0,3,0] λb4 d5 e6 Y=>?_);rw[show dnS s ⟨k,c,q,d,v⟩=s from if_neg (λg=>g.2.1 j),show dnC s ⟨k,c,q,d,v⟩=7 from(if_neg h).trans ((if_neg i).trans (if_pos j)),show dnA s ⟨k,c,q,d,v⟩=0 from(if_neg h).trans ((if_neg i).trans (if_pos j))];exact qE4 4 5 45 41 2 (a 2) 3 (a 3) (stA s) #[iv 7,iv 0] λK=>⟨rfl,Cg.af ((((((x.trans G).trans H).trans I).trans M).trans m).trans Y) (λ_ _=>Q')⟩
   .refine qI ((decide (q<(s.L c)))) false (E' j) (qR [] 2 [] λb5 a3 a5 r=>DS 49 (λN w' e L=>e=[(2,pt (a 0) 0),(3,pt (a 1) 0),(4,pt (a 2) 0),(5,pt (a 3) 0),(36,.bool (s.R c))]/\L=[⟨(a 0),.cells (stA s) 45,.z,false⟩,⟨(a 1),.cells #[iv k,iv (c:Int),iv q,iv (d:Int),iv v] 51,.z,false⟩,⟨(a 2),.cells (stA AN) 45,.l,false⟩,⟨(a 3),.cells #[iv 0,iv 0] 41,.l,false⟩]/\True/\Cg w.heap.size ([]:List Tg) a3 a5 N w') (by kernel_rfl) ?_ ?_)
    .intro J hJ;rcases lt8 U with rfl|rfl|rfl|rfl|rfl|rfl|rfl|rfl <;>
     (refine qR [] 7 [1,0] λb6 d7 e8 Z=>?_;exact qB [true,true,true,true] λz Q K=>hJ _ _ _ z _ ⟨rfl,rfl,trivial,(Z.nil ([]:List Tg))⟩ K)
    rintro d6 e7 _ f2 _ ⟨rfl,rfl,_,u⟩;by_cases o:s.R c=true
    .refine qI ((s.R c)) true o (qR [] 7 [0,2,0,3,0] λb7 d8 e9 a0=>?_);rw[show dnS s ⟨k,c,q,d,v⟩=s from if_neg (λg=>Bool.noConfusion (o.symm.trans g.2.2)),show dnC s ⟨k,c,q,d,v⟩=11 from(if_neg h).trans ((if_neg i).trans ((if_neg j).trans (if_pos o))),show dnA s ⟨k,c,q,d,v⟩=0 from(if_neg h).trans ((if_neg i).trans ((if_neg j).trans (if_pos o)))];exact qE4 4 5 45 41 2 (a 2) 3 (a 3) (stA s) #[iv 11,iv 0] λK=>⟨rfl,Cg.af ((((((((x.trans G).trans H).trans I).trans M).trans m).trans r).trans u).trans a0) (λ_ _=>Q')⟩
    .refine qI ((s.R c)) false (by simpa using o) ?_;obtain⟨S,hS⟩:∃ S,MW s ⟨k,c,q,d,v⟩=S:=⟨_,rfl⟩;obtain⟨A,hA⟩:∃ A,SJ s ⟨k,c,q,d,v⟩=A:=⟨_,rfl⟩;refine qR [] 6 [0,1] λb8 O P F=>?_;have a6:=(Cg.af ((((((((x.trans G).trans H).trans I).trans M).trans m).trans r).trans u).trans F) (λ_ _=>Q'));refine Af λy=>?_;have a7:∀ z,P.heap.size<=z->O.t z=.z:=λz hz=>(y.new z hz).1;refine qC 2 (Xk s k c d q v P (by omega) U hn q0 q1 hS hA) ?_;rintro e' f0 ⟨rfl,D⟩;refine⟨_,rfl,D,?_⟩;have a1:=Cg.eb (B:=w.heap.size) (T:=[]) (g:=O) D;refine qR [] 5 [2,0,3,0] λb9 d9 f1 a2=>?_;rw[show dnS s ⟨k,c,q,d,v⟩=S from(if_pos ⟨h,j,by simpa using o⟩).trans hS,show dnC s ⟨k,c,q,d,v⟩=0 from(if_neg h).trans ((if_neg i).trans ((if_neg j).trans (if_neg o))),show dnA s ⟨k,c,q,d,v⟩=A from(if_neg h).trans ((if_neg i).trans ((if_neg j).trans ((if_neg o).trans hA)))];exact qE4 4 5 45 41 2 (a 2) 3 (a 3) (stA S) #[iv 0,iv A] λK=>⟨rfl,Cg.af ((((((((((x.trans G).trans H).trans I).trans M).trans m).trans r).trans u).trans F).trans a1).trans a2) (λ_ _=>Q')⟩
theorem bf{s:Sto}(j:m.e=0){S:Sto}(i:dnS s m=S){C A:Int}(h:dnC s m=C)(g:dnA s m=A) :
  Calls prog 42 #[.agg (stA s),.agg #[iv m.k,iv m.c,iv m.s,iv m.n,iv m.v]] w λe w'=>e=.returned (.tuple #[.agg (stA S),.agg #[iv C,iv A]])/\Bw w w':=by
 subst i h g;obtain⟨k,c,q,n,v⟩:=m;obtain⟨b,f⟩:=Fy j;unfold InC at f;simp only at b f ⊢;obtain⟨a,rfl⟩:∃ a:Nat,c=(a:Int):=⟨c.toNat,by omega⟩;obtain⟨d,rfl⟩:∃ d:Nat,n=(d:Int):=⟨n.toNat,by omega⟩;exact WT s k a d q v w b.1 b.2 (by omega) (by omega) (by omega) (by omega)
theorem WS{s:Sto}(a:Nj s=E):Calls prog 40 #[.agg (stA s)] w λe w'=>e=.returned (iv E)/\Bw w w':=by subst a;exact TF s w
theorem VV(b:NTab w){E:Int}(a:m.e=E):Calls prog 41 #[.agg #[iv m.k,iv m.c,iv m.s,iv m.n,iv m.v]] w λe w'=>e=.returned (iv E)/\Bw w w':=by subst a;exact Ex m.k m.c m.s m.n m.v w b
theorem gb(s:Sto)(m:Cmd)(w:World)(hN:NTab w) :
  Calls prog 21 #[.agg (stA s),.agg #[iv m.k,iv m.c,iv m.s,iv m.n,iv m.v]] w λe w'=>e=.returned (.tuple #[.agg (stA (doS s m)),.agg #[iv (doC s m),iv (doA s m)],iv (doE s m)])/\Bw w w':=by
 obtain⟨E,o⟩:∃ E,Nj s=E:=⟨_,rfl⟩;obtain⟨F,Y⟩:∃ F,m.e=F:=⟨_,rfl⟩;have Z:∀ b,w.heap.size<=b->gS.t b=.z/\gS.k b=0:=λ_ _=>⟨rfl,rfl⟩;refine gI (fn:=f21) [] gS func21 Z (qR [] 12 [0,0,0,0,1,0,1,0,0] λa g1 w1 j=>?_);have a5:=(Cg.af j (λ_ _=>Q'));refine Af λI=>?_;have a9:∀ z,w1.heap.size<=z->g1.t z=.z:=λz D=>(I.new z D).1;refine qC 1 (WS o) ?_;rintro e' w2 ⟨rfl,b2⟩;refine⟨_,rfl,b2,?_⟩;have r:=Cg.eb (B:=w.heap.size) (T:=[]) (g:=g1) b2;refine qR [] 7 [] λb8 g3 w3 u=>?_;by_cases x:E≠0
 .refine qI ((E != 0)) true (by simpa using x) (qR [] 9 [2,0,3,0] λb9 g4 w4 c4=>?_);have h:doE s m=E:=by unfold doE;unfold Nj at o;split at o;exact absurd o.symm x;rename_i g;rw[if_neg g];exact o
  have d:doE s m≠0:=by rw[h];exact x
  rw[XP d,XL d,show doA s m=0 from if_neg d,h];exact qE5 4 5 6 45 41 2 (a 2) 3 (a 3) (stA AN) #[iv 0,iv 0] (iv E) λK=>⟨rfl,(Cg.af (((j.trans r).trans u).trans c4) (λ_ _=>Q'))⟩
 .refine qI ((E != 0)) false (by simpa using x) ?_;have hB:EZ s:=pc λg=>absurd (o.symm.trans (KG g)) (by rw[show E=0 from by simpa using x];decide);refine qR [] 5 [1] λc0 g5 w5 G=>?_;have N:=(Cg.af (((j.trans r).trans u).trans G) (λ_ _=>Q'));refine Af λM=>?_;have b0:∀ z,w5.heap.size<=z->g5.t z=.z:=λz D=>(M.new z D).1;refine qC 1 (VV (hN.af N) Y) ?_;rintro e' w6 ⟨rfl,b6⟩;refine⟨_,rfl,b6,?_⟩;have V:=Cg.eb (B:=w.heap.size) (T:=[]) (g:=g5) b6;refine qR [] 7 [] λd0 g7 w7 W=>?_;by_cases H:F≠0
  .refine qI ((F != 0)) true (by simpa using H) (qR [] 9 [2,0,3,0] λd1 g8 w8 c8=>?_);have h:doE s m=F:=(if_pos hB).trans Y;have d:doE s m≠0:=by rw[h];exact H
   rw[XP d,XL d,show doA s m=0 from if_neg d,h];exact qE5 4 5 6 45 41 2 (a 2) 3 (a 3) (stA AN) #[iv 0,iv 0] (iv F) λK=>⟨rfl,(Cg.af ((((((j.trans r).trans u).trans G).trans V).trans W).trans c8) (λ_ _=>Q'))⟩
  .refine qI ((F != 0)) false (by simpa using H) ?_;have y:m.e=0:=by rw[Y];simpa using H
   have h:doE s m=0:=(if_pos hB).trans y;obtain⟨S,hS⟩:∃ S,dnS s m=S:=⟨_,rfl⟩;obtain⟨C,hC⟩:∃ C,dnC s m=C:=⟨_,rfl⟩;obtain⟨A,hA⟩:∃ A,dnA s m=A:=⟨_,rfl⟩;refine qR [] 5 [0,1] λd2 g9 w9 c9=>?_;have a1:=(Cg.af ((((((j.trans r).trans u).trans G).trans V).trans W).trans c9) (λ_ _=>Q'));refine Af λp=>?_;have a2:∀ z,w9.heap.size<=z->g9.t z=.z:=λz D=>(p.new z D).1;refine qC 2 (bf y hS hC hA) ?_;rintro e' b1 ⟨rfl,q⟩;refine⟨_,rfl,q,?_⟩;have O:=Cg.eb (B:=w.heap.size) (T:=[]) (g:=g9) q;refine qR [] 11 [0,0,0,0,4,0,5,0,2,0,4] λi X a0 P=>DS 33 (λg' w' e L=>e=[(4,pt (a 2) 0),(5,pt (a 3) 0),(6,iv 0)]/\L=[⟨(a 0),.cells (stA s) 45,.z,false⟩,⟨(a 1),.cells #[iv m.k,iv m.c,iv m.s,iv m.n,iv m.v] 51,.z,false⟩,⟨(a 2),.cells (stA S) 45,.l,false⟩,⟨(a 3),.cells #[iv C,iv A] 41,.l,false⟩,⟨(i 0),.cells (stA S) 45,.z,false⟩,⟨(i 1),.cells #[iv C,iv A] 41,.z,false⟩]/\True/\Cg w.heap.size ([]:List Tg) X a0 g' w') (by kernel_rfl) ?_ ?_
   .intro J hJ
    (exact DM 1 2 (by kernel_rfl) (by(refine qR [] 5 [5,5,2,0,7,3,0,8] λa3 a7 b4 R=>?_;exact qB [true,true,true,true,true,true] λz K0 K=>hJ _ _ _ z _ ⟨rfl,rfl,trivial,(R.nil ([]:List Tg))⟩ K)) (by(refine qR [] 5 [2,0,3,5,7,3,0,8] λa4 a8 b5 U=>?_;exact qB [true,true,true,true,true,true] λz K0 K=>hJ _ _ _ z _ ⟨rfl,rfl,trivial,(U.nil ([]:List Tg))⟩ K)))
   rintro a6 b3 _ b7 _ ⟨rfl,rfl,_,Q⟩;rw[OI h,RS h,RR h,h,hS,hC,hA];exact qE5 4 5 6 45 41 2 (a 2) 3 (a 3) (stA S) #[iv C,iv A] (iv 0) λK=>⟨rfl,(Cg.af (((((((((j.trans r).trans u).trans G).trans V).trans W).trans c9).trans O).trans P).trans Q) (λ_ _=>Q'))⟩
theorem DH(s:Sto)(k c q n v:Int)(w:World)(a:NTab w) :
  Calls prog 21 #[.agg (stA s),.agg (cmA k c q n v)] w λe w'=>e=.returned (.tuple #[.agg (stA (doS s ⟨k,c,q,n,v⟩)),.agg #[.int .i64 (doC s ⟨k,c,q,n,v⟩),.int .i64 (doA s ⟨k,c,q,n,v⟩)],.int .i64 (doE s ⟨k,c,q,n,v⟩)])/\Bw w w':=gb s ⟨k,c,q,n,v⟩ w a
theorem YU{v:Value}{l:List Int}{a:Int}(h:Sl w v l)(f:AB w)(j:Di w)(d:NTab w)(i:opE l a=e0)(g:FH l a=c) :
  Calls prog 60 #[v,iv a] w λe w'=>e=.returned (.tuple #[.agg #[iv c.k,iv c.c,iv c.s,iv c.n,iv c.v],iv e0])/\Bw w w':=by
 have b:=VN v l a w h f j d;rw[iA,i,g]at b
 exact b
theorem W9(h:NS i nb ob g w p ls ts){w0:World}(H:Base w0 g w)(E:Tabs w0)(dv:S3)(y:List Int)(hd:Sl w dv.v y){n:Nat}(b0:NOk n p)(f9:p.bad<100000000)(hw:p.bn.length<100000000)(e9:ts.length<100000000){A:Int}{c:Cmd}(he:opE y (p.done:Int)=A)(hc:FH y (p.done:Int)=c) :
  Calls prog 30 #[pt nb 0,dv.v] w (NP i nb ob g w (.tuple #[]) (p.rG i A c ts).1 ls (p.rG i A c ts).2):=by
 obtain⟨x,lt,tl,I,M,hg⟩:=h;have e8:=b0.dn;have i7:=b0.ag;refine gI (fn:=f30) (TN i) g func30 hg (qN I (qO M (qR [] 9 [0] λs1 g1 w1 m=>?_)));by_cases h1:p.up=true
 .refine qI ((!p.up)) false (by simpa using h1) ?_;have t:¬ p.up=false:=by simp[h1]
  refine qR [] 9 [0] λs2 g2 w2 o=>?_;have G:=H.ch (m.trans o);have e7:=Cg.af (m.trans o) (λ_ _=>Q');refine qC 6 (YU (hd.af e7) (G.tt E) (G.tq E) (G.tn E) he hc) ?_;rintro F w3 ⟨rfl,b3⟩;refine⟨_,rfl,b3,?_⟩;have q:=Cg.eb (B:=w.heap.size) (T:=[]) (g:=g2) b3;refine qR [] 13 [0,0,2,0] λs4 g4 w4 r=>?_;by_cases h2:A≠0
  .refine qI ((A != 0)) true (by simpa using h2) (qR [] 6 [0] λs5 g5 w5 c5=>qV 4 (iv ((p.bad+1:Nat):Int)) (AO 29 (p.bad:Int) underlying3 (by omega)) (qR [.n 0 i] 4 [0,1] λs6 g6 w6 c6=>qE (.tuple #[]) λK=>?_));rw[show p.rG i A c ts=({ p with bad:=p.bad+1 },ts)from(if_neg t).trans (if_pos h2)];have C7:=(((((m.nil ([.n 0 i]:List Tg)).n o).n q).n r).n c5).trans (c6);exact⟨_,rfl,⟨x,lt,tl,K.sQ 0 I C7,M.ch C7 (hn:=by simp<;>omega),K.new⟩,((((((m.nil (TN i)).n o).n q).n r).n c5).trans (c6.mono (by simp[TN])))⟩
  .refine qI ((A != 0)) false (by simpa using h2) (qR [] 6 [4,0,4,2] λs8 g8 w8 u=>Af λK=>?_);have b9:NS i nb ob g8 w8 p ls ts:=(nsC I M ((((m.n o).n q).n r).n u) K);refine qC 1 (Uq b9 e8) ?_;rintro F j7 ⟨m0,rfl,b1,O⟩;refine⟨_,rfl,O,?_⟩;have a:=Cg.eb (B:=w.heap.size) (T:=[]) (g:=g8) O;refine qC 3 (F1 (l:=p.ab.take p.done) b1 (by rw[X'];omega) c) ?_;rintro F j8 ⟨rfl,P⟩;refine⟨_,rfl,P,?_⟩;have b:=Cg.eb (B:=w.heap.size) (T:=[]) (g:=g8) P;refine qR [] 1 [] λi8 h0 j9 d=>?_;by_cases h3:c∈p.ab.take p.done
   .refine qI ((decide (c∈p.ab.take p.done))) true (by simpa using h3) (qR [] 8 [16,0,2,4,6,8,0,10,2] λi9 e2 f4 j=>DS 55 (λg' w' e L=>∃ (b6 b7:Nat),e=[(0,pt nb 0),(4,pt (s4 0) 0),(6,pt b6 0),(7,pt b7 0)]/\L=[⟨nb,.cells (AG i ob p x) 111,.n 0 i,false⟩,⟨ob,.cells #[S3.v lt,S3.v tl] 88,.n 50 0,false⟩,⟨(s4 0),.cells #[iv c.k,iv c.c,iv c.s,iv c.n,iv c.v] 51,.z,false⟩,⟨b6,.cells (stA (doS p.ni c)) 45,.l,false⟩,⟨b7,.cells #[iv (doC p.ni c),iv (doA p.ni c)] 41,.l,false⟩]/\Cg w.heap.size [] g w g' w') (by kernel_rfl) ?_ ?_)
    .intro J hJ;refine Ym 6 11 12 (by kernel_rfl) ?_ ?_ ?_
     .have hB18:=H.ch ((((((((m.trans o).trans q).trans r).trans u).trans a).trans b).trans d).trans j) (by simp);refine qC 6 (DH p.ni c.k c.c c.s c.n c.v f4 (hB18.tn E)) ?_;rintro F k0 ⟨rfl,Q⟩;refine⟨_,rfl,Q,?_⟩;have W:=Cg.eb (B:=w.heap.size) (T:=[]) (g:=e2) Q;refine qR [] 4 [14,16,18,20] λj0 h4 k1 X=>DM 11 12 (by kernel_rfl) ?_ ?_
      .refine qR [] 6 [1,0,25,1,0,27,3,0,29,4,0,30] λb2 h5 k2 c9=>qB [true,true,true,true,true] λz N K=>hJ _ _ _ z _ ⟨(b2 0),(b2 1),rfl,rfl,(((((((((((m.trans o).trans q).trans r).trans u).trans a).trans b).trans d).trans j).trans W).trans X).trans c9)⟩ K
      .refine qR [] 6 [1,0,23,1,0,27,4,0,29,3,0,30] λb4 h6 k3 d0=>NE ?_;exact qB [true,true,true,true,true] λz N K=>hJ _ _ _ z _ ⟨(b4 1),(b4 0),rfl,rfl,(((((((((((m.trans o).trans q).trans r).trans u).trans a).trans b).trans d).trans j).trans W).trans X).trans d0)⟩ K
     .refine qR [] 1 [1,0] λb5 e3 f5 C=>DM 6 12 (by kernel_rfl) ?_ ?_
      .have hB25:=H.ch (((((((((m.trans o).trans q).trans r).trans u).trans a).trans b).trans d).trans j).trans C) (by simp);refine qC 6 (DH p.ni c.k c.c c.s c.n c.v f5 (hB25.tn E)) ?_;rintro F k4 ⟨rfl,R⟩;refine⟨_,rfl,R,?_⟩;have d1:=Cg.eb (B:=w.heap.size) (T:=[]) (g:=e3) R;refine qR [] 9 [14,16,18,20,25,1,0,27,3,0,29,4,0,30] λf0 h7 k5 d2=>qB [true,true,true,true,true] λz N K=>hJ _ _ _ z _ ⟨(b5 0),(f0 0),rfl,rfl,(((((((((((m.trans o).trans q).trans r).trans u).trans a).trans b).trans d).trans j).trans C).trans d1).trans d2)⟩ K
      .refine qR [] 1 [1,0] λf1 e4 f6 Y=>?_;have a4:=H.ch ((((((((((m.trans o).trans q).trans r).trans u).trans a).trans b).trans d).trans j).trans C).trans Y) (by simp);refine qC 6 (DH p.ni c.k c.c c.s c.n c.v f6 (a4.tn E)) ?_;rintro F k6 ⟨rfl,S⟩;refine⟨_,rfl,S,?_⟩;have d3:=Cg.eb (B:=w.heap.size) (T:=[]) (g:=e4) S;refine qR [] 8 [14,16,18,20,27,3,0,29,4,0,30] λj1 h8 k7 d4=>qB [true,true,true,true,true] λz N K=>hJ _ _ _ z _ ⟨(b5 0),(f1 0),rfl,rfl,((((((((((((m.trans o).trans q).trans r).trans u).trans a).trans b).trans d).trans j).trans C).trans Y).trans d3).trans d4)⟩ K
     .refine qR [] 1 [1,0] λb8 e5 f7 D=>DM 6 11 (by kernel_rfl) ?_ ?_
      .have hB34:=H.ch (((((((((m.trans o).trans q).trans r).trans u).trans a).trans b).trans d).trans j).trans D) (by simp);refine qC 6 (DH p.ni c.k c.c c.s c.n c.v f7 (hB34.tn E)) ?_;rintro F k8 ⟨rfl,U⟩;refine⟨_,rfl,U,?_⟩;have d5:=Cg.eb (B:=w.heap.size) (T:=[]) (g:=e5) U;refine qR [] 9 [14,16,18,20,23,1,0,27,4,0,29,3,0,30] λf2 h9 k9 d6=>NE ?_;exact qB [true,true,true,true,true] λz N K=>hJ _ _ _ z _ ⟨(f2 0),(b8 0),rfl,rfl,(((((((((((m.trans o).trans q).trans r).trans u).trans a).trans b).trans d).trans j).trans D).trans d5).trans d6)⟩ K
      .refine qR [] 1 [1,0] λf3 e6 f8 Z=>?_;have a5:=H.ch ((((((((((m.trans o).trans q).trans r).trans u).trans a).trans b).trans d).trans j).trans D).trans Z) (by simp);refine qC 6 (DH p.ni c.k c.c c.s c.n c.v f8 (a5.tn E)) ?_;rintro F l0 ⟨rfl,V⟩;refine⟨_,rfl,V,?_⟩;have d7:=Cg.eb (B:=w.heap.size) (T:=[]) (g:=e6) V;refine qR [] 8 [14,16,18,20,27,4,0,29,3,0,30] λj2 i0 l1 d8=>NE ?_;exact qB [true,true,true,true,true] λz N K=>hJ _ _ _ z _ ⟨(f3 0),(b8 0),rfl,rfl,((((((((((((m.trans o).trans q).trans r).trans u).trans a).trans b).trans d).trans j).trans D).trans Z).trans d7).trans d8)⟩ K
    .rintro g16 w16 _ z16 _ ⟨b6,b7,rfl,rfl,hcc⟩;refine qR [] 5 [2,4] λj3 i1 l2 a0=>?_;rw[show p.rG i A c ts=(p,(ts++[⟨i,c.c,c.s,doC p.ni c,doA p.ni c⟩]))from(if_neg t).trans ((if_neg h2).trans (if_pos h3))];refine qS 3 [false,false,true,true,true] I M (hcc.n a0) (λc0=>Rm c0 e9 c (doC p.ni c) (doA p.ni c)) λi2 l3 l8 g0 g7 a6 a8 d9=>qR [] 1 [] λj4 i3 l4 a1=>qF a6 a8 a1 ((((hcc.nil (TN i)).n a0).trans (d9)).n a1)
   .refine qI ((decide (c∈p.ab.take p.done))) false (by simpa using h3) (qR [] 4 [2] λj5 i4 l5 a2=>?_);rw[show p.rG i A c ts=(p.want c,ts)from(if_neg t).trans ((if_neg h2).trans (if_neg h3))];refine qS 2 [false,false,true] I M ((((((((m.n o).n q).n r).n u).n a).n b).n d).n a2) (λc7=>bv c7 h1 hw c) λi5 l6 l9 g3 g9 a7 a9 e1=>qR [] 1 [] λj6 i6 l7 a3=>qF a7 a9 a3 (((((((((((m.nil (TN i)).n o).n q).n r).n u).n a).n b).n d).n a2).trans (e1)).n a3)
 .refine qI ((!p.up)) true (by simpa using h1) (qE (.tuple #[]) λK=>?_);rw[show p.rG i A c ts=(p,ts)from if_pos (by simpa using h1)];exact⟨_,rfl,(nsC I M m K),(m.nil (TN i))⟩
def PL(Q:Nat->Bool):Nat->Nat
 | 0=>0
 | k+1=>PL Q k+(Q k).toNat
theorem jH(Q:Nat->Bool):PL Q 5=Jd Q:=by simp only[PL,Jd];omega
theorem bV(Q:Nat->Bool)(k:Nat):PL Q k<=k:=by
 induction k with
 | zero=>exact A' _
 | succ k ih=>simp only[PL];cases Q k<;>simp<;>omega
theorem mc{x y:Operand}{t:TypeId}(a b:Int)(d:P.underlying t=some (.int .i64))(h:-9223372036854775808<=a*b/\a*b<=9223372036854775807):(do Go.eqGuard .mul t x y (iv a) (iv b);Go.binOp .mul t (iv a) (iv b):Sem Value).run P W=.ok (iv (a*b)) W:=by
 have c:IntKind.i64.wrap (a*b)=a*b:=by rw[IntKind.wrap_i64];omega
 simp[Go.eqGuard,Go.binOp,go_sem,c]
theorem RX(h:NS i nb ob g w p ls ts) :
  Calls prog 115 #[pt nb 11] w λe w'=>e=.returned (.bool p.av.rm)/\Bw w w':=by
 obtain⟨x,lt,tl,E,F,G⟩:=h;refine gI (fn:=f115) (TN i) g func115 G (qN E (qO F (qR [] 18 [0] λY P w1 q=>Ca 20 [(3,iv 0),(9,.agg #[.bool (p.av.qZ 0),.bool (p.av.qZ 1),.bool (p.av.qZ 2),.bool (p.av.qZ 3),.bool (p.av.qZ 4)]),(10,iv 0)] [false,false] [] (λk A w' e L=>∃ (k0 c:Nat),c=PL p.av.qZ k0/\k=5-k0/\k0<=5/\e=[(3,iv (c:Int)),(9,.agg #[.bool (p.av.qZ 0),.bool (p.av.qZ 1),.bool (p.av.qZ 2),.bool (p.av.qZ 3),.bool (p.av.qZ 4)]),(10,iv (k0:Int))]/\L=[]/\Cg w.heap.size [] g w A w') (by kernel_rfl) (by kernel_rfl) (by kernel_rfl) (by kernel_rfl) 5 (λK=>?_) ?_)))
 .exact⟨0,0,rfl,rfl,by omega,rfl,rfl,q⟩
 .rintro k gr wr _ zr _ ⟨k0,c,hc,rfl,hk0,rfl,rfl,hC⟩ J hJ;have l:=bV p.av.qZ k0;refine qR [] 5 [] λZ Q w2 j=>?_;by_cases D:k0<5
  .refine qI ((decide ((k0:Int)<5))) true (M' (by omega)) (qR [] 5 [] λs3 R w3 m=>?_);refine cR 0 (.bool (p.av.qZ k0)) (λK=>(by rcases ri D with rfl|rfl|rfl|rfl|rfl<;>kernel_rfl)) (by kernel_rfl) ?_;refine qR [] 6 [] λs4 S w4 n=>?_;by_cases a:p.av.qZ k0=true
   .refine qI ((p.av.qZ k0)) true a (qR [] 2 [] λs5 T w5 r=>qV 1 (iv ((c:Int)+1)) (AO 14 (c:Int) underlying3 (by omega)) (qR [] 4 [] λs6 U w6 s=>qV 0 (iv ((k0:Int)+1)) (AO 10 (k0:Int) underlying3 (by omega)) (qR [] 2 [] λs7 V w7 t=>qB [] λz o K=>hJ (5-(k0+1)) _ _ _ z _ (by omega) ⟨k0+1,(c+1),by simp only[PL];rw[a,hc];rfl,rfl,by omega,rfl,rfl,hC.trans (((((j.trans m).trans n).trans r).trans s).trans t)⟩ K)))
   .refine qI ((p.av.qZ k0)) false (by simpa using a) (qR [] 3 [] λs8 W w8 u=>qV 0 (iv ((k0:Int)+1)) (AO 10 (k0:Int) underlying3 (by omega)) (qR [] 2 [] λs9 X w9 v=>qB [] λz o K=>hJ (5-(k0+1)) _ _ _ z _ (by omega) ⟨k0+1,c,by simp only[PL];rw[(by simpa using a:p.av.qZ k0=false),hc];rfl,rfl,by omega,rfl,rfl,hC.trans ((((j.trans m).trans n).trans u).trans v)⟩ K))
  .refine qI ((decide ((k0:Int)<5))) false (E' (by omega)) ?_;obtain rfl:k0=5:=by omega
   rw[jH]at hc l
   refine qR [] 4 [] λI B N b=>qV 1 (iv (2*(c:Int))) (mc (x:=(.const (iv 2))) (y:=(.tmp 17)) 2 (c:Int) underlying3 (by omega)) (qR [] 3 [] λM C O d=>?_);rw[show p.av.rm=decide ((5:Int)<2*(c:Int))from by unfold Rnd.rm;rw[<- hc];by_cases H:5<2*c<;>simp[H]<;>omega];exact qE (.bool (decide ((5:Int)<2*(c:Int)))) λK=>⟨rfl,Cg.af (hC.trans ((j.trans b).trans d)) (λ_ _=>Q')⟩
structure Svv(w:World)(x:Value)(ls:List (List Vt)):Prop where
 ex:∃ a cap,x=.slice a ls.length cap/\(ls=[]\/∃ b off,a=some ⟨b,off,none⟩/\b<w.heap.size/\∀ (i:Nat) (l:List Vt),ls[i]?=some l->∃ y,w.cell? ⟨b,off+i,none⟩=some y/\Sv w y l)
 len:ls.length<=5864062014634
theorem Svv.shape{x:Value}{b:List (List Vt)}(h:Svv w x b):∃ a cap,x=.slice a b.length cap:=by
 obtain⟨⟨a,cap,e,_⟩,_⟩:=h;exact⟨a,cap,e⟩
theorem Svv.spot{a:Option Addr}{c:Nat}{g:List (List Vt)}(h:Svv w (.slice a n c) g)(i:Nat)(l:List Vt)(f:g[i]?=some l):∃ b off y,a=some ⟨b,off,none⟩/\b<w.heap.size/\w.cell? ⟨b,off+i,none⟩=some y/\Sv w y l:=by
 obtain⟨⟨k,d,e,j⟩,_⟩:=h;simp only[Value.slice.injEq]at e;obtain⟨rfl,rfl,rfl⟩:=e;rcases j with rfl|⟨b,off,rfl,hb,hc⟩
 .simp at f
 .obtain⟨y,h3,h4⟩:=hc i l f;exact⟨b,off,y,rfl,hb,h3,h4⟩
theorem iP{x:S3}{c:Nat}(d:x.a=some ⟨b,c,none⟩)(j:Nat)(f:j<x.n):(Instr.indexAt 236 x.v (iv (j:Int))).run prog W=.ok (pt b (c+j)) W:=by
 obtain⟨g,i,h⟩:=x;simp only at d f;subst d;exact Kv (P:=prog) (e:=97) (z:=1) underlying236 (by kernel_rfl) (by kernel_rfl) f _ (by rw[qQ])
theorem dh{b:Vt}(h:EY (BQ (Ae L s) none) b)(a:u.bu≠s):EY (BQ (Ae (L++[u]) s) none) b:=by
 rw[JO,if_neg a,mT];exact h
theorem dg{b:Vt}(h:EY (BQ (Ae L s) none) b)(a:u.bu=s)(c:Ac u.b):EY (BQ (Ae (L++[u]) s) none) (if b.b.lt u.b then u else b):=by
 rw[JO,if_pos a,R6];exact h.next c
theorem QC{a:List (List Vt)}{b:Vt}{d:World}{f:Bool}(h:(Hm a s=b.w/\DX a s=!decide (b.b.r=0/\b.b.n=0)/\Ce a s=0))(g:decide (b.b=Bd)=!f)(e:Bw w d):(Ending.returned (.tuple #[.agg #[iv b.w.k,iv b.w.c,iv b.w.s,iv b.w.n,iv b.w.v],.bool f,iv 0]):Ending)=.returned (.tuple #[.agg (cmC (Hm a s)),.bool (DX a s),.int .i64 (Ce a s)])/\Bw w d:=by
 rw[h.1,h.2.1,h.2.2,show decide (b.b.r=0/\b.b.n=0)=decide (b.b=Bd)from nC.2 (Bal.eq_iff b.b Bd),g,Bool.not_not];exact⟨rfl,e⟩
theorem Zo(x:Value)(ls:List (List Vt))(s:Int)(w:World)(h:Svv w x ls)(ht:NTab w) :
  Calls prog 151 #[x,.int .i64 s] w λe w'=>e=.returned (.tuple #[.agg (cmC (Hm ls s)),.bool (DX ls s),.int .i64 (Ce ls s)])/\Bw w w':=by
 have c5:=h.len;obtain⟨a,P,rfl⟩:=h.shape;obtain⟨y,hy⟩:∃ y:S3,y=⟨a,ls.length,P⟩:=⟨_,rfl⟩;have c7:y.n=ls.length:=by rw[hy]
 rw[show(.slice a ls.length P:Value)=y.v by rw[hy]]at h ⊢
 clear hy;refine tIn [] func151 trivial (tR 10 [1,0] λd _ _=>?_);by_cases G:0<=s/\s<=39
 .refine tC 1 (λF C=>Ej (r:=true) (M' G)) λNz=>?_;rintro _ _ ⟨rfl,W⟩;refine⟨_,_,rfl,W,id,?_⟩;refine tR 16 [1,0] λo _ _=>D1 52 [(1,iv s),(4,pt (d 0) 0),(7,pt (o 0) 0),(16,S3.v y),(17,iv (y.n:Int)),(18,iv 0)] [true,true] [⟨(d 0),.cells #[iv 0,iv 0,iv 0,iv 0,iv 0] 51,.l,false⟩,⟨(o 0),.cells #[iv 0,iv 0,iv 0,iv 0,iv 0,iv 0,iv 0,iv 0] 156,.l,false⟩] [] (λkk E D f=>∃ (j:Nat) (b:Vt),kk=y.n-j/\E=[(1,iv s),(4,pt (d 0) 0),(7,pt (o 0) 0),(16,S3.v y),(17,iv (y.n:Int)),(18,iv (j:Int))]/\D=[⟨(d 0),.cells #[iv 0,iv 0,iv 0,iv 0,iv 0] 51,.l,false⟩,⟨(o 0),.cells #[iv b.bu,iv b.b.r,iv b.b.n,iv b.w.k,iv b.w.c,iv b.w.s,iv b.w.n,iv b.w.v] 156,.l,false⟩]/\f=[]/\j<=ls.length/\EY (BQ (Ae (ls.take j).flatten s) none) b/\∀ l∈ls.take j,∀ v∈l,Ah v) (y.n) ⟨0,vt0,rfl,rfl,rfl,rfl,by omega,.inl ⟨rfl,rfl⟩,λl L=>(by simp at L)⟩ (λF=>trivial) ?_;rintro k _ _ _ ⟨j,b,rfl,rfl,rfl,rfl,hj,q,O⟩ _ _ _ J I;refine tR 5 [] λc9 _ _=>?_;by_cases h2:j<y.n
  .refine tI ((decide ((j:Int)<(y.n:Int)))) true (M' (by omega)) ?_;obtain⟨l,A⟩:∃ l,ls[j]?=some l:=⟨_,G' (by omega)⟩;obtain⟨bb,S,yl,a1,a0,Z,L⟩:=h.spot j l A;obtain⟨z,rfl⟩:=L.s3;have c8:=L.op.1;have hF:(ls.take (j+1)).flatten=_:=WJ ls j l A;have c6:=L.len;refine tR 5 [] λd0 _ _=>tV 0 (pt bb (S+j)) (λF C=>(iP a1 j (by omega))) (tV 1 (S3.v z) (λF C=>(Dj underlying97 rfl (((CgQ.af C).cell (p:=⟨bb,S+j,none⟩) a0).trans Z))) (tR 9 [] λd1 _ _=>D1 52 [(1,iv s),(4,pt (d 0) 0),(7,pt (o 0) 0),(16,S3.v y),(17,iv (y.n:Int)),(18,iv (j:Int)),(22,S3.v z),(23,iv (z.n:Int)),(24,iv 0)] [true,true] [⟨(d 0),.cells #[iv 0,iv 0,iv 0,iv 0,iv 0] 51,.l,false⟩,⟨(o 0),.cells #[iv b.bu,iv b.b.r,iv b.b.n,iv b.w.k,iv b.w.c,iv b.w.s,iv b.w.n,iv b.w.v] 156,.l,false⟩] [] (λkk E D f=>∃ (k:Nat) (b:Vt),kk=z.n-k/\E=[(1,iv s),(4,pt (d 0) 0),(7,pt (o 0) 0),(16,S3.v y),(17,iv (y.n:Int)),(18,iv (j:Int)),(22,S3.v z),(23,iv (z.n:Int)),(24,iv (k:Int))]/\D=[⟨(d 0),.cells #[iv 0,iv 0,iv 0,iv 0,iv 0] 51,.l,false⟩,⟨(o 0),.cells #[iv b.bu,iv b.b.r,iv b.b.n,iv b.w.k,iv b.w.c,iv b.w.s,iv b.w.n,iv b.w.v] 156,.l,false⟩]/\f=[]/\k<=l.length/\EY (BQ (Ae ((ls.take j).flatten++l.take k) s) none) b/\∀ v∈l.take k,Ah v) (z.n) ⟨0,b,rfl,rfl,rfl,rfl,by omega,(by rw[nM,mT];exact q),λv hv=>(by simp at hv)⟩ (λF=>trivial) ?_));rintro k _ _ _ ⟨k,b,rfl,rfl,rfl,rfl,hk,q,N⟩ _ _ _ Jb K;refine tR 5 [] λd2 _ _=>?_;by_cases H:k<z.n
   .refine tI ((decide ((k:Int)<(z.n:Int)))) true (M' (by omega)) ?_;obtain⟨u,V⟩:∃ u,l[k]?=some u:=⟨_,G' (by omega)⟩;obtain⟨W,o2,R⟩:=L.ad (i:=k) (by omega);have Y:=FT l k u V;refine tR 5 [] λd3 _ _=>tV 0 (pt W (o2+8*k)) (λF C=>(U8 R k (by omega))) (tV 1 (.agg #[iv u.bu,iv u.b.r,iv u.b.n,iv u.w.k,iv u.w.c,iv u.w.s,iv u.w.n,iv u.w.v]) (λF C=>(dY u ((L.af (CgQ.af C)).at_ R V))) (tR 7 [0,0,2,0,2] λa2 _ _=>?_));by_cases Q:Ah u
    .refine tC1 1 (λF C=>GU (v:=u) (ht.af (CgQ.af C)) (r:=true) (M' Q)) λ_=>?_;have M:∀ v∈l.take (k+1),Ah v:=aM V N Q;refine tR 9 [2] λa3 _ _=>?_;by_cases T:u.bu=s
     .refine tV 3 (.bool true) (λF C=>(D0 (t:=3) (m:=u.bu) (n:=s) (x:=(.tmp 33)) (y:=(.tmp 34)) (by simpa using T))) (tR 5 [1,2] λa4 _ _=>?_);have B:=dg q T Q.2.1;by_cases U:b.b.lt u.b
      .rw[if_pos U]at B
       refine tC1 9 (λF C=>Er (a:=b.b) (b:=u.b) (r:=true) (M' U)) λ_=>tR 9 [2,1,0] λa5 _ _=>tV 0 (iv ((k:Int)+1)) (λF C=>(AO 24 (k:Int) underlying3 (by omega))) (tR 2 [] λa6 _ _=>tB K (z.n-(k+1)) (by omega) [true,true,false] ⟨k+1,u,rfl,rfl,rfl,rfl,by omega,by rw[Y,<- mA];exact B,M⟩ (λF=>trivial))
      .rw[if_neg U]at B
       refine tC1 9 (λF C=>Er (a:=b.b) (b:=u.b) (r:=false) (E' U)) λ_=>tR 6 [] λa7 _ _=>tV 0 (iv ((k:Int)+1)) (λF C=>(AO 24 (k:Int) underlying3 (by omega))) (tR 2 [] λa8 _ _=>tB K (z.n-(k+1)) (by omega) [true,true,false] ⟨k+1,b,rfl,rfl,rfl,rfl,by omega,by rw[Y,<- mA];exact B,M⟩ (λF=>trivial))
     .refine tV 3 (.bool false) (λF C=>(D0 (t:=3) (m:=u.bu) (n:=s) (x:=(.tmp 33)) (y:=(.tmp 34)) (by simpa using T))) (tR 12 [] λa9 _ _=>tV 0 (iv ((k:Int)+1)) (λF C=>(AO 24 (k:Int) underlying3 (by omega))) (tR 2 [] λb0 _ _=>tB K (z.n-(k+1)) (by omega) [true,true,false] ⟨k+1,b,rfl,rfl,rfl,rfl,by omega,by rw[Y,<- mA];exact dh q T,M⟩ (λF=>trivial)))
    .refine tC1 1 (λF C=>GU (v:=u) (ht.af (CgQ.af C)) (r:=false) (E' Q)) λ_=>?_;have X:=Tk (ls:=ls) G λg=>Q (g l (mP A) u (mP V));refine tR 10 [0,0] λb1 _ _=>tX λF C=>qE3 4 5 6 51 0 (d 0) #[iv 0,iv 0,iv 0,iv 0,iv 0] (.bool false) (iv 5) λ_=>by rw[X.1,X.2.1,X.2.2];exact⟨rfl,CgQ.af C⟩
   .refine tI ((decide ((k:Int)<(z.n:Int)))) false (E' (by omega)) ?_;rw[mJ (show l.length<=k by omega)]at q N
    rw[<- hF]at q
    refine tR 3 [] λb3 _ _=>tV 0 (iv ((j:Int)+1)) (λF C=>(AO 18 (j:Int) underlying3 (by omega))) (tR 2 [] λb4 _ _=>tB I (y.n-(j+1)) (by omega) [true,true] ⟨j+1,b,rfl,rfl,rfl,rfl,by omega,q,aL A O N⟩ (λF=>trivial))
  .refine tI ((decide ((j:Int)<(y.n:Int)))) false (E' (by omega)) ?_;rw[mJ (show ls.length<=j by omega)]at q O
   have hK:=EY.pick G O q;refine tR 7 [6,0,2,1,4,8] λb5 _ _=>?_;by_cases H:b.b=Bd
   .refine Ig 52 (λE D f=>∃ (_:Unit),E=[(4,pt (d 0) 0),(5,.bool false),(6,iv 0)]/\D=[⟨(d 0),.cells #[iv b.w.k,iv b.w.c,iv b.w.s,iv b.w.n,iv b.w.v] 51,.l,false⟩,⟨(o 0),.cells #[iv b.bu,iv b.b.r,iv b.b.n,iv b.w.k,iv b.w.c,iv b.w.s,iv b.w.n,iv b.w.v] 156,.l,false⟩]/\f=[]) (λJ I=>?_) ?_
    .refine Ih 3 6 ?_ ?_
     .refine tR 1 [1] λb6 _ _=>tT 5 (.bool false) (λ_=>(IC (x:=(.tmp 49)) (y:=(.tmp 50)) b.b Bd H)) (tR 4 [13,0,0,14,16] λb7 _ _=>tD I [true,true] ⟨(),rfl,rfl,rfl⟩ (λF=>trivial))
     .refine tR 2 [0,0,7,1] λb8 _ _=>tT 5 (.bool false) (λ_=>(IC (x:=(.tmp 49)) (y:=(.tmp 50)) b.b Bd H)) (tR 3 [14,16] λb9 _ _=>tD I [true,true] ⟨(),rfl,rfl,rfl⟩ (λF=>trivial))
    rintro _ _ _ ⟨_,rfl,rfl,rfl⟩ _ _ _;exact tX λF C=>qE3 4 5 6 51 0 (d 0) #[iv b.w.k,iv b.w.c,iv b.w.s,iv b.w.n,iv b.w.v] (.bool false) (iv 0) λ_=>QC hK (M' H) (CgQ.af C)
   .refine Ig 52 (λE D f=>∃ (_:Unit),E=[(4,pt (d 0) 0),(5,.bool true),(6,iv 0)]/\D=[⟨(d 0),.cells #[iv b.w.k,iv b.w.c,iv b.w.s,iv b.w.n,iv b.w.v] 51,.l,false⟩,⟨(o 0),.cells #[iv b.bu,iv b.b.r,iv b.b.n,iv b.w.k,iv b.w.c,iv b.w.s,iv b.w.n,iv b.w.v] 156,.l,false⟩]/\f=[]) (λJ I=>?_) ?_
    .refine Ih 3 6 ?_ ?_
     .refine tR 1 [1] λc0 _ _=>tT 5 (.bool true) (λ_=>(ID (x:=(.tmp 49)) (y:=(.tmp 50)) b.b Bd H)) (tR 4 [13,0,0,14,16] λc1 _ _=>tD I [true,true] ⟨(),rfl,rfl,rfl⟩ (λF=>trivial))
     .refine tR 2 [0,0,7,1] λc2 _ _=>tT 5 (.bool true) (λ_=>(ID (x:=(.tmp 49)) (y:=(.tmp 50)) b.b Bd H)) (tR 3 [14,16] λc3 _ _=>tD I [true,true] ⟨(),rfl,rfl,rfl⟩ (λF=>trivial))
    rintro _ _ _ ⟨_,rfl,rfl,rfl⟩ _ _ _;exact tX λF C=>qE3 4 5 6 51 0 (d 0) #[iv b.w.k,iv b.w.c,iv b.w.s,iv b.w.n,iv b.w.v] (.bool true) (iv 0) λ_=>QC hK (E' H) (CgQ.af C)
 .refine tC1 1 (λF C=>Ej (r:=false) (E' G)) λ_=>tR 10 [0,0] λc4 _ _=>tX λF C=>qE3 4 5 6 51 0 (d 0) #[iv 0,iv 0,iv 0,iv 0,iv 0] (.bool false) (iv 2) λ_=>by rw[(LI G).1,(LI G).2.1,(LI G).2.2];exact⟨rfl,CgQ.af C⟩
def gz:Gh:=⟨λ_=>.z,λ_=>0⟩
theorem Ew:gz.t b∉([.n 60 0]:List Tg):=by simp[gz]
def Qr(x:NX)(k:Nat):List Value:=(List.range k).map λj=>S3.v (x.hv j)
theorem VK(x:NX)(k:Nat):Qr x (k+1)=Qr x k++[S3.v (x.hv k)]:=by unfold Qr;rw[n7,mS];rfl
theorem dL{τ:Tg}{e:TypeId}{y:S3}{x:NX}{r:Rnd}(h:OwnS g w τ false e 1 y (Qr x 5))(A:∀ j,j<5->Sv w (x.hv j).v (r.an j).vs):Svv w y.v (r.jv.map (·.vs)):=by
 have s:=h.len;have t:y.n=5:=by simp[Qr]at s;omega
 obtain⟨b,o,i,_⟩:=h.cell (j:=0) (u:=S3.v (x.hv 0)) rfl;refine⟨⟨y.a,y.c,by unfold S3.v;rw[t];rfl,.inr ⟨b,0,o,i,λj l k=>?_⟩⟩,by show 5<=5864062014634;decide⟩;have f:j<5:=by have:=(V'.1 k).1;exact this
 have m:(Qr x 5)[j]?=some (S3.v (x.hv j)):=by rcases ri f with rfl|rfl|rfl|rfl|rfl<;>rfl
 obtain⟨B,d,_,q⟩:=h.cell m;rw[o]at d
 simp only[Y',Addr.mk.injEq,and_true]at d;subst d;refine⟨S3.v (x.hv j),by rw[na];exact q,?_⟩;have p:=A j f;rcases ri f with rfl|rfl|rfl|rfl|rfl<;>(simp[Rnd.jv]at k;subst k;exact p)
theorem Vx{f:Cmd->Bool}{j:Nat}(h:l[j]?=some c):(l.drop j).find? f=if f c then some c else(l.drop (j+1)).find? f:=by
 rw[DL h,oZ];split<;>simp_all
theorem Ks(h:NS i nb ob g w p ls ts){w0:World}(hB:Base w0 g w)(hT:Tabs w0)(s:Nat)(hq:p.av.fv.length<100000000)(a4:p.ab.length<100000000) :
  Calls prog 116 #[pt nb 0,iv (s:Int)] w λe w'=>e=.returned (.tuple #[.agg (cmC ((p.qY s).getD RG)),.bool (p.qY s).isSome])/\Bw w w':=by
 obtain⟨x,lt,tl,P,hO,hg⟩:=h;have hQ:=P.fv.rd;have hA:=P.ab.rd;have b8:=hQ.len;have hH:∀ j,j<5->Sv w (x.hv j).v (p.av.an j).vs:=λj Q=>(P.an j Q).s;have a2:Base w0 gz w:=⟨hB.b,λ_ _=>rfl⟩;refine gI (fn:=f116) [.n 60 0] gz func116 (λ_ _=>⟨rfl,rfl⟩) (Cl ⟨nb,.cells (AG i ob p x) 111,.z,false⟩ (λ_=>⟨P.row,rfl,λh=>(by cases h),λh=>absurd rfl h⟩) (by kernel_rfl) ?_);refine qR [] 21 [1,0,0] λa g1 w1 c1=>Ca 63 [(0,pt nb 0),(1,iv (s:Int)),(4,pt (a 0) 0),(6,sn),(19,.agg #[iv ((p.av.an 0).p.r),iv ((p.av.an 0).p.n),S3.v (x.hv 0),iv ((p.av.an 1).p.r),iv ((p.av.an 1).p.n),S3.v (x.hv 1),iv ((p.av.an 2).p.r),iv ((p.av.an 2).p.n),S3.v (x.hv 2),iv ((p.av.an 3).p.r),iv ((p.av.an 3).p.n),S3.v (x.hv 3),iv ((p.av.an 4).p.r),iv ((p.av.an 4).p.n),S3.v (x.hv 4)]),(20,iv 0)] [true,true] [⟨nb,.cells (AG i ob p x) 111,.z,false⟩,⟨(a 0),.cells #[iv 0,iv 0,iv 0,iv 0,iv 0] 51,.l,false⟩] (λk M w' e L=>∃ (k0:Nat) (y:S3),k=5-k0/\k0<=5/\e=[(0,pt nb 0),(1,iv (s:Int)),(4,pt (a 0) 0),(6,S3.v y),(19,.agg #[iv (p.av.an 0).p.r,iv (p.av.an 0).p.n,S3.v (x.hv 0),iv (p.av.an 1).p.r,iv (p.av.an 1).p.n,S3.v (x.hv 1),iv (p.av.an 2).p.r,iv (p.av.an 2).p.n,S3.v (x.hv 2),iv (p.av.an 3).p.r,iv (p.av.an 3).p.n,S3.v (x.hv 3),iv (p.av.an 4).p.r,iv (p.av.an 4).p.n,S3.v (x.hv 4)]),(20,iv (k0:Int))]/\L=[⟨nb,.cells (AG i ob p x) 111,.z,false⟩,⟨(a 0),.cells #[iv 0,iv 0,iv 0,iv 0,iv 0] 51,.l,false⟩]/\OwnS M w' (.n 60 0) false 97 1 y (Qr x k0)/\Cg w.heap.size [.n 60 0] gz w M w') (by kernel_rfl) (by kernel_rfl) (by kernel_rfl) (by kernel_rfl) 5 (λK=>?_) ?_
 .exact⟨0,s30,rfl,by omega,rfl,rfl,OwnS.nil _ _ _ _ _ _,(c1.nil [.n 60 0])⟩
 .rintro k gr wr _ zr _ ⟨k0,y,rfl,hk0,rfl,rfl,hy,hC⟩ J hJ;refine qR [] 5 [] λs2 g2 w2 t=>?_;by_cases h1:k0<5
  .refine qI ((decide ((k0:Int)<5))) true (M' (by omega)) (qR [] 5 [] λs3 g3 w3 c3=>?_);refine cR 0 (.agg #[iv (p.av.an k0).p.r,iv (p.av.an k0).p.n,S3.v (x.hv k0)]) (λK=>(by rcases ri h1 with rfl|rfl|rfl|rfl|rfl<;>kernel_rfl)) (by kernel_rfl) ?_;refine qR [] 8 [0,0,2,0,2,0,0] λs4 g4 w4 c4=>?_;have c0:y.n=k0:=by have:=hy.len;simp[Qr]at this;omega
   refine Km 4 (x:=y) 236 236 97 1 24 (.slice none 0 0) ⟨(s4 1),0,none⟩ 1 1 [S3.v (x.hv k0)] (((hy.ch t).ch c3).ch c4) (by kernel_rfl) (by kernel_rfl) (by kernel_rfl) underlying236 (by kernel_rfl) (by kernel_rfl) (by decide) (by decide) rfl (by simp[Value.oneCell']) (λK=>Cu K 3 (s4 1) [S3.v (x.hv k0)] 97 .z true (by kernel_rfl)) (by unfold maxLen;omega) (by omega) ?_;intro y5 g5 w5 a5 n5 a0 G5;have c5:=a0 w.heap.size [.n 60 0] (D'.2 rfl);refine qR [] 4 [] λs6 g6 w6 c6=>qV 0 (iv ((k0:Int)+1)) (AO 20 (k0:Int) underlying3 (by omega)) (qR [] 2 [] λs7 g7 w7 c7=>qB [true,true,false,false] λz K0 K=>hJ (5-(k0+1)) _ _ _ z _ (by omega) ⟨k0+1,y5,rfl,by omega,rfl,rfl,(by rw[VK];exact((a5.ch c6).ch c7)),((((((hC.n t).n c3).n c4).trans c5).n c6).n c7)⟩ K)
  .refine qI ((decide ((k0:Int)<5))) false (E' (by omega)) ?_;obtain rfl:k0=5:=by omega
   refine qR [] 5 [] λs8 g8 w8 F=>?_;have hD:=((hC.n t).n F);have hS:=dL (r:=p.av) ((hy.ch t).ch F) (λj Q=>(hH j Q).af (hD.af (λ_ _=>Ew)));refine qC 2 (Zo _ _ (s:Int) w8 hS ((a2.ch hD).tn hT)) ?_;rintro e' w9 ⟨rfl,b9⟩;refine⟨_,rfl,b9,?_⟩;have Z:=Cg.eb (B:=w.heap.size) (T:=[]) (g:=g8) b9;refine qR [] 15 [0,0,2,0] λd0 a6 e3 o=>?_;by_cases G:(Ce (p.av.jv.map (·.vs)) (s:Int))≠0
   .refine qI (((Ce (p.av.jv.map (·.vs)) (s:Int)) != 0)) true (by simpa using G) (qR [] 6 [1,0] λd1 a7 e4 R=>?_);rw[show p.qY s=none from if_pos G];exact qE2 4 5 51 1 (a 0) (cmC RG) (.bool false) λK=>⟨rfl,Cg.af (((((hC.n t).n F).n Z).n o).n R) (λ_ _=>Ew)⟩
   .refine qI (((Ce (p.av.jv.map (·.vs)) (s:Int)) != 0)) false (by simpa using G) (qR [] 6 [] λd2 a8 e5 C=>?_);by_cases N:(DX (p.av.jv.map (·.vs)) (s:Int))=true
    .refine qI ((DX (p.av.jv.map (·.vs)) (s:Int))) true N (qR [] 6 [2,1,0] λd3 a9 e6 S=>?_);rw[show p.qY s=some (Hm (p.av.jv.map (·.vs)) (s:Int))from(if_neg G).trans (if_pos N)];exact qE2 4 5 51 1 (a 0) (cmC (Hm (p.av.jv.map (·.vs)) (s:Int))) (.bool true) λK=>⟨rfl,Cg.af ((((((hC.n t).n F).n Z).n o).n C).n S) (λ_ _=>Ew)⟩
    .refine qI ((DX (p.av.jv.map (·.vs)) (s:Int))) false (by simpa using N) (qR [] 14 [0] λd4 b0 e7 U=>?_);have hX:p.qY s=p.av.fv.find? (λc=>decide (c∉p.ab)):=(if_neg G).trans (if_neg N);refine Ca 63 [(0,pt nb 0),(4,pt (a 0) 0),(46,S3.v x.fv),(47,iv (x.fv.n:Int)),(48,iv 0)] [true,true,false] [⟨nb,.cells (AG i ob p x) 111,.z,false⟩,⟨(a 0),.cells #[iv 0,iv 0,iv 0,iv 0,iv 0] 51,.l,false⟩] (λk M w' e L=>∃ j:Nat,k=p.av.fv.length-j/\j<=p.av.fv.length/\e=[(0,pt nb 0),(4,pt (a 0) 0),(46,S3.v x.fv),(47,iv (x.fv.n:Int)),(48,iv (j:Int))]/\L=[⟨nb,.cells (AG i ob p x) 111,.z,false⟩,⟨(a 0),.cells #[iv 0,iv 0,iv 0,iv 0,iv 0] 51,.l,false⟩]/\(p.av.fv.drop j).find? (λc=>decide (c∉p.ab))=p.qY s/\Cg w.heap.size [.n 60 0] gz w M w') (by kernel_rfl) (by kernel_rfl) (by kernel_rfl) (by kernel_rfl) p.av.fv.length (λK=>?_) ?_
     .exact⟨0,rfl,by omega,rfl,rfl,by rw[hX];rfl,((((((hC.n t).n F).n Z).n o).n C).n U)⟩
     .rintro k gr wr _ zr _ ⟨j,rfl,Q,rfl,rfl,hI,hC2⟩ J hJ;refine qR [] 5 [] λd5 b1 e8 d=>?_;by_cases h4:j<p.av.fv.length
      .refine qI ((decide ((j:Int)<(x.fv.n:Int)))) true (M' (by omega)) ?_;obtain⟨c,H⟩:∃ c,p.av.fv[j]?=some c:=⟨_,G' h4⟩;obtain⟨bx,ox,I⟩:=hQ.addr h4;rw[Vx H]at hI
       refine qR [] 5 [] λd6 b2 e9 m=>qV 0 (pt bx (ox+5*j)) (Oa I j (by omega)) ?_;have a3:=hQ.af (((hC2.n d).n m).af (λ_ _=>Ew));refine qV 1 (.agg #[iv c.k,iv c.c,iv c.s,iv c.n,iv c.v]) (Wl c λq_ u hu=>a3.cellAt I H hu) (qR [] 11 [0,0,2,0,8,0,2,4,6,8,0,10,2] λd7 a1 f0 q=>qC 6 (F1 (l:=p.ab) (hA.af ((((hC2.n d).n m).n q).af (λ_ _=>Ew))) a4 c) ?_);rintro e' f1 ⟨rfl,A⟩;refine⟨_,rfl,A,?_⟩;have D:=Cg.eb (B:=w.heap.size) (T:=[]) (g:=a1) A;refine qR [] 2 [14] λd8 b3 f2 E=>?_;by_cases O:c∈p.ab
       .refine qI ((!(decide (c∈p.ab)))) false (by simpa using O) (qR [] 3 [] λd9 b4 f3 V=>qV 0 (iv ((j:Int)+1)) (AO 48 (j:Int) underlying3 (by omega)) (qR [] 2 [] λe0 b5 f4 W=>qB [true,true,false] λz K0 K=>hJ (p.av.fv.length-(j+1)) _ _ _ z _ (by omega) ⟨j+1,rfl,by omega,rfl,rfl,(by rw[<- hI,if_neg (by simpa using O)]),(((((((hC2.n d).n m).n q).n D).n E).n V).n W)⟩ K))
       .refine qI ((!(decide (c∈p.ab)))) true (by simpa using O) (qR [] 6 [2,1,0] λe1 b6 f5 X=>?_);rw[if_pos (by simpa using O)]at hI
        rw[<- hI];exact qE2 4 5 51 1 (a 0) (cmC c) (.bool true) λK=>⟨rfl,Cg.af ((((((hC2.n d).n m).n q).n D).n E).n X) (λ_ _=>Ew)⟩
      .refine qI ((decide ((j:Int)<(x.fv.n:Int)))) false (E' (by omega)) (qR [] 7 [1,0] λe2 b7 f6 Y=>?_);obtain rfl:j=p.av.fv.length:=by omega
       rw[og]at hI
       rw[<- hI];exact qE2 4 5 51 1 (a 0) (cmC RG) (.bool false) λK=>⟨rfl,Cg.af ((hC2.n d).n Y) (λ_ _=>Ew)⟩
theorem N1(h:NS i nb ob g w p ls ts){b:Bool}(a:p.av.rm=b) :
  Calls prog 115 #[pt nb 11] w λe w'=>e=.returned (.bool b)/\Bw w w':=by subst a;exact RX h
theorem Qw(h:NS i nb ob g w p ls ts){b:World}(c:Base b g w)(d:Tabs b)(s:Nat)(j:p.av.fv.length<100000000)(a:p.ab.length<100000000){o:Option Cmd}(f:p.qY s=o) :
  Calls prog 116 #[pt nb 0,iv (s:Int)] w λe w'=>e=.returned (.tuple #[.agg (cmC (o.getD RG)),.bool o.isSome])/\Bw w w':=by subst f;exact Ks h c d s j a
theorem bi(p:Nod)(v:Vt):(p.cn v).1.av=p.av:=by
 unfold Nod.cn;repeat' split
 all_goals rfl
theorem QG(h:NS i nb ob g w p ls ts){w0:World}(hB:Base w0 g w)(hT:Tabs w0)(hq:p.av.fv.length<100000000)(V:p.ab.length<100000000)(hb:p.bw.length<100000000)(a9:p.vo.vs.length<100000000) :
  Calls prog 71 #[pt nb 0] w (NP i nb ob g w (.tuple #[]) p.cF ls ts):=by
 obtain⟨x,lt,tl,m,o,hg⟩:=h;have hn:x.ab.n=p.ab.length:=m.ab.num;refine gI (fn:=f71) (TN i) g func71 hg (qN m (qO o (qR [] 18 [0,0,2,0,2] λs1 g1 w1 j=>?_)));by_cases h1:p.leads=false
 .refine Af λK=>?_;have N3:NS i nb ob g1 w1 p ls ts:=(nsC m o j K);refine qC 1 (Fg N3 h1) ?_;rintro Q w4 ⟨rfl,b4⟩;refine⟨_,rfl,b4,?_⟩;have c4:=Cg.eb (B:=w.heap.size) (T:=[]) (g:=g1) b4;refine qR [] 21 [] λs5 g5 w5 c5=>qE (.tuple #[]) λK=>?_;rw[show p.cF=p from by unfold Nod.cF;rw[if_pos (.inl h1)]];exact⟨_,rfl,(nsC m o ((j.n c4).n c5) K),(((j.nil (TN i)).n c4).n c5)⟩
 .have h10:p.leads=true:=by simpa using h1
  refine Af λK=>?_;have N8:NS i nb ob g1 w1 p ls ts:=(nsC m o j K);refine qC 1 (Fg N8 h10) ?_;rintro Q w9 ⟨rfl,b9⟩;refine⟨_,rfl,b9,?_⟩;have k:=Cg.eb (B:=w.heap.size) (T:=[]) (g:=g1) b9;refine qR [] 6 [2] λc8 t Z a=>?_;by_cases h2:p.av.rm=false
  .refine Af λK=>?_;have a1:NS i nb ob t Z p ls ts:=(nsC m o ((j.n k).n a) K);refine qC 8 (N1 a1 h2) ?_;rintro Q d8 ⟨rfl,D⟩;refine⟨_,rfl,D,?_⟩;have H:=Cg.eb (B:=w.heap.size) (T:=[]) (g:=t) D;refine qR [] 14 [] λd0 b5 d9 I=>qE (.tuple #[]) λK=>?_;rw[show p.cF=p from by unfold Nod.cF;rw[if_pos (.inr (.inl h2))]];exact⟨_,rfl,(nsC m o ((((j.n k).n a).n H).n I) K),(((((j.nil (TN i)).n k).n a).n H).n I)⟩
  .have h20:p.av.rm=true:=by simpa using h2
   refine Af λK=>?_;have a2:NS i nb ob t Z p ls ts:=(nsC m o ((j.n k).n a) K);refine qC 8 (N1 a2 h20) ?_;rintro Q e0 ⟨rfl,E⟩;refine⟨_,rfl,E,?_⟩;have b:=Cg.eb (B:=w.heap.size) (T:=[]) (g:=t) E;refine qR [] 13 [2,0] λd1 b6 e1 d=>?_;by_cases h3:(x.ab.n:Int)<(p.av.next:Int)
   .have h30:p.ab.length<p.av.next:=by omega
    refine qI ((decide ((x.ab.n:Int)<(p.av.next:Int)))) true (M' (by omega)) (qE (.tuple #[]) λK=>?_);rw[show p.cF=p from by unfold Nod.cF;rw[if_pos (.inr (.inr h30))]];exact⟨_,rfl,(nsC m o ((((j.n k).n a).n b).n d) K),(((((j.nil (TN i)).n k).n a).n b).n d)⟩
   .refine qI ((decide ((x.ab.n:Int)<(p.av.next:Int)))) false (E' (by omega)) ?_;have A:¬ (p.leads=false\/p.av.rm=false\/p.ab.length<p.av.next):=by rintro(h|h|h);exact h1 h;exact h2 h;omega
    refine qR [] 5 [2] λd2 u a0 e=>?_;cases ho:p.qY x.ab.n with
    | none =>
     refine Af λK=>?_;have a3:NS i nb ob u a0 p ls ts:=(nsC m o (((((j.n k).n a).n b).n d).n e) K);refine qC 2 (Qw a3 (hB.ch ((((((j.nil (TN i)).n k).n a).n b).n d).n e) (By i)) hT x.ab.n hq V ho) ?_;rintro Q e2 ⟨rfl,F⟩;refine⟨_,rfl,F,?_⟩;have J:=Cg.eb (B:=w.heap.size) (T:=[]) (g:=u) F;refine qR [] 14 [0,0,3,0] λd3 b7 e3 L=>qE (.tuple #[]) λK=>?_;rw[show p.cF=p from by unfold Nod.cF;rw[if_neg A,<- hn,ho]];exact⟨_,rfl,(nsC m o (((((((j.n k).n a).n b).n d).n e).n J).n L) K),((((((((j.nil (TN i)).n k).n a).n b).n d).n e).n J).n L)⟩
    | some c =>
     refine Af λK=>?_;have a4:NS i nb ob u a0 p ls ts:=(nsC m o (((((j.n k).n a).n b).n d).n e) K);refine qC 2 (Qw a4 (hB.ch ((((((j.nil (TN i)).n k).n a).n b).n d).n e) (By i)) hT x.ab.n hq V ho) ?_;rintro Q e4 ⟨rfl,G⟩;refine⟨_,rfl,G,?_⟩;have q:=Cg.eb (B:=w.heap.size) (T:=[]) (g:=u) G;refine qR [] 34 [0,0,3,0,11,0,2,2,4,6,8,10,12,0,14,3,16,19,0,0,21,4,0,2,4] λX b8 e5 r=>qS 2 [false,false,true,true,true] m o (((((((j.n k).n a).n b).n d).n e).n q).n r) (λa5=>NT a5 (hB.ch ((((((((j.nil (TN i)).n k).n a).n b).n d).n e).n q).n r) (By i)) hT (⟨(x.ab.n:Int),p.av.hU,c⟩:Vt) a9) λc0 e6 b1 W Y v y M=>qR [] 2 [] λd4 c2 e7 s=>?_;by_cases R:(p.cn (⟨(x.ab.n:Int),p.av.hU,c⟩:Vt)).2≠0
     .refine qI (((p.cn (⟨(x.ab.n:Int),p.av.hU,c⟩:Vt)).2 != 0)) true (by simpa using R) (qE (.tuple #[]) λK=>?_);rw[show p.cF=(p.cn (⟨(x.ab.n:Int),p.av.hU,c⟩:Vt)).1 from by rw[UQ R];unfold Nod.cF;rw[if_neg A,<- hn,ho];exact if_pos R];exact⟨_,rfl,(nsC v y s K),((((((((((j.nil (TN i)).n k).n a).n b).n d).n e).n q).n r).trans (M)).n s)⟩
     .refine qI (((p.cn (⟨(x.ab.n:Int),p.av.hU,c⟩:Vt)).2 != 0)) false (by simpa using R) (qR [] 5 [0] λd5 c3 e8 N=>qV 2 (iv ((x.ab.n:Int)+1)) (AO 55 (x.ab.n:Int) underlying3 (by omega)) (qR [.n 0 i] 9 [3,1,0] λd6 a8 b0 O=>?_));rw[show p.cF=Nod.wait { (p.cn (⟨(x.ab.n:Int),p.av.hU,c⟩:Vt)).1 with av:={ (p.cn (⟨(x.ab.n:Int),p.av.hU,c⟩:Vt)).1.av with next:=x.ab.n+1 } } (.prop (⟨(x.ab.n:Int),p.av.hU,c⟩:Vt))from by unfold Nod.cF;rw[if_neg A,<- hn,ho,bi];exact if_neg R];refine Af λK=>?_;obtain⟨z1,z2⟩:=K.rM 0 (s1 0) (.cells #[pt nb 0] 91) false (by kernel_rfl);obtain⟨z3,z4⟩:=K.rM 2 (X 1) (.cells (vtA (⟨(x.ab.n:Int),p.av.hU,c⟩:Vt)) 156) false (by kernel_rfl);have C:=((s.nil ([.n 0 i]:List Tg)).n N).trans (O);have a6:NS i nb ob a8 b0 ({ (p.cn (⟨(x.ab.n:Int),p.av.hU,c⟩:Vt)).1 with av:={ (p.cn (⟨(x.ab.n:Int),p.av.hU,c⟩:Vt)).1.av with next:=x.ab.n+1 } }) ls ts:=⟨b1,W,Y,K.sQ 3 v C,y.ch C (hn:=by simp<;>omega),K.new⟩;refine qS0 2 [true,true,true,false,false] (AT a6 (by show(p.cn (⟨(x.ab.n:Int),p.av.hU,c⟩:Vt)).1.bw.length<_;rw[GZ];exact hb) _ _ (.prop (⟨(x.ab.n:Int),p.av.hU,c⟩:Vt)) ⟨(s1 0),(X 1),rfl,⟨z1,z2⟩,⟨z3,z4⟩⟩) λc6 e9 f1 b2 b3 S U a7=>qR [] 1 [] λd7 c7 f0 P=>qF S U P ((((((((((((((j.nil (TN i)).n k).n a).n b).n d).n e).n q).n r).trans (M)).n s).n N).trans (O.mono (by simp[TN]))).trans (a7)).n P)
theorem iS(b:Array TypeId)(t:TypeId)(a m:Nat)(h:m=min a 40):(Builtin.min_ b t #[iv (a:Int),iv 40]).run P W=.ok (iv (m:Int)) W:=by
 rw[iR,show min (a:Int) 40=(m:Int)by omega]
theorem Xo{b:Bal}(h:(f c).getD Bd≠b):Ba b f (c::l)=(c::(Ba b (BV f c (some b)) l).1,(Ba b (BV f c (some b)) l).2):=if_pos h
theorem bI{b:Bal}(h:(f c).getD Bd=b):Ba b f (c::l)=Ba b f l:=if_neg (λg=>g h)
theorem RP(x:S3)(m:Nat):(x.cut 0 m).n=m:=by show m-0=m;omega
theorem gw(h:NS i nb ob g w p ls ts)(e5:p.up=true)(hb:ls.length<100000000)(hq:p.av.fv.length<=40)(e6:0<=p.vo.p.n) :
  Calls prog 70 #[pt nb 0] w (NP i nb ob g w (.tuple #[]) (p.kc i).1 (ls++(p.kc i).2) ts):=by
 obtain⟨x,lt,tl,a,M,hg⟩:=h;obtain⟨E,a1⟩:=a.rW e5;obtain⟨m,rfl⟩:∃ m:NX,x={ m with cl:=some E }:=⟨x,by cases x;simp only at a1;subst a1;rfl⟩;clear a1;have hA:AskAt g w (.n 5 i) E p.cl:=a.rT rfl;refine gI (fn:=f70) (TN i) g func70 hg (qN a (qO M ?_));obtain⟨e4,e1,es,ck,e3,h9⟩:=id hA;refine Iv E _ 5 i e3 e4 e1 (by kernel_rfl) ?_;refine Iw [true,true,false] ?_;have i0:m.bn.n=p.bn.length:=a.bn.num;have e0:m.ab.n=p.ab.length:=a.ab.num;obtain⟨C,e2⟩:∃ C,C=min m.bn.n 40:=⟨_,rfl⟩;have b6:C<=p.bn.length:=by omega
 obtain⟨D,P⟩:∃ D,D=p.bn.take C:=⟨_,rfl⟩;have f0:D.length=C:=by rw[P,X'];omega
 have b8:p.bn.take 40=D:=by rw[P];by_cases d9:p.bn.length<=40;rw[mJ d9,mJ (by omega)];rw[show C=40 by omega]
 have h8:m.bn.n<=m.bn.c:=a.bn.rd.cap;refine qR [] 29 [0,0,0,2,0,15,0,2,4,6,8,0,10,12,14,16,18,0,20] λs1 g1 w1 c1=>qT 11 (iv (C:Int)) (λ_=>(iS #[3,3] 3 m.bn.n C e2)) (qT 12 (S3.v (m.bn.cut 0 C)) (λ_=>(kQ m.bn C (by omega))) (qR [] 4 [26,28] λs3 g3 w3 c3=>Ca 76 [(0,pt nb 0),(2,pt (s1 0) 0),(3,sn),(24,S3.v (m.bn.cut 0 C)),(25,iv ((m.bn.cut 0 C).n:Int)),(26,iv 0)] [false,false,true] [⟨(s1 0),.cells #[iv p.vo.p.r,iv p.vo.p.n] 96,.z,false⟩] (λk g' w' e L=>∃ (j:Nat) (f:Cmd->Option Bal) (dn:List Cmd) (y:S3),k=D.length-j/\j<=D.length/\e=[(0,pt nb 0),(2,pt (s1 0) 0),(3,S3.v y),(24,S3.v (m.bn.cut 0 C)),(25,iv ((m.bn.cut 0 C).n:Int)),(26,iv (j:Int))]/\L=[⟨(s1 0),.cells #[iv p.vo.p.r,iv p.vo.p.n] 96,.z,false⟩]/\AskAt g' w' (.n 5 i) E f/\OwnS g' w' (.n 60 0) true 51 5 y (cmL dn)/\dn.length<=j/\Ba p.vo.p p.cl D=(dn++(Ba p.vo.p f (D.drop j)).1,(Ba p.vo.p f (D.drop j)).2)/\Cg w.heap.size ([.n 5 i,.n 60 0]:List Tg) g w g' w') (by kernel_rfl) (by kernel_rfl) (by kernel_rfl) (by kernel_rfl) D.length (λK=>?_) ?_))
 .exact⟨0,p.cl,[],s30,rfl,by omega,rfl,rfl,((hA.ch c1).ch c3),OwnS.nil _ _ _ _ _ _,A' _,rfl,((c1.nil ([.n 5 i,.n 60 0]:List Tg)).n c3)⟩
 .rintro k gr wr _ zr _ ⟨j,f,dn,y,rfl,hj,rfl,rfl,hAr,hy,hdl,hI,hC⟩ J hJ;have b9:=((a.bn.ch hC).rd.take b6);rw[<- P]at b9
  have S:=hC.rc a.row a.tag (by simp);refine Iv nb _ 0 i S.1 S.2.1 (S.2.2.trans a.rU) (by kernel_rfl) ?_;have T:=hC.rc M.row M.tag (by simp);refine Iv ob _ 50 0 T.1 T.2.1 (T.2.2.trans M.rU) (by kernel_rfl) ?_;obtain⟨R,Q,a9,a8,b7,b5⟩:=id hAr;refine Iv E _ 5 i b7 R Q (by kernel_rfl) ?_;refine qR [] 5 [] λs4 g4 w4 A=>?_;by_cases h0:j<D.length
  .refine qI ((decide ((j:Int)<((m.bn.cut 0 C).n:Int)))) true (M' (by rw[RP];omega)) ?_;obtain⟨c,a0⟩:∃ c,D[j]?=some c:=⟨_,G' h0⟩;obtain⟨bx,ox,c2⟩:=b9.addr h0;have c6:y.n=dn.length:=hy.num;refine qR [] 5 [] λs5 g5 w5 c5=>qV 0 (pt bx (ox+5*j)) (Oa c2 j (by rw[RP];omega)) ?_;have c0:=(((a.bn.ch hC).ch A).ch c5).rd.take b6;rw[<- P]at c0
   refine qV 1 (.agg #[iv c.k,iv c.c,iv c.s,iv c.n,iv c.v]) (Wl c λq_ u hu=>c0.cellAt c2 a0 hu) (qR [] 11 [0,0,4,0,9,0,2,4,6,8,1,10,4] λs7 g7 w7 c7=>qU 6 (.agg #[iv ((f c).getD Bd).r,iv ((f c).getD Bd).n]) (λW hW=>(iQ (g:=gr) (τ:=.n 5 i) (b:=E) (f:=f) ⟨R,Q,a9,a8,AX.at (hW rfl) 3 E (.map (a9.map mkA).toArray a8) (.n 5 i) (by kernel_rfl),b5⟩ c)) (qR [] 1 [14,0] λs8 g8 w8 c8=>?_));by_cases h1:(f c).getD Bd≠p.vo.p
   .refine qT 8 (.bool true) (λ_=>(ID (x:=(.tmp 36)) (y:=(.tmp 37)) ((f c).getD Bd) p.vo.p h1)) ?_;rw[DL a0,Xo h1]at hI
    refine Iw [true,true,true,false,true] ?_;refine qR [] 11 [8,0,2,4,6,8,1,10,3,12,0] λs9 g9 w9 c9=>Ui 7 (τ:=.n 5 i) (b:=E) c p.vo.p (((((hAr.ch A).ch c5).ch c7).ch c8).ch c9) (by kernel_rfl) (by kernel_rfl) (by kernel_rfl) ?_;intro j2 d1 a6;have a2:=a6 w.heap.size [.n 5 i] (D'.2 rfl);refine qR [] 5 [3,0,0] λd0 f6 j3 U=>Km 3 (x:=y) 35 35 51 5 40 (.agg #[iv 0,iv 0,iv 0,iv 0,iv 0]) ⟨(d0 0),0,none⟩ 1 1 [iv c.k,iv c.c,iv c.s,iv c.n,iv c.v] (((((((hy.ch A).ch c5).ch c7).ch c8).ch c9).ch a2).ch U) (by kernel_rfl) (by kernel_rfl) (by kernel_rfl) underlying35 (by kernel_rfl) (by kernel_rfl) (by decide) (by decide) rfl (by simp[Value.oneCell']) (λK=>Cu K 4 (d0 0) [iv c.k,iv c.c,iv c.s,iv c.n,iv c.v] 51 .z true (by kernel_rfl)) (by unfold maxLen;omega) (by omega) ?_;intro e9 f7 j4 d4 i1 a7 f5;have a3:=a7 w.heap.size [.n 60 0] (D'.2 rfl);refine qR [] 4 [] λi2 f8 j5 V=>qV 0 (iv ((j:Int)+1)) (AO 26 (j:Int) underlying3 (by omega)) (qR [] 2 [] λi3 f9 j6 X=>qB [true,false,false,false,false] λz K0 K=>hJ (D.length-(j+1)) _ _ _ z _ (by omega) ⟨j+1,BV f c (some p.vo.p),dn++[c],e9,rfl,by omega,rfl,rfl,((((d1.ch U).ch a3).ch V).ch X),(by rw[Cp];exact((d4.ch V).ch X)),by first|omega|(rw[H'];show _+1<=_;omega),(by rw[hI,mA];rfl),(((((((((((hC).n A).n c5).n c7).n c8).n c9).trans (a2.mono (by simp))).n U).trans (a3.mono (by simp))).n V).n X)⟩ K)
   .have h10:(f c).getD Bd=p.vo.p:=by simpa using h1
    refine qT 8 (.bool false) (λ_=>(IC (x:=(.tmp 36)) (y:=(.tmp 37)) ((f c).getD Bd) p.vo.p h10)) ?_;rw[DL a0,bI h10]at hI
    refine Iw [true,true,true,false,true] ?_;refine qR [] 5 [] λi4 g0 j7 Y=>qV 0 (iv ((j:Int)+1)) (AO 26 (j:Int) underlying3 (by omega)) (qR [] 2 [] λi5 g2 j8 Z=>qB [true,false,false,false] λz K0 K=>hJ (D.length-(j+1)) _ _ _ z _ (by omega) ⟨j+1,f,dn,y,rfl,by omega,rfl,rfl,((((((hAr.ch A).ch c5).ch c7).ch c8).ch Y).ch Z),((((((hy.ch A).ch c5).ch c7).ch c8).ch Y).ch Z),by first|omega|(rw[H'];show _+1<=_;omega),hI,(((((((hC).n A).n c5).n c7).n c8).n Y).n Z)⟩ K)
  .refine qI ((decide ((j:Int)<((m.bn.cut 0 C).n:Int)))) false (E' (by rw[RP];omega)) (Iw [true,true,true,false] ?_);refine qR [] 8 [] λi6 g6 j9 d=>?_;obtain rfl:j=D.length:=by omega
   rw[og]at hI
   have hE:Ba p.vo.p p.cl (p.bn.take 40)=(dn,f):=by rw[b8,hI];show(dn++[],f)=_;rw[mT]
   have c6:y.n=dn.length:=hy.num;by_cases h1:y.n=0
   .refine qI (((y.n:Int)==0)) true (by simp;omega) ?_;obtain rfl:dn=[]:=j' (by omega);refine qE (.tuple #[]) λK=>?_;rw[show p.kc i=({ p with cl:=f },[])from by unfold Nod.kc;rw[hE];exact if_pos rfl];rw[show({ p with cl:=f },([]:List Let)).2=[]from rfl,mT];have o:=(hC.n A).n d;have F:Tg.z∉([.n 5 i,.n 60 0]:List Tg):=by simp
    exact⟨_,rfl,⟨({ m with cl:=some E }:NX),lt,tl,K.nd 1 (a.tape.ch o F) (a.mv.ch o F) (BA a.an o F) (Cc a.bw o F (by simp)) (a.fv.ch o) (a.ab.ch o) (a.bn.ch o) ((hAr.ch A).ch d) (λ_=>⟨E,rfl⟩),K.od 2 (Ec M.br o F (by simp)) (M.ed.ch o),K.new⟩,(((hC.mono (by simp[TN])).n A).n d)⟩
   .refine qI (((y.n:Int)==0)) false (by simp;omega) ?_;have b4:dn≠[]:=λh=>h1 (by rw[c6,h];rfl);refine qR [] 12 [7,0,2,0,4,6,8,10,1,12] λi7 h3 k0 B=>?_;by_cases h2:p.vo.p.n=(i:Int)
    .refine qI ((p.vo.p.n==(i:Int))) true (by simpa using h2) (qR [] 4 [] λi8 d7 e7 N=>?_);rw[show p.kc i=((Nod.dT { p with cl:=f } dn),[])from by unfold Nod.kc;rw[hE];exact(if_neg b4).trans (if_pos h2)];rw[show((Nod.dT { p with cl:=f } dn),([]:List Let)).2=[]from rfl,mT];refine Af λK=>?_;have q:=(((hC.n A).n d).n B).n N;have G:Tg.z∉([.n 5 i,.n 60 0]:List Tg):=by simp
     have d2:NS i nb ob d7 e7 ({ p with cl:=f }) ls ts:=⟨({ m with cl:=some E }:NX),lt,tl,K.nd 1 (a.tape.ch q G) (a.mv.ch q G) (BA a.an q G) (Cc a.bw q G (by simp)) (a.fv.ch q) (a.ab.ch q) (a.bn.ch q) ((((hAr.ch A).ch d).ch B).ch N) (λ_=>⟨E,rfl⟩),K.od 2 (Ec M.br q G (by simp)) (M.ed.ch q),K.new⟩;refine qS0 2 [true,false,false] (JE d2 dn y ((((hy.ch A).ch d).ch B).ch N).rc (by omega) hq) λh4 k1 k5 f1 f3 b0 b2 d5=>qR [] 1 [] λi9 h5 k2 a4=>qF b0 b2 a4 (((((((hC.mono (by simp[TN])).n A).n d).n B).n N).trans (d5)).n a4)
    .refine qI ((p.vo.p.n==(i:Int))) false (by simpa using h2) (qR [] 13 [11,0,2,4,0,6,8,10,12,14,1,16,18,20] λj0 d8 e8 O=>?_);rw[show p.kc i=({ p with cl:=f },[{ BC 6 with bu:=m.ab.n,gC:=dn,src:=i,dst:=p.vo.p.n.toNat }])from by unfold Nod.kc;rw[hE,e0];exact(if_neg b4).trans (if_neg h2)];refine Af λK=>?_;have t:=(((hC.n A).n d).n B).n O;have H:Tg.z∉([.n 5 i,.n 60 0]:List Tg):=by simp
     have d3:NS i nb ob d8 e8 ({ p with cl:=f }) ls ts:=⟨({ m with cl:=some E }:NX),lt,tl,K.nd 1 (a.tape.ch t H) (a.mv.ch t H) (BA a.an t H) (Cc a.bw t H (by simp)) (a.fv.ch t) (a.ab.ch t) (a.bn.ch t) ((((hAr.ch A).ch d).ch B).ch O) (λ_=>⟨E,rfl⟩),K.od 2 (Ec M.br t H (by simp)) (M.ed.ch t),K.new⟩;have I:=FM d3 hb { BC 6 with bu:=m.ab.n,gC:=dn } s30 y ⟨Sv.nil _,λh=>absurd rfl h⟩ ((((hy.ch A).ch d).ch B).ch O).rc p.vo.p.n.toNat;rw[oQ e6]at I
     refine qS0 11 [true,false,false] (I) λh6 k3 k6 f2 f4 b1 b3 d6=>qR [] 1 [] λj1 h7 k4 a5=>qF b1 b3 a5 (((((((hC.mono (by simp[TN])).n A).n d).n B).n O).trans (d6)).n a5)
end
end
end Go.Proofs.YtcjcngceghfoeaaGreatDoor
