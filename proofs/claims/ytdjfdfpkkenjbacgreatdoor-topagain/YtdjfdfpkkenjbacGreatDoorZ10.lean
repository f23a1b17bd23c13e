/- Part 10 of the walk. -/
import Derived.Test.YtdjfdfpkkenjbacGreatDoorZ9
set_option maxRecDepth 100000
set_option maxHeartbeats 4000000
open Go.Proofs.Tryz
set_option linter.unusedVariables false
namespace Go.Proofs.YtdjfdfpkkenjbacGreatDoor
section
open Go.RowKit
section
def MB(p:Nod)(i j:Nat):Bool:=decide (j≠i/\p.av.bu j<p.ae.length)
def KH(p:Nod)(i k:Nat):Nat->Nat:=λj=>if decide (j<k)&&MB p i j then p.ae.length else p.av.bu j
def EH(p:Nod)(i k:Nat):Nod:={ p with av:={ p.av with bu:=KH p i k } }
def Ds(p:Nod)(i:Nat):Nat->List Let
 | 0=>[]
 | k+1=>Ds p i k++(if MB p i k then[{ BD 5 with src:=i,dst:=k,bn:=p.av.bu k,fm:=p.ae.drop (p.av.bu k) }]else[])
theorem UP(p:Nod)(i k:Nat):(Ds p i k).length<=k:=by
 induction k with
 | zero=>exact A' _
 | succ k ih=>unfold Ds;rw[E'];split<;>simp<;>omega
theorem WW(p:Nod)(i:Nat):EH p i 0=p:=by unfold EH KH;simp
variable{i k:Nat}{p:Nod}
theorem UQ(h:MB p i k=false):KH p i (k+1)=KH p i k:=by
 funext j
 unfold KH;by_cases e:j=k
 .subst e;simp[h]
 .rw[show decide (j<k+1)=decide (j<k)from nf.2 (by omega)]
theorem aT(h:MB p i k=true):upN (KH p i k) k p.ae.length=KH p i (k+1):=by
 funext j
 unfold upN KH;by_cases e:j=k
 .subst e;simp[h]
 .rw[if_neg e,show decide (j<k+1)=decide (j<k)from nf.2 (by omega)]
theorem WX{g:Gh}{w:World}{nb D:Nat}{a:List Let}{Z:List Tol}(h:NS i nb D g w p a Z)(hb:a.length<90000000) :
  Calls prog 91 #[pt nb 0] w (NP i nb D g w (.tuple #[]) (if p.leads then EH p i 5 else p) (if p.leads then a++Ds p i 5 else a) Z):=by
 obtain⟨x,lt,tl,V,W,hg⟩:=h;refine gI (fn:=f91) (TN i) g func91 hg (qN V (qO W (qR [] 4 [] λs1 g1 w1 E=>?_)));by_cases h1:p.leads=false
 .refine Af λK=>?_;have N3:NS i nb D g1 w1 p a Z:=(nsC V W E K);refine qC 1 (Fl N3 h1) ?_;rintro e' w4 ⟨rfl,b4⟩;refine⟨_,rfl,b4,?_⟩;have c4:=Cg.ed (B:=w.heap.size) (T:=[]) (g:=g1) b4;refine qR [] 3 [] λs5 g5 w5 c5=>qE (.tuple #[]) λK=>?_;rw[h1,if_neg (by simp),if_neg (by simp)];exact⟨_,rfl,(nsC V W ((E.n c4).n c5) K),(((E.nil (TN i)).n c4).n c5)⟩
 .have h10:p.leads=true:=by simpa using h1
  refine Af λK=>?_;have N8:NS i nb D g1 w1 p a Z:=(nsC V W E K);refine qC 1 (Fl N8 h10) ?_;rintro e' w9 ⟨rfl,b9⟩;refine⟨_,rfl,b9,?_⟩;have c9:=Cg.ed (B:=w.heap.size) (T:=[]) (g:=g1) b9;rw[if_pos h10,if_pos h10];refine qR [] 15 [0] λd1 a5 e7 G=>Cc 51 [(0,pt nb 0),(12,.agg #[iv (p.av.bu 0:Int),iv (p.av.bu 1:Int),iv (p.av.bu 2:Int),iv (p.av.bu 3:Int),iv (p.av.bu 4:Int)]),(13,iv 0)] [false,false] [] (λk g' w' e L=>∃ k0:Nat,k=5-k0/\k0<=5/\e=[(0,pt nb 0),(12,.agg #[iv (p.av.bu 0:Int),iv (p.av.bu 1:Int),iv (p.av.bu 2:Int),iv (p.av.bu 3:Int),iv (p.av.bu 4:Int)]),(13,iv (k0:Int))]/\L=[]/\NS i nb D g' w' (EH p i k0) (a++Ds p i k0) Z/\Cg w.heap.size (TN i) g w g' w') (by kernel_rfl) (by kernel_rfl) (by kernel_rfl) (by kernel_rfl) 5 (λK=>?_) ?_
  .have C11:=(E.n c9).n G;exact⟨0,rfl,by omega,rfl,rfl,(by rw[WW,show a++Ds p i 0=a from mI _];exact(nsC V W C11 K)),(((E.nil (TN i)).n c9).n G)⟩
  .rintro k gr wr _ zr _ ⟨k0,rfl,hk0,rfl,rfl,hM,hC⟩ J hJ;obtain⟨xr,d0,e6,j,o,c7⟩:=hM;have c8:=UP p i k0;refine qN j (qO o ?_);have c6:xr.ae.n=p.ae.length:=j.ae.num;refine qR [] 5 [] λd2 a6 e8 b=>?_;by_cases h2:k0<5
   .refine qI ((decide ((k0:Int)<5))) true (P' (by omega)) (qR [] 6 [] λd3 a7 e9 c=>?_);refine cP 1 (iv (p.av.bu k0:Int)) (λK=>(by rcases qk h2 with rfl|rfl|rfl|rfl|rfl<;>kernel_rfl)) (by kernel_rfl) ?_;refine qR [] 10 [0] λd4 a8 f0 d=>?_;by_cases h3:k0≠i
    .refine qV 5 (.bool true) (Hl (t:=3) (m:=(k0:Int)) (n:=(i:Int)) (x:=(.tmp 17)) (y:=(.tmp 21)) (by simp;omega)) (qR [] 11 [0] λd5 a9 f1 r=>?_);by_cases h4:(p.av.bu k0:Int)<(xr.ae.n:Int)
     .have hx:MB p i k0=true:=P' ⟨by omega,by omega⟩;refine qI ((decide ((p.av.bu k0:Int)<(xr.ae.n:Int)))) true (P' (by omega)) (qR [] 5 [] λd6 b0 f2 H=>qS 3 [false,false] j o ((((b.n c).n d).n r).n H) (λa0=>IY a0 (by rw[E'];omega) k0 (p.av.bu k0) (by show _<=p.ae.length;omega)) λb1 f3 q u A s X a1=>qR [] 14 [13,0,2,4,6,8,10,12,0,14,16,18,20,22] λd7 a3 a4 I=>?_);have Y:q.ae.n=p.ae.length:=s.ae.num;refine Ct 51 (λg' w' e L=>e=[(0,pt nb 0),(12,.agg #[iv (p.av.bu 0:Int),iv (p.av.bu 1:Int),iv (p.av.bu 2:Int),iv (p.av.bu 3:Int),iv (p.av.bu 4:Int)]),(13,iv (k0:Int))]/\L=[⟨nb,.cells (AF i D ({ p with av:={ p.av with bu:=upN (KH p i k0) k0 q.ae.n } }) q) 123,.n 0 i,false⟩,⟨D,.cells #[S3.v u,S3.v A] 96,.n 50 0,false⟩]/\True/\Cg w.heap.size ([.n 0 i]:List Tg) a3 a4 g' w') (by kernel_rfl) ?_ ?_
      .intro J hJ;rcases qk h2 with rfl|rfl|rfl|rfl|rfl <;>
       (refine qR [.n 0 i] 3 [24,27,0,1] λd8 b3 f5 a2=>?_;exact qB [true,true] λz C K=>hJ _ _ _ z _ ⟨rfl,rfl,trivial,a2⟩ K)
      rintro b2 f4 _ g4 _ ⟨rfl,rfl,_,M⟩;refine qR [] 2 [] λd9 b5 f6 N=>qV 0 (iv ((k0:Int)+1)) (Bj 13 (k0:Int) underlying3 (by omega)) (qR [] 2 [] λe0 b6 f7 O=>qB [false,false] λz C K=>hJ (5-(k0+1)) _ _ _ z _ (by omega) ⟨k0+1,rfl,by omega,rfl,rfl,?_,((((((((((hC.n b).n c).n d).n r).n H).trans a1).n I).trans (M.mono (by simp[TN]))).n N).n O)⟩ K);have F:=(((I.nil ([.n 0 i]:List Tg)).trans (M)).n N).n O;rw[show EH p i (k0+1)={ p with av:={ p.av with bu:=upN (KH p i k0) k0 q.ae.n } }from by unfold EH;rw[<- aT hx,Y],show a++Ds p i (k0+1)=(a++Ds p i k0++[{ BD 5 with src:=i,dst:=k0,bn:=p.av.bu k0,fm:=p.ae.drop (p.av.bu k0) }])from by show a++(Ds p i k0++_)=_;rw[hx,if_pos rfl,mm]];exact⟨q,u,A,C.sr 0 s F,X.ch F (hn:=by simp<;>omega),C.new⟩
     .have hx:MB p i k0=false:=G' (λh=>h4 (by omega));refine qI ((decide ((p.av.bu k0:Int)<(xr.ae.n:Int)))) false (G' (by omega)) (qR [] 3 [] λe1 b7 f8 P=>qV 0 (iv ((k0:Int)+1)) (Bj 13 (k0:Int) underlying3 (by omega)) (qR [] 2 [] λe2 b8 f9 Q=>qB [false,false] λz C K=>hJ (5-(k0+1)) _ _ _ z _ (by omega) ⟨k0+1,rfl,by omega,rfl,rfl,?_,((((((hC.n b).n c).n d).n r).n P).n Q)⟩ K));rw[show EH p i (k0+1)={ p with av:={ p.av with bu:=KH p i k0 } }from by unfold EH;rw[UQ hx],show a++Ds p i (k0+1)=a++Ds p i k0 from by show a++(Ds p i k0++_)=_;rw[hx];simp];exact(nsC j o (((((b.n c).n d).n r).n P).n Q) C)
    .have hx:MB p i k0=false:=G' (λh=>h.1 (by omega));refine qV 5 (.bool false) (Hl (t:=3) (m:=(k0:Int)) (n:=(i:Int)) (x:=(.tmp 17)) (y:=(.tmp 21)) (by simp;omega)) (qR [] 15 [] λe3 c0 g0 R=>qV 0 (iv ((k0:Int)+1)) (Bj 13 (k0:Int) underlying3 (by omega)) (qR [] 2 [] λe4 c2 g2 S=>qB [false,false] λz C K=>hJ (5-(k0+1)) _ _ _ z _ (by omega) ⟨k0+1,rfl,by omega,rfl,rfl,?_,(((((hC.n b).n c).n d).n R).n S)⟩ K));rw[show EH p i (k0+1)={ p with av:={ p.av with bu:=KH p i k0 } }from by unfold EH;rw[UQ hx],show a++Ds p i (k0+1)=a++Ds p i k0 from by show a++(Ds p i k0++_)=_;rw[hx];simp];exact(nsC j o ((((b.n c).n d).n R).n S) C)
   .refine qI ((decide ((k0:Int)<5))) false (G' (by omega)) (qR [] 1 [] λe5 c3 g3 U=>?_);obtain rfl:k0=5:=by omega
    exact qF j o (b.n U) ((hC.n b).n U)
end
end
section
section
def BP(l:List Vt):Prop:=BL l/\∀ v∈l,0<=v.bn/\v.bn<=39
theorem ZJ(l:List Vt)(a:Int)(h:BL l)(b:∀ v∈l,a<=v.bn/\v.bn<=39):l.length<=(40-a).toNat:=by
 induction l generalizing a with
 | nil=>exact mL _
 | cons u l ih =>
  obtain⟨d,e⟩:=h;have f:=b u M';have:=ih (u.bn+1) e λv c=>⟨by have:=d v c;omega,(b v (I' _ c)).2⟩;rw[mJ];omega
variable{a:Acc}{b:Bal}{l:List Vt}{v:Vt}
theorem BP.len(h:BP l):l.length<=40:=ZJ l 0 h.1 h.2
theorem BP.nil:BP []:=⟨trivial,λv h=>by cases h⟩
theorem Ap(h:Ba a v=0):Ag a/\Ah v/\¬ v.b.lt a.p:=by
 unfold Ba at h;by_cases c:Ag a
 .rw[if_neg (λg=>g c)]at h
  by_cases d:Ah v
  .rw[if_neg (λg=>g d)]at h
   by_cases e:v.b.lt a.p
   .rw[if_pos e]at h;cases h
   .exact⟨c,d,e⟩
  .rw[if_pos d]at h;cases h
 .rw[if_pos c]at h;cases h
theorem Co(h:Cl a b=0):Ag a/\Ab b/\¬ b.lt a.p:=by
 unfold Cl at h;by_cases c:Ag a
 .rw[if_neg (λg=>g c)]at h
  by_cases d:Ab b
  .rw[if_neg (λg=>g d)]at h
   by_cases e:b.lt a.p
   .rw[if_pos e]at h;cases h
   .exact⟨c,d,e⟩
  .rw[if_pos d]at h;cases h
 .rw[if_pos c]at h;cases h
theorem Gv(h:BP l)(b:Ah v):BP (Bo l v) :=
 ⟨Jv v h.1,λu a=>by
  rcases(BB h.1).1 a with rfl|⟨h2,_⟩
  .exact b.1
  .exact h.2 u h2⟩
theorem VK(a:Acc)(l:List Vt)(h:BP a.vs):BP (Dh a l).vs:=by
 induction l generalizing a with
 | nil=>exact h
 | cons v l ih =>
  rw[Dh];refine ih _ ?_;by_cases b:Ba a v=0
  .rw[if_pos b];show BP (Br a v);rw[(DM b).2];exact Gv h (Ap b).2.1
  .rw[if_neg b];exact h
def POk(k:Nat):Pend->Prop
 | .began b vs=>BP vs
 | .prom to b vs=>to<5/\Ao b/\BP vs
 | .voted to v=>to<5
 | .ew to b=>to<5/\Ao b
 | .prop v=>True
 | .askNews to=>to<5
 | .start=>True
 | .tell to bn=>to<5/\bn<=k
theorem POk.mono{k m:Nat}{q:Pend}(h:POk k q)(a:k<=m):POk m q:=by
 cases q<;>first|exact h|exact⟨h.1,mg h.2 a⟩
def Pend.wt:Pend->Nat
 | .began _ _=>4
 | .prop _=>4
 | .start=>4
 | _=>1
def Ay:List Pend->Nat
 | []=>0
 | q::l=>q.wt+Ay l
theorem FO(l:List Pend)(q:Pend):Ay (l++[q])=Ay l+q.wt:=by
 induction l with
 | nil=>simp[Ay]
 | cons x l ih=>simp only[List.cons_append,Ay,ih];omega
theorem Ex(l:List Pend):l.length<=Ay l:=by
 induction l with
 | nil=>exact A' _
 | cons x l ih =>
  rw[Ay,mJ];have:1<=x.wt:=by cases x<;>simp[Pend.wt]
  omega
structure NOk(n:Nat)(p:Nod):Prop where
 ag:p.ae.length<=40
 dn:p.done<=p.ae.length
 qu:p.av.fa.length<=40
 wa:p.au.length<=n
 ask:∀ c,(p.bw c).isSome=true->c∈p.au
 ro:0<=p.cF/\p.cF<=65536
 vp:Ao p.vo.p
 vs:BP p.vo.vs
 he:∀ j,BP (p.av.al j).vs
 pe:∀ q∈p.br,POk p.ae.length q
structure LOk(l:Let):Prop where
 kd:l.kind<7
 src:l.src<5
 dst:l.dst<5
 fv:Ao l.fv
 vs:BP l.ic
 wh:l.fm.length<=40
 sl:l.kind=5->l.bn+l.fm.length<=40
theorem Ao.b0:Ao Be:=.inr ⟨rfl,rfl⟩
theorem Ao.sT(h:Ao b):0<=b.r/\b.r<=65536/\0<=b.n/\b.n<=4:=by
 rcases h with⟨h1,h2⟩|⟨h1,h2⟩<;>omega
end
section
variable{n:Nat}{p:Nod}
theorem NOk.wait(h:NOk n p){q:Pend}(b:POk p.ae.length q):NOk n (p.wait q) :=
 { h with pe:=λr c=>(Q'.1 c).elim (h.pe r) λa=>(D'.1 a)▸b }
theorem NOk.an(h:NOk n p)(b:Bal):NOk n (p.an b).1/\(p.an b).1.br=p.br/\(p.an b).1.ae=p.ae/\BP (p.an b).2.1/\((p.an b).2.2=0->Ab b):=by
 unfold Nod.an;by_cases a:Cl p.vo b≠0
 .rw[if_pos a];exact⟨h,rfl,rfl,BP.nil,λg=>absurd g a⟩
 .rw[if_neg a];have c:=Co (mV a);by_cases f:b=p.vo.p
  .rw[if_pos f];exact⟨{ h with vp:=.inl c.2.1,vs:=h.vs },rfl,rfl,h.vs,λ_=>c.2.1⟩
  .rw[if_neg f];by_cases e:CK p.d p.sy (Ab b) (Bu b)≠0
   .rw[if_pos e];exact⟨h,rfl,rfl,BP.nil,λg=>absurd g e⟩
   .rw[if_neg e];exact⟨{ h with vp:=.inl c.2.1,vs:=h.vs },rfl,rfl,h.vs,λ_=>c.2.1⟩
theorem NOk.bN(h:NOk n p)(v:Vt):NOk n (p.bN v).1/\(p.bN v).1.br=p.br/\(p.bN v).1.ae=p.ae/\(p.bN v).1.av=p.av:=by
 unfold Nod.bN;by_cases b:Ba p.vo v≠0
 .rw[if_pos b];exact⟨h,rfl,rfl,rfl⟩
 .rw[if_neg b];have a:=Ap (mV b);by_cases c:v∈p.vo.vs
  .rw[if_pos c];exact⟨{ h with vp:=.inl a.2.1.2.1,vs:=Gv h.vs a.2.1 },rfl,rfl,rfl⟩
  .rw[if_neg c];by_cases e:CK p.d p.sy (Ah v) (Bk v)≠0
   .rw[if_pos e];exact⟨h,rfl,rfl,rfl⟩
   .rw[if_neg e];exact⟨{ h with vp:=.inl a.2.1.2.1,vs:=Gv h.vs a.2.1 },rfl,rfl,rfl⟩
theorem NOk.ew(h:NOk n p){to:Nat}(a:to<5)(e:Int):NOk n (p.ew to e)/\(p.ew to e).ae=p.ae/\Ay (p.ew to e).br<=Ay p.br+1:=by
 unfold Nod.ew;split
 .exact⟨h.wait ⟨a,h.vp⟩,rfl,by show Ay (p.br++[_])<=_;rw[FO];exact A' _⟩
 .exact⟨h,rfl,nh _⟩
theorem dp(k:Nat)(r:Rnd)(l:List Cmd)(h:l.length<=40):(FG k r l).length<=40/\l.length<=(FG k r l).length:=by
 induction k generalizing l with
 | zero=>exact⟨h,A' _⟩
 | succ k ih =>
  rw[FG];split
  .rename_i h1
   have a:=XA h1;have:=ih (l++[CR r.gC (l.length:Int)]) (by simp;omega);simp at this;exact⟨this.1,by omega⟩
  .exact⟨h,A' _⟩
theorem NOk.grow(h:NOk n p){l:List Cmd}(b:l.length<=40)(a:p.ae.length<=l.length):NOk n { p with ae:=l } :=
 { h with ag:=b,dn:=mg h.dn a,pe:=λq c=>(h.pe q c).mono a }
theorem NOk.qv(h:NOk n p):NOk n p.qv/\p.qv.br=p.br/\p.ae.length<=p.qv.ae.length :=
 have:=dp 41 p.av p.ae h.ag
 ⟨h.grow this.1 this.2,rfl,this.2⟩
theorem NOk.ia(h:NOk n p){bn:Nat}{fm:List Cmd}(a:bn<=p.ae.length)(b:bn+fm.length<=40):NOk n (p.ia bn fm)/\(p.ia bn fm).br=p.br/\p.ae.length<=(p.ia bn fm).ae.length:=by
 have c:=h.ag;refine⟨h.grow ?_ ?_,rfl,?_⟩
 .rw[E',mo];omega
 .rw[E'];omega
 .show _<=(p.ae++_).length;rw[E'];omega
theorem aZ{α:Type}{f:Nat->α}{P:α->Prop}(h:∀ j,P (f j))(i:Nat){x:α}(a:P x):∀ j,P (upN f i x j):=by
 intro j;unfold upN;split
 .exact a
 .exact h j
theorem NOk.qQ(h:NOk n p)(j:Nat){vs:List Vt}(b:BP vs):NOk n { p with av:=p.av.qQ j vs } :=
 { h with qu:=h.qu,he:=aZ (P:=λa:Acc=>BP a.vs) h.he j (VK _ _ b) }
theorem NOk.count(h:NOk n p)(j:Nat)(v:Vt):NOk n (p.count j v)/\(p.count j v).br=p.br/\p.ae.length<=(p.count j v).ae.length:=by
 unfold Nod.count;by_cases d:v.b≠p.av.fv
 .rw[if_pos d];exact⟨h,rfl,A' _⟩
 .rw[if_neg d];by_cases c:Ba (p.av.al j) v≠0
  .rw[if_pos c];exact⟨h,rfl,A' _⟩
  .rw[if_neg c];have e:=mV c;have:NOk n { p with av:={ p.av with al:=upN p.av.al j ⟨BI (p.av.al j) v,Br (p.av.al j) v⟩ } } :=
    { h with qu:=h.qu,he:=aZ (P:=λa:Acc=>BP a.vs) h.he j (by show BP (Br _ v);rw[(DM e).2];exact Gv (h.he j) (Ap e).2.1) }
   exact this.qv
theorem NOk.dT(h:NOk n p)(l:List Cmd):NOk n (p.dT l)/\(p.dT l).br=p.br/\(p.dT l).ae=p.ae:=by
 unfold Nod.dT;split
 .exact⟨{ h with qu:=cD _ _ h.qu,he:=h.he },rfl,rfl⟩
 .exact⟨h,rfl,rfl⟩
theorem NOk.take(h:NOk n p){l:Let}(a:LOk l):NOk n (p.take l)/\Ay (p.take l).br<=Ay p.br+1/\p.ae.length<=(p.take l).ae.length:=by
 have g:=h.ag;unfold Nod.take;have b:∀ {P:Nod} {q:Pend},P.br=p.br->q.wt=1->Ay (P.wait q).br<=Ay p.br+1:=λ{P q} e d=>by
  show Ay (P.br++[q])<=_;rw[FO,e,d];exact A' _
 split
 .have hp:=h.an l.fv;split
  .have:=h.ew a.src (p.an l.fv).2.2;exact⟨this.1,this.2.2,by rw[this.2.1];exact A' _⟩
  .rename_i h1
   exact⟨hp.1.wait ⟨a.src,.inl (hp.2.2.2.2 (mV h1)),hp.2.2.2.1⟩,b hp.2.1 rfl,by show _<=(p.an l.fv).1.ae.length;rw[hp.2.2.1];exact A' _⟩
 .have hk:=h.ia (bn:=0) (fm:=l.fm) (mL _) (by have:=a.wh;omega);simp only;split
  .exact⟨hk.1,by rw[hk.2.1];omega,hk.2.2⟩
  .have h2:=hk.1.qQ l.src (vs:=l.ic) a.vs;have f:NOk n { p.ia 0 l.fm with av:={ (p.ia 0 l.fm).av.qQ l.src l.ic with bu:=upN (p.ia 0 l.fm).av.bu l.src l.fm.length } }:={ h2 with qu:=h2.qu,he:=h2.he };have c:=f.qv;exact⟨c.1,by rw[c.2.1];show Ay (p.ia 0 l.fm).br<=_;rw[hk.2.1];omega,mg hk.2.2 c.2.2⟩
 .have hr:=h.ro;have i:=a.fv.sT;exact⟨{ h with ro:=by show 0<=max p.cF l.fv.r/\max p.cF l.fv.r<=65536;omega },nh _,A' _⟩
 .have hp:=h.bN l.bN;split
  .have:=h.ew a.src (p.bN l.bN).2;exact⟨this.1,this.2.2,by rw[this.2.1];exact A' _⟩
  .exact⟨hp.1.wait a.src,b hp.2.1 rfl,by show _<=(p.bN l.bN).1.ae.length;rw[hp.2.2.1];exact A' _⟩
 .have:=h.count l.src l.bN;exact⟨this.1,by rw[this.2.1];omega,this.2.2⟩
 .rename_i hk
  split
  .exact⟨h.wait a.src,b rfl rfl,A' _⟩
  .have:=h.ia (bn:=l.bn) (fm:=l.fm) (by omega) (a.sl hk);exact⟨this.1,by rw[this.2.1];omega,this.2.2⟩
 .have he:=h.dT l.fm;simp only;split
  .rename_i h1
   exact⟨he.1.wait ⟨a.src,oB h1⟩,b he.2.1 rfl,by show _<=(p.dT l.fm).ae.length;rw[he.2.2];exact A' _⟩
  .exact⟨he.1,by rw[he.2.1];omega,by rw[he.2.2];exact A' _⟩
 .exact⟨h,nh _,A' _⟩
end
def Nod.hU(p:Nod)(i:Nat):Nod × List Let :=
 if(Bb p.vo.p p.bw (p.au.take 40)).1=[]then({ p with bw:=(Bb p.vo.p p.bw (p.au.take 40)).2 },[])
 else if p.vo.p.n=(i:Int)then(Nod.dT { p with bw:=(Bb p.vo.p p.bw (p.au.take 40)).2 } (Bb p.vo.p p.bw (p.au.take 40)).1,[])
 else({ p with bw:=(Bb p.vo.p p.bw (p.au.take 40)).2 },[{ BD 6 with bn:=p.ae.length,fm:=(Bb p.vo.p p.bw (p.au.take 40)).1,src:=i,dst:=p.vo.p.n.toNat }])
noncomputable def qL(i:Nat):List Cmd->Nod->List Tol->Nod × List Tol
 | [],p,ts=>(p,ts)
 | c::l,p,ts =>
  if doE p.ie c≠0 then(p,ts)
  else qL i l (Nod.fu { p with ie:=doS p.ie c,done:=p.done+1 } c) (if(p.bw c).isSome=true then ts++[⟨i,c.c,c.s,doC p.ie c,doA p.ie c⟩]else ts)
def Nod.ln(p:Nod)(i:Nat)(ls:List Let):Nod × List Let:=if p.sy<(p.d.length:Int)/\Db p.d p.sy≠0 then(p,ls)else lr i p.br { p.qJ with br:=[] } ls
def Nod.bu(p:Nod)(i:Nat)(ls:List Let):Nod × List Let:=if p.leads then(EH p i 5,ls++Ds p i 5)else(p,ls)
noncomputable def Nod.piece(p:Nod)(i:Nat)(ls:List Let)(ts:List Tol):Nod × List Let × List Tol :=
 let a:=qL i (p.ae.drop p.done) p ts
 let b:=a.1.hU i
 let c:=b.1.cl.ln i (ls++b.2)
 let d:=c.1.bu i c.2
 (d.1,d.2,a.2)
noncomputable def Nod.qY(p:Nod)(i:Nat)(e:Int)(c:Cmd)(ts:List Tol):Nod × List Tol :=
 if p.up=false then(p,ts)
 else if e≠0 then({ p with bad:=p.bad+1 },ts)
 else if c∈p.ae.take p.done then(p,ts++[⟨i,c.c,c.s,doC p.ie c,doA p.ie c⟩])
 else(p.want c,ts)
def E9(l:List Int)(now:Int):Cmd:=if opE l now=0 then⟨Ac (unQ l) 0,Ac (unQ l) 4,Ac (unQ l) 8,Ac (unQ l) 12,Ac (unQ l) 16⟩else Vu
theorem Zi(l:List Int)(a:Int):opA l a=cmC (E9 l a):=by unfold opA E9;split<;>rfl
noncomputable def Nod.qK(p:Nod)(i:Nat)(d:List Int)(ts:List Tol):Nod × List Tol:=p.qY i (opE d (p.done:Int)) (E9 d (p.done:Int)) ts
def Meet.set(M:Meet)(i:Nat)(p:Nod)(ls:List Let)(ts:List Tol):Meet:=⟨upN M.ab i p,ls,ts⟩
noncomputable def Meet.act(M:Meet)(x:Lac):Meet :=
 let i:=x.n.toNat
 if x.k=1 then M.set i ((M.ab i).qK i x.d M.eb).1 M.bm ((M.ab i).qK i x.d M.eb).2
 else if x.k=2 then M.set i (if(M.ab i).up then(M.ab i).lead i else M.ab i) M.bm M.eb
 else if x.k=3 then M.set i (if(M.ab i).up then((M.ab i).piece i M.bm M.eb).1 else M.ab i) (if(M.ab i).up then((M.ab i).piece i M.bm M.eb).2.1 else M.bm) (if(M.ab i).up then((M.ab i).piece i M.bm M.eb).2.2 else M.eb)
 else if x.k=4\/x.k=5\/x.k=6 then M.move x.k x.a.toNat
 else if x.k=7 then M.qH
 else if x.k=8 then M.set i (if(M.ab i).up then(M.ab i).ib x.p else M.ab i) M.bm M.eb
 else if x.k=9 then M.set i (if(M.ab i).up then M.ab i else(M.ab i).start) M.bm M.eb
 else M
noncomputable def Meet.dc(M:Meet)(l:List Lac):Meet:=l.foldl Meet.act M
theorem ec(r:List Int):Ao (Er r).2.p/\BP (Er r).2.vs:=by
 have h:∀ k,Ao (itR r k).2.p/\BP (itR r k).2.vs:=by
  intro k;induction k with
  | zero=>exact⟨.inr ⟨rfl,rfl⟩,BP.nil⟩
  | succ k ih =>
   rw[itR];unfold JY;split
   .exact ih
   .rename_i c m hs
    have d:∃ b,DW (itR r k).2 b=some c:=by
     unfold BZ at hs;split at hs
     .cases hs
     .split at hs
      .cases hs
      .split at hs
       .cases hs
       .obtain⟨x,hx,e⟩:=nI.1 hs;injection e with e1 e2
        subst e1;exact⟨_,hx⟩
    obtain⟨b,a⟩:=d;unfold DW at a;split at a
    .split at a
     .rename_i h1
      injection a with a;subst a
      exact⟨.inl (Co h1).2.1,ih.2⟩
     .cases a
    .split at a
     .split at a
      .split at a
       .rename_i h1
        injection a with a;subst a
        exact⟨.inl (Ap h1).2.1.2.1,Gv ih.2 (Ap h1).2.1⟩
       .cases a
      .cases a
     .cases a
 exact h r.length
theorem dZ(d:List Int)(s:Int):Ao (G4 d s).p/\BP (G4 d s).vs:=by
 unfold G4;split
 .exact ec d
 .exact⟨.inr ⟨rfl,rfl⟩,BP.nil⟩
theorem CH{i:Nat}{l m:Let}{k:Nat}(h:m∈BV i l k):∃ to,to<k/\m={ l with src:=i,dst:=to }:=by
 unfold BV at h;obtain⟨to,a,rfl⟩:=mB.1 h;exact⟨to,oJ.1 (oL.1 a).1,rfl⟩
theorem JB{i:Nat}(a:i<5)(l:Let):(BV i l 5).length<=4:=by
 unfold BV;rw[mF];rcases qk a with rfl|rfl|rfl|rfl|rfl<;>decide
section
variable{n i:Nat}{p:Nod}
theorem NOk.hZ(h:NOk n p)(a:i<5){q:Pend}(c:POk p.ae.length q):NOk n (p.hZ i q)/\(p.hZ i q).br=p.br/\p.ae.length<=(p.hZ i q).ae.length/\RC p i q/\(∀ m∈p.pd i q,LOk m)/\(p.pd i q).length<=q.wt:=by
 have g:=h.ag;have one:∀ {l:Let},LOk l->∀ m∈[l],LOk m:=λj m d=>by rw[D'.1 d];exact j
 cases q with
 | began b vs =>
  unfold Nod.hZ Nod.pd;refine⟨?_,?_,?_,pT (h.he i).len (by decide),?_,?_⟩
  .simp only;split
   .exact h
   .exact h.qQ i c
  .simp only;split<;>rfl
  .simp only;split<;>exact A' _
  .simp only;split
   .exact λm d=>by cases d
   .rename_i h1
    intro m d;obtain⟨to,e,rfl⟩:=CH d;exact⟨by show 0<7;decide,a,e,by show Ao b;rw[<- mV h1];exact h.vp,BP.nil,by show 0<=40;decide,λh=>by cases h⟩
  .simp only;split
   .exact mL _
   .exact JB a _
 | prom to b vs=>exact⟨h,rfl,A' _,trivial,one ⟨by show 1<7;decide,a,c.1,c.2.1,c.2.2,g,λh=>by cases h⟩,A' _⟩
 | voted to v=>exact⟨h,rfl,A' _,trivial,one ⟨by show 4<7;decide,a,c,Ao.b0,BP.nil,by show 0<=40;decide,λh=>by cases h⟩,A' _⟩
 | ew to b=>exact⟨h,rfl,A' _,trivial,one ⟨by show 2<7;decide,a,c.1,c.2,BP.nil,by show 0<=40;decide,λh=>by cases h⟩,A' _⟩
 | prop v =>
  have f:=h.count i v;refine⟨f.1,f.2.1,f.2.2,g,λm d=>?_,JB a _⟩;obtain⟨to,e,rfl⟩:=CH d;exact⟨by show 3<7;decide,a,e,Ao.b0,BP.nil,by show 0<=40;decide,λh=>by cases h⟩
 | askNews to=>exact⟨h,rfl,A' _,trivial,one ⟨by show 6<7;decide,a,c,Ao.b0,BP.nil,by show 0<=40;decide,λh=>by cases h⟩,A' _⟩
 | start =>
  refine⟨h,rfl,A' _,trivial,λm d=>?_,JB a _⟩;obtain⟨to,e,rfl⟩:=CH d;exact⟨by show 6<7;decide,a,e,Ao.b0,BP.nil,by show 0<=40;decide,λh=>by cases h⟩
 | tell to bn=>exact⟨h,rfl,A' _,c.2,one ⟨by show 5<7;decide,a,c.1,Ao.b0,BP.nil,by show(p.ae.drop bn).length<=40;rw[mo];omega,λ_=>by show bn+(p.ae.drop bn).length<=40;rw[mo];have:=c.2;omega⟩,A' _⟩
theorem XW(k:i<5)(l:List Pend)(p:Nod)(a:List Let)(h:NOk n p)(c:∀ q∈l,POk p.ae.length q)(z:a.length+Ay l<90000000)(b:∀ m∈a,LOk m) :
  NOk n (lr i l p a).1/\(lr i l p a).1.br=p.br/\(∀ m∈(lr i l p a).2,LOk m)/\(lr i l p a).2.length<=a.length+Ay l/\GQ i l p a:=by
 induction l generalizing p a with
 | nil=>exact⟨h,rfl,b,A' _,trivial⟩
 | cons q l ih =>
  obtain⟨d,e,f,g,j,y⟩:=h.hZ k (c q M');have A:Ay (q::l)=q.wt+Ay l:=rfl;obtain⟨t,u,v,w,x⟩:=ih (p.hZ i q) (a++p.pd i q) d (λr s=>(c r (I' _ s)).mono f) (by rw[E'];omega) (λm o=>by
   rcases Q'.1 o with h|h
   .exact b m h
   .exact j m h)
  refine⟨t,u.trans e,v,?_,g,by omega,x⟩;show(lr i l (p.hZ i q) (a++p.pd i q)).2.length<=_;rw[E']at w;omega
theorem NOk.qJ(h:NOk n p):NOk n { p.qJ with br:=[] }:=by
 unfold Nod.qJ;split
 .exact{ h with pe:=λq a=>by cases a }
 .exact{ h with pe:=λq a=>by cases a }
theorem TH(p:Nod):p.qJ.ae=p.ae:=by unfold Nod.qJ;split<;>rfl
theorem NOk.ln(h:NOk n p)(d:i<5){ls:List Let}(c:ls.length+Ay p.br<90000000)(b:∀ m∈ls,LOk m) :
  NOk n (p.ln i ls).1/\(∀ m∈(p.ln i ls).2,LOk m)/\(p.ln i ls).2.length+Ay (p.ln i ls).1.br<=ls.length+Ay p.br/\GQ i p.br { p.qJ with br:=[] } ls:=by
 have a:=XW d p.br { p.qJ with br:=[] } ls h.qJ (λq e=>by show POk p.qJ.ae.length q;rw[TH];exact h.pe q e) c b;unfold Nod.ln;split
 .exact⟨h,b,A' _,a.2.2.2.2⟩
 .exact⟨a.1,a.2.2.1,by rw[a.2.1];exact a.2.2.2.1,a.2.2.2.2⟩
theorem Xt(b:Bal)(f:Cmd->Option Bal)(l:List Cmd):(Bb b f l).1.length<=l.length:=by
 induction l generalizing f with
 | nil=>exact A' _
 | cons c l ih =>
  rw[Bb];split
  .have:=ih (BW f c (some b));simp only[mJ];omega
  .have:=ih f;simp only[mJ];omega
theorem Vn(b:Bal)(f:Cmd->Option Bal)(l:List Cmd)(c:Cmd)(h:((Bb b f l).2 c).isSome=true):(f c).isSome=true\/c∈l:=by
 induction l generalizing f with
 | nil=>exact .inl h
 | cons d l ih =>
  rw[Bb]at h
  split at h
  .rcases ih _ h with h1|h1
   .unfold BW at h1;split at h1
    .rename_i e;exact .inr (e▸M')
    .exact .inl h1
   .exact .inr (I' _ h1)
  .rcases ih _ h with h1|h1
   .exact .inl h1
   .exact .inr (I' _ h1)
theorem NOk.asks(h:NOk n p):NOk n { p with bw:=(Bb p.vo.p p.bw (p.au.take 40)).2 } :=
 { h with ask:=λc a=>(Vn _ _ _ c a).elim (h.ask c) mx }
theorem NOk.hU(h:NOk n p)(c:i<5):NOk n (p.hU i).1/\(p.hU i).1.br=p.br/\(p.hU i).1.ae=p.ae/\(∀ m∈(p.hU i).2,LOk m)/\(p.hU i).2.length<=1:=by
 have b:(Bb p.vo.p p.bw (p.au.take 40)).1.length<=40:=mg (Xt _ _ _) (by rw[j'];omega);unfold Nod.hU;split
 .exact⟨h.asks,rfl,rfl,λm a=>(by cases a),mL _⟩
 .split
  .have:=h.asks.dT (Bb p.vo.p p.bw (p.au.take 40)).1;exact⟨this.1,this.2.1,this.2.2,λm a=>(by cases a),mL _⟩
  .have hr:=h.vp.sT;refine⟨h.asks,rfl,rfl,λm a=>?_,A' _⟩;rw[D'.1 a];exact⟨by show 6<7;decide,c,by show p.vo.p.n.toNat<5;omega,Ao.b0,BP.nil,b,λh=>by cases h⟩
theorem NOk.cl(h:NOk n p):NOk n p.cl/\Ay p.cl.br<=Ay p.br+4/\p.cl.ae=p.ae:=by
 unfold Nod.cl;split
 .exact⟨h,by omega,rfl⟩
 .split
  .exact⟨h,by omega,rfl⟩
  .rename_i c _
   split
   .exact⟨h,by omega,rfl⟩
   .have hv:=h.bN ⟨(p.ae.length:Int),p.av.fv,c⟩;have a:NOk n { (p.bN ⟨(p.ae.length:Int),p.av.fv,c⟩).1 with av:={ p.av with next:=p.ae.length+1 } }:={ hv.1 with qu:=h.qu,he:=h.he };refine⟨a.wait trivial,?_,hv.2.2.1⟩;show Ay ((p.bN ⟨(p.ae.length:Int),p.av.fv,c⟩).1.br++[_])<=_;rw[FO,hv.2.1];exact A' _
theorem NOk.bu(h:NOk n p)(e:i<5)(a:List Let)(d:∀ m∈a,LOk m):NOk n (p.bu i a).1/\(p.bu i a).1.br=p.br/\(∀ m∈(p.bu i a).2,LOk m)/\(p.bu i a).2.length<=a.length+5:=by
 have g:=h.ag;have f:∀ k,k<=5->∀ m∈Ds p i k,LOk m:=by
  intro k;induction k with
  | zero=>exact λ_ m b=>by cases b
  | succ k ih =>
   intro j m b;rw[Ds]at b
   rcases Q'.1 b with h1|h1
   .exact ih (by omega) m h1
   .split at h1
    .rename_i c
     have c:=mN c;rw[D'.1 h1];exact⟨by show 5<7;decide,e,by show k<5;omega,Ao.b0,BP.nil,by show(p.ae.drop _).length<=40;rw[mo];omega,λ_=>by show p.av.bu k+(p.ae.drop _).length<=40;rw[mo];omega⟩
    .cases h1
 unfold Nod.bu;split
 .refine⟨{ h with qu:=h.qu,he:=h.he },rfl,λm b=>?_,by show(a++Ds p i 5).length<=_;rw[E'];have:=UP p i 5;omega⟩;rcases Q'.1 b with h1|h1
  .exact d m h1
  .exact f 5 (A' _) m h1
 .exact⟨h,rfl,d,qi _ _⟩
theorem NOk.fu(h:NOk n p)(c:Cmd):NOk n (p.fu c)/\(p.fu c).au.length+(if(p.bw c).isSome=true then 1 else 0)<=p.au.length:=by
 unfold Nod.fu;split
 .rename_i h1
  have b:=h.ask c h1;have e:(p.au.erase c).length=p.au.length-1:=List.length_erase_of_mem b;have f:0<p.au.length:=List.length_pos_of_mem b;refine⟨{ h with wa:=?_,ask:=λd a=>?_ },by show(p.au.erase c).length+1<=_;omega⟩
  .show(p.au.erase c).length<=n;have:=h.wa;omega
  .unfold BW at a;simp only at a;split at a
   .cases a
   .rename_i hne;exact(List.mem_erase_of_ne hne).2 (h.ask d a)
 .exact⟨h,A' _⟩
theorem GI(p:Nod)(c:Cmd):(p.fu c).up=p.up/\(p.fu c).br=p.br/\(p.fu c).ae=p.ae/\(p.fu c).done=p.done/\(p.fu c).ie=p.ie:=by
 unfold Nod.fu;split<;>exact⟨rfl,rfl,rfl,rfl,rfl⟩
theorem XS(i:Nat)(l:List Cmd)(p:Nod)(a:List Tol)(h:NOk n p)(j:p.done+l.length<=p.ae.length) :
  NOk n (qL i l p a).1/\(qL i l p a).1.br=p.br/\(qL i l p a).1.ae=p.ae/\(qL i l p a).2.length+(qL i l p a).1.au.length<=a.length+p.au.length:=by
 induction l generalizing p a with
 | nil=>exact⟨h,rfl,rfl,A' _⟩
 | cons c l ih =>
  rw[qL];split
  .exact⟨h,rfl,rfl,A' _⟩
  .rw[mJ]at j
   have g:NOk n { p with ie:=doS p.ie c,done:=p.done+1 }:={ h with dn:=by show p.done+1<=p.ae.length;omega };have e:=g.fu c;have b:=GI { p with ie:=doS p.ie c,done:=p.done+1 } c;obtain⟨k,m,o,q⟩:=ih (Nod.fu { p with ie:=doS p.ie c,done:=p.done+1 } c) (if(p.bw c).isSome=true then a++[⟨i,c.c,c.s,doC p.ie c,doA p.ie c⟩]else a) e.1 (by rw[b.2.2.2.1,b.2.2.1];show p.done+1+l.length<=p.ae.length;omega);refine⟨k,m.trans b.2.1,o.trans b.2.2.1,mg q ?_⟩;have d:=e.2;simp only at d;by_cases f:(p.bw c).isSome=true
   .rw[if_pos f]at d ⊢
    rw[E'];show a.length+1+_<=_;omega
   .rw[if_neg f]at d ⊢;omega
theorem NOk.piece(h:NOk n p)(f:i<5){ls:List Let}{ts:List Tol}(r:ls.length+Ay p.br<80000000)(k:∀ m∈ls,LOk m) :
  NOk n (p.piece i ls ts).1/\(∀ m∈(p.piece i ls ts).2.1,LOk m)/\(p.piece i ls ts).2.1.length+Ay (p.piece i ls ts).1.br<=ls.length+Ay p.br+10/\(p.piece i ls ts).2.2.length+(qL i (p.ae.drop p.done) p ts).1.au.length<=ts.length+p.au.length:=by
 have b:=XS i (p.ae.drop p.done) p ts h (by rw[mo];have:=h.dn;omega);have a:=b.1.hU f;have d:=a.1.cl;have e:=d.1.ln f (ls:=ls++((qL i (p.ae.drop p.done) p ts).1.hU i).2) (by rw[E'];have:=d.2.1;have:=a.2.2.2.2;rw[a.2.1,b.2.1]at *;omega) (λm l=>by
  rcases Q'.1 l with h|h
  .exact k m h
  .exact a.2.2.2.1 m h)
 have c:=e.1.bu f _ e.2.1;refine⟨c.1,c.2.2.1,?_,b.2.2.2⟩;have o:=c.2.2.2;have g:=e.2.2.1;have j:=d.2.1;have q:=a.2.2.2.2;rw[a.2.1,b.2.1]at j
 rw[E']at g
 show(Nod.bu _ i _).2.length+Ay (Nod.bu _ i _).1.br<=_;rw[c.2.1];omega
end
end
section
open Go.RowKit
section
variable{g:Gh}{ob:Nat}{w:World}
theorem TS(M:∀ b,w.heap.size<=b->g.t b=.z/\g.k b=0) :
  Calls prog 46 #[] w λe w'=>∃ (b:Nat) (g':Gh),e=.returned (.map (some b))/\TkAt g' w' b 7/\Ji g' w'/\Cg w.heap.size [.n 70 0] g w g' w':=by
 refine gI (fn:=f46) [.n 70 0] g func46 M (qR [] 6 [] λX U Y F=>jE 0 (by kernel_rfl) (by kernel_rfl) ?_);intro a V Z N v q W;have G:=q w.heap.size [];refine H9 1 (b:=a) v (by decide) (by kernel_rfl) (by kernel_rfl) (by kernel_rfl) ?_;intro w4 x r;have H:=r w.heap.size [.n 70 0] (D'.2 rfl);refine H9 2 (b:=a) x (by decide) (by kernel_rfl) (by kernel_rfl) (by kernel_rfl) ?_;intro w6 y s;have I:=s w.heap.size [.n 70 0] (D'.2 rfl);refine H9 3 (b:=a) y (by decide) (by kernel_rfl) (by kernel_rfl) (by kernel_rfl) ?_;intro w8 A u;have J:=u w.heap.size [.n 70 0] (D'.2 rfl);refine H9 4 (b:=a) A (by decide) (by kernel_rfl) (by kernel_rfl) (by kernel_rfl) ?_;intro P B d;have l:=d w.heap.size [.n 70 0] (D'.2 rfl);refine H9 5 (b:=a) B (by decide) (by kernel_rfl) (by kernel_rfl) (by kernel_rfl) ?_;intro Q C h;have m:=h w.heap.size [.n 70 0] (D'.2 rfl);refine H9 6 (b:=a) C (by decide) (by kernel_rfl) (by kernel_rfl) (by kernel_rfl) ?_;intro R D i;have o:=i w.heap.size [.n 70 0] (D'.2 rfl);refine H9 7 (b:=a) D (by decide) (by kernel_rfl) (by kernel_rfl) (by kernel_rfl) ?_;intro S E j;have p:=j w.heap.size [.n 70 0] (D'.2 rfl);refine qR [] 3 [] λO L T c=>qE (.map (some a)) λK=>⟨a,_,rfl,(E.ch c),K.new,((((((((((F.nil [.n 70 0]).n G).trans H).trans I).trans J).trans l).trans m).trans o).trans p).n c)⟩
theorem Lm{q s:Nat}{nb:Nat->Nat}{M:Meet}(h:MS q s ob nb g w M){w0:World}(hB:Base w0 g w)(hT:Tabs w0)(y:Nat)(l:Let)(hl:CQ g w y l)(H:LOk l){n:Nat}(u:NOk n (M.ab l.dst))(v:(M.ab l.dst).br.length<100000000) :
  Calls prog 93 #[pt q 0,pt y 0] w (MP q s ob nb g w (.tuple #[]) (M.lp l)):=by
 have o:=hl;obtain⟨O,src,dst,A,bN,j,p,d⟩:=l;have hs:src<5:=H.src;have m:dst<5:=H.dst;have a7:O<7:=H.kd;have b6:d.length<=40:=H.wh;simp only at u v;obtain⟨x,hN⟩:=h.ab dst m;have b5:=u.ag;refine gI (fn:=f93) TM g func93 h.new (Cr ⟨q,_,.z,false⟩ (λ_=>⟨h.box.r,h.box.z,λh=>(by cases h),λh=>absurd rfl h⟩) (by kernel_rfl) ?_);obtain⟨vs,wh,a8,d2,d3⟩:=hl;refine Cr ⟨y,.cells (FF (Let.mk O src dst A bN j p d) vs wh) 166,.z,false⟩ (λ_=>⟨a8.r,a8.z,λh=>(by cases h),λh=>absurd rfl h⟩) (by kernel_rfl) ?_;refine qR [] 9 [10,0,2,4,6,8,1,10,12] λs1 g1 w1 a=>?_;refine Qw 7 (pt q dst) false (λW hW=>(by rcases qk m with rfl|rfl|rfl|rfl|rfl<;>kernel_rfl)) (by kernel_rfl) ?_;refine qU 8 (pt (nb dst) 0) (λW hW=>(BT underlying99 rfl (UA (AZ.at (hW rfl) 0 q (.cells (mtA nb ob s) 102) .z (by kernel_rfl)) m))) (qR [] 7 [18] λs3 g3 w3 b=>?_);have b4:=hN.ch (a.trans b);refine qN b4 (qR [] 2 [2] λs4 g4 w4 c=>?_);by_cases h1:(M.ab dst).up=true
 .refine qI ((M.ab dst).up) true h1 ?_;have J:=h.tk.ch ((a.trans b).trans c) (by simp);refine I2 s _ 70 0 J.row J.t J.k (by kernel_rfl) ?_;rw[show M.lp (Let.mk O src dst A bN j p d)=M.set dst ((M.ab dst).take (Let.mk O src dst A bN j p d)) M.bm M.eb from if_pos h1];refine qR [] 9 [11,0,2,4,6,0,8,10,12,14,1] λs5 g5 w5 e=>qU 8 (tkV O) (λW hW=>(rTk (AZ.at (hW rfl) 3 s (.map (tkL 7).toArray 7) (.n 70 0) (by kernel_rfl)) a7)) (qR [] 2 [18,20] λs6 I L i=>?_);rcases ZV a7 with rfl|rfl|rfl|rfl|rfl|rfl|rfl
  .refine Af λK=>?_;have N7:MS q s ob nb I L M:=(h.qM ((((a.trans b).trans c).trans e).trans i) K.new);refine qG 11 TM [true,true,false,false] ((N7).call m (IW ((N7).ns m) (hB.ch (((((a.nil TM).n b).n c).n e).n i) F1) hT y _ (o.ch ((((a.trans b).trans c).trans e).trans i) (by simp)) rfl v)) ?_;rintro N w7 ⟨g7,rfl,M7,c7⟩;refine⟨_,g7,rfl,c7,M7.new,?_⟩;replace c7:=c7.ret (B:=w.heap.size);refine qR [] 1 [] λs8 g8 w8 c8=>qE (.tuple #[]) λK=>⟨_,rfl,(M7.qM c8 K.new),(((((((a.nil TM).n b).n c).n e).n i).trans (c7)).n c8)⟩
  .refine Af λK=>?_;have N9:MS q s ob nb I L M:=(h.qM ((((a.trans b).trans c).trans e).trans i) K.new);refine qG 11 TM [true,true,false,false] ((N9).call m (KF ((N9).ns m) (hB.ch (((((a.nil TM).n b).n c).n e).n i) F1) hT y _ (o.ch ((((a.trans b).trans c).trans e).trans i) (by simp)) rfl hs (by show((M.ab dst).ae++d.drop ((M.ab dst).ae.length-0)).length<=40;rw[E',mo];omega) b6 (pT (u.he src).len (by decide)))) ?_;rintro N w9 ⟨g9,rfl,M9,c9⟩;refine⟨_,g9,rfl,c9,M9.new,?_⟩;replace c9:=c9.ret (B:=w.heap.size);refine qR [] 1 [] λd4 b7 e1 a0=>qE (.tuple #[]) λK=>⟨_,rfl,(M9.qM a0 K.new),(((((((a.nil TM).n b).n c).n e).n i).trans (c9)).n a0)⟩
  .refine Af λK=>?_;have U:MS q s ob nb I L M:=(h.qM ((((a.trans b).trans c).trans e).trans i) K.new);refine qG 11 TM [true,true,false,false] ((U).call m (KG ((U).ns m) y _ (o.ch ((((a.trans b).trans c).trans e).trans i) (by simp)))) ?_;rintro N e2 ⟨a9,rfl,P,C⟩;refine⟨_,a9,rfl,C,P.new,?_⟩;replace C:=C.ret (B:=w.heap.size);refine qR [] 1 [] λd5 b8 e3 a1=>qE (.tuple #[]) λK=>⟨_,rfl,(P.qM a1 K.new),(((((((a.nil TM).n b).n c).n e).n i).trans (C)).n a1)⟩
  .refine Af λK=>?_;have V:MS q s ob nb I L M:=(h.qM ((((a.trans b).trans c).trans e).trans i) K.new);refine qG 11 TM [true,true,false,false] ((V).call m (JK ((V).ns m) (hB.ch (((((a.nil TM).n b).n c).n e).n i) F1) hT y _ (o.ch ((((a.trans b).trans c).trans e).trans i) (by simp)) rfl v (by have:=u.vs.len;omega))) ?_;rintro N e4 ⟨b0,rfl,Q,D⟩;refine⟨_,b0,rfl,D,Q.new,?_⟩;replace D:=D.ret (B:=w.heap.size);refine qR [] 1 [] λd6 b9 e5 a2=>qE (.tuple #[]) λK=>⟨_,rfl,(Q.qM a2 K.new),(((((((a.nil TM).n b).n c).n e).n i).trans (D)).n a2)⟩
  .refine Af λK=>?_;have X:MS q s ob nb I L M:=(h.qM ((((a.trans b).trans c).trans e).trans i) K.new);refine qG 11 TM [true,true,false,false] ((X).call m (PC ((X).ns m) (hB.ch (((((a.nil TM).n b).n c).n e).n i) F1) hT y _ (o.ch ((((a.trans b).trans c).trans e).trans i) (by simp)) hs b5)) ?_;rintro N e6 ⟨b1,rfl,R,E⟩;refine⟨_,b1,rfl,E,R.new,?_⟩;replace E:=E.ret (B:=w.heap.size);refine qR [] 1 [] λd7 c0 e7 a3=>qE (.tuple #[]) λK=>⟨_,rfl,(R.qM a3 K.new),(((((((a.nil TM).n b).n c).n e).n i).trans (E)).n a3)⟩
  .refine Af λK=>?_;have Y:MS q s ob nb I L M:=(h.qM ((((a.trans b).trans c).trans e).trans i) K.new);refine qG 11 TM [true,true,false,false] ((Y).call m (PB ((Y).ns m) y _ (o.ch ((((a.trans b).trans c).trans e).trans i) (by simp)) rfl v (by omega) (by show d.length<_;omega))) ?_;rintro N e8 ⟨b2,rfl,S,F⟩;refine⟨_,b2,rfl,F,S.new,?_⟩;replace F:=F.ret (B:=w.heap.size);refine qR [] 1 [] λd8 c2 e9 a4=>qE (.tuple #[]) λK=>⟨_,rfl,(S.qM a4 K.new),(((((((a.nil TM).n b).n c).n e).n i).trans (F)).n a4)⟩
  .refine Af λK=>?_;have Z:MS q s ob nb I L M:=(h.qM ((((a.trans b).trans c).trans e).trans i) K.new);refine qG 11 TM [true,true,false,false] ((Z).call m (Mw ((Z).ns m) y _ (o.ch ((((a.trans b).trans c).trans e).trans i) (by simp)) rfl v (by show d.length<_;omega) u.qu)) ?_;rintro N f0 ⟨b3,rfl,T,G⟩;refine⟨_,b3,rfl,G,T.new,?_⟩;replace G:=G.ret (B:=w.heap.size);refine qR [] 1 [] λd9 d0 f1 a5=>qE (.tuple #[]) λK=>⟨_,rfl,(T.qM a5 K.new),(((((((a.nil TM).n b).n c).n e).n i).trans (G)).n a5)⟩
 .refine qI ((M.ab dst).up) false (by simpa using h1) (qR [] 1 [] λe0 d1 f2 a6=>qE (.tuple #[]) λK=>?_);rw[show M.lp (Let.mk O src dst A bN j p d)=M from if_neg h1];exact⟨_,rfl,(h.qM (((a.trans b).trans c).trans a6) K.new),((((a.nil TM).n b).n c).n a6)⟩
def nx0(b:Nat):NX:=NX.mk s30 s30 s30 s30 s30 s30 (λ_=>s30) (some b)
theorem QG{i nb b:Nat}(d:w.heap[nb]?=some (.cells (AF i ob Cz (nx0 b)) 123))(e:g.t nb=.n 0 i)(c:g.k nb=0)(a:AskAt g w (.n 5 i) b (λ_=>none)):NodeAt g w i nb ob (nx0 b) Cz :=
 ⟨d,e,c,⟨⟨⟨none,0,rfl,A' _,λ_=>rfl,.inl rfl⟩,by simp[Cz],by simp[Cz]⟩,λh=>absurd rfl h⟩,⟨Sv.nil _,λh=>absurd rfl h⟩,λ_ _=>⟨Sv.nil _,λh=>absurd rfl h⟩,⟨[],OwnS.nil _ _ _ _ _ _,Pends.nil _ _ _⟩,OwnS.nil _ _ _ _ _ _,OwnS.nil _ _ _ _ _ _,OwnS.nil _ _ _ _ _ _,a,λ_=>⟨b,rfl⟩⟩
def nbF(a b c d e:Nat):Nat->Nat
 | 0=>a
 | 1=>b
 | 2=>c
 | 3=>d
 | _=>e
theorem LN(hg:∀ b,w.heap.size<=b->g.t b=.z/\g.k b=0) :
  Calls prog 29 #[] w λe w'=>∃ (mb tb ob:Nat) (nb:Nat->Nat) (g':Gh),e=.returned (pt mb 0)/\MS mb tb ob nb g' w' As/\Cg w.heap.size [.n 70 0] g w g' w':=by
 refine gI (fn:=f29) [.n 70 0] g func29 hg (qR [] 8 [52,0] λa g1 w1 c1=>Af λK=>qG 2 [.n 70 0] [true] (TS K.new) ?_);rintro R w2 ⟨tb,g2,rfl,A2,n2,T⟩;refine⟨_,g2,rfl,T,n2,?_⟩;replace T:=T.ret (B:=w.heap.size);refine qR [] 10 [1,0] λs3 g3 w3 c3=>fB 5 27 [(1,pt (s3 0) 0),(8,iv 0)] [true,true] [⟨(a 0),.cells #[sn,sn] 96,.n 50 0,false⟩,⟨(s3 0),.cells #[.pointer none,.pointer none,.pointer none,.pointer none,.pointer none,pt (a 0) 0,.map (some tb)] 102,.l,false⟩] (by kernel_rfl) (by kernel_rfl) (by kernel_rfl) (by kernel_rfl) λN E z=>qR [] 25 [14,0,2,4,6,8,10,12,1,14,22,24] λs5 g5 w5 c5=>Af λK=>qG 8 [] [true,true] (Bf 0 K.new El s30) ?_;rintro R w6 ⟨L,g6,rfl,A6,n6,Q⟩;refine⟨_,g6,rfl,Q,n6,?_⟩;replace Q:=Q.ret (B:=w.heap.size);refine qR [] 10 [18,21,2,0,26,29,1,0] λA g7 w7 X=>EO (N 5) 27 [(1,pt (s3 0) 0),(8,iv 1)] [true,true,true] [⟨(a 0),.cells #[sn,sn] 96,.n 50 0,false⟩,⟨(s3 0),.cells #[pt (A 0) 0,.pointer none,.pointer none,.pointer none,.pointer none,pt (a 0) 0,.map (some tb)] 102,.l,false⟩,⟨(A 0),.cells (AF 0 (a 0) Cz (nx0 L)) 123,.n 0 0,false⟩] (by kernel_rfl) (by kernel_rfl) (by kernel_rfl) (by kernel_rfl) (by kernel_rfl) λz S K=>E 4 _ _ _ _ _ ?_ K;refine qR [] 25 [14,0,2,4,6,8,10,12,1,14,22,24] λs8 g8 w8 Y=>Af λK=>qG 8 [] [true,true,true] (Bf 1 K.new El s30) ?_;rintro R w9 ⟨P,g9,rfl,A9,n9,M⟩;refine⟨_,g9,rfl,M,n9,?_⟩;replace M:=M.ret (B:=w.heap.size);refine qR [] 10 [18,21,2,1,26,29,1,0] λc a5 c0 H=>EO (N 4) 27 [(1,pt (s3 0) 0),(8,iv 2)] [true,true,true,true] [⟨(a 0),.cells #[sn,sn] 96,.n 50 0,false⟩,⟨(s3 0),.cells #[pt (A 0) 0,pt (c 0) 0,.pointer none,.pointer none,.pointer none,pt (a 0) 0,.map (some tb)] 102,.l,false⟩,⟨(A 0),.cells (AF 0 (a 0) Cz (nx0 L)) 123,.n 0 0,false⟩,⟨(c 0),.cells (AF 1 (a 0) Cz (nx0 P)) 123,.n 0 1,false⟩] (by kernel_rfl) (by kernel_rfl) (by kernel_rfl) (by kernel_rfl) (by kernel_rfl) λz S K=>E 3 _ _ _ _ _ ?_ K;refine qR [] 25 [14,0,2,4,6,8,10,12,1,14,22,24] λb4 a6 c4 I=>Af λK=>qG 8 [] [true,true,true,true] (Bf 2 K.new El s30) ?_;rintro R d0 ⟨G,Z,rfl,U,a2,p⟩;refine⟨_,Z,rfl,p,a2,?_⟩;replace p:=p.ret (B:=w.heap.size);refine qR [] 10 [18,21,2,2,26,29,1,0] λj a7 d1 C=>EO (N 3) 27 [(1,pt (s3 0) 0),(8,iv 3)] [true,true,true,true,true] [⟨(a 0),.cells #[sn,sn] 96,.n 50 0,false⟩,⟨(s3 0),.cells #[pt (A 0) 0,pt (c 0) 0,pt (j 0) 0,.pointer none,.pointer none,pt (a 0) 0,.map (some tb)] 102,.l,false⟩,⟨(A 0),.cells (AF 0 (a 0) Cz (nx0 L)) 123,.n 0 0,false⟩,⟨(c 0),.cells (AF 1 (a 0) Cz (nx0 P)) 123,.n 0 1,false⟩,⟨(j 0),.cells (AF 2 (a 0) Cz (nx0 G)) 123,.n 0 2,false⟩] (by kernel_rfl) (by kernel_rfl) (by kernel_rfl) (by kernel_rfl) (by kernel_rfl) λz S K=>E 2 _ _ _ _ _ ?_ K;refine qR [] 25 [14,0,2,4,6,8,10,12,1,14,22,24] λb5 a8 d2 D=>Af λK=>qG 8 [] [true,true,true,true,true] (Bf 3 K.new El s30) ?_;rintro R d3 ⟨J,a0,rfl,V,a3,o⟩;refine⟨_,a0,rfl,o,a3,?_⟩;replace o:=o.ret (B:=w.heap.size);refine qR [] 10 [18,21,2,3,26,29,1,0] λu a9 d4 x=>EO (N 2) 27 [(1,pt (s3 0) 0),(8,iv 4)] [true,true,true,true,true,true] [⟨(a 0),.cells #[sn,sn] 96,.n 50 0,false⟩,⟨(s3 0),.cells #[pt (A 0) 0,pt (c 0) 0,pt (j 0) 0,pt (u 0) 0,.pointer none,pt (a 0) 0,.map (some tb)] 102,.l,false⟩,⟨(A 0),.cells (AF 0 (a 0) Cz (nx0 L)) 123,.n 0 0,false⟩,⟨(c 0),.cells (AF 1 (a 0) Cz (nx0 P)) 123,.n 0 1,false⟩,⟨(j 0),.cells (AF 2 (a 0) Cz (nx0 G)) 123,.n 0 2,false⟩,⟨(u 0),.cells (AF 3 (a 0) Cz (nx0 J)) 123,.n 0 3,false⟩] (by kernel_rfl) (by kernel_rfl) (by kernel_rfl) (by kernel_rfl) (by kernel_rfl) λz S K=>E 1 _ _ _ _ _ ?_ K;refine qR [] 25 [14,0,2,4,6,8,10,12,1,14,22,24] λb7 b0 d5 y=>Af λK=>qG 8 [] [true,true,true,true,true,true] (Bf 4 K.new El s30) ?_;rintro R d6 ⟨O,a1,rfl,W,a4,d⟩;refine⟨_,a1,rfl,d,a4,?_⟩;replace d:=d.ret (B:=w.heap.size);refine qR [] 10 [18,21,2,4,26,29,1,0] λF b1 d7 q=>EO (N 1) 27 [(1,pt (s3 0) 0),(8,iv 5)] [true,true,true,true,true,true,true] [⟨(a 0),.cells #[sn,sn] 96,.n 50 0,false⟩,⟨(s3 0),.cells #[pt (A 0) 0,pt (c 0) 0,pt (j 0) 0,pt (u 0) 0,pt (F 0) 0,pt (a 0) 0,.map (some tb)] 102,.l,false⟩,⟨(A 0),.cells (AF 0 (a 0) Cz (nx0 L)) 123,.n 0 0,false⟩,⟨(c 0),.cells (AF 1 (a 0) Cz (nx0 P)) 123,.n 0 1,false⟩,⟨(j 0),.cells (AF 2 (a 0) Cz (nx0 G)) 123,.n 0 2,false⟩,⟨(u 0),.cells (AF 3 (a 0) Cz (nx0 J)) 123,.n 0 3,false⟩,⟨(F 0),.cells (AF 4 (a 0) Cz (nx0 O)) 123,.n 0 4,false⟩] (by kernel_rfl) (by kernel_rfl) (by kernel_rfl) (by kernel_rfl) (by kernel_rfl) λz S K=>E 0 _ _ _ _ _ ?_ K;refine qR [] 12 [] λb8 b2 d8 r=>jD 1 (s3 0) (by kernel_rfl) λb3 s=>qE (pt (s3 0) 0) λK=>⟨(s3 0),tb,(a 0),(nbF (A 0) (c 0) (j 0) (u 0) (F 0)),_,rfl,?_,((((((((((((((((((((c1.nil [.n 70 0]).trans T).n c3).n c5).n Q).n X).n Y).n M).n H).n I).n p).n C).n D).n o).n x).n y).n d).n q).n r).n s)⟩;obtain⟨z1,z2⟩:=K.rk 1 (s3 0) (.cells (mtA (nbF (A 0) (c 0) (j 0) (u 0) (F 0)) (a 0) tb) 102) false (by kernel_rfl);obtain⟨o1,o2,o3⟩:=K.rm 0 (a 0) (.cells #[S3.v s30,S3.v s30] 96) 50 0 (by kernel_rfl);obtain⟨q0,r0,t0⟩:=K.rm 2 (A 0) (.cells (AF 0 (a 0) Cz (nx0 L)) 123) 0 0 (by kernel_rfl);obtain⟨q1,r1,t1⟩:=K.rm 3 (c 0) (.cells (AF 1 (a 0) Cz (nx0 P)) 123) 0 1 (by kernel_rfl);obtain⟨q2,r2,t2⟩:=K.rm 4 (j 0) (.cells (AF 2 (a 0) Cz (nx0 G)) 123) 0 2 (by kernel_rfl);obtain⟨q3,r3,t3⟩:=K.rm 5 (u 0) (.cells (AF 3 (a 0) Cz (nx0 J)) 123) 0 3 (by kernel_rfl);obtain⟨q4,r4,t4⟩:=K.rm 6 (F 0) (.cells (AF 4 (a 0) Cz (nx0 O)) 123) 0 4 (by kernel_rfl);refine⟨⟨z1,z2⟩,((((((((((((((((((A2.ch c3).ch c5).ch Q).ch X).ch Y).ch M).ch H).ch I).ch p).ch C).ch D).ch o).ch x).ch y).ch d).ch q).ch r).ch s),λi hi=>?_,⟨s30,s30,o1,o2,o3,⟨[],OwnS.nil _ _ _ _ _ _,⟨rfl,λk b m h=>(by cases h)⟩⟩,OwnS.nil _ _ _ _ _ _⟩,K.new⟩;rcases qk hi with rfl|rfl|rfl|rfl|rfl
 .exact⟨_,QG q0 r0 t0 (((((((((((((((A6.ch X).ch Y).ch M).ch H).ch I).ch p).ch C).ch D).ch o).ch x).ch y).ch d).ch q).ch r).ch s)⟩
 .exact⟨_,QG q1 r1 t1 ((((((((((((A9.ch H).ch I).ch p).ch C).ch D).ch o).ch x).ch y).ch d).ch q).ch r).ch s)⟩
 .exact⟨_,QG q2 r2 t2 (((((((((U.ch C).ch D).ch o).ch x).ch y).ch d).ch q).ch r).ch s)⟩
 .exact⟨_,QG q3 r3 t3 ((((((V.ch x).ch y).ch d).ch q).ch r).ch s)⟩
 .exact⟨_,QG q4 r4 t4 (((W.ch q).ch r).ch s)⟩
end
section
variable{P:Program}{B:Nat}{T:List Tg}{g:Gh}{w:World}
section
variable{x:S3}{xs:List Value}{τ:Tg}
theorem OwnS.sg{e:TypeId}{d:Nat}(h:OwnS g w τ false e d x xs){k:Nat}(f:k<=x.n)(i:0<x.n):OwnS g w τ false e d ⟨x.a,k,x.c⟩ (xs.take (k*d)):=by
 have l:=h.len;have j:k*d<=x.n*d:=oe _ f;refine⟨by rw[j'];show min _ _=k*d;omega,?_⟩;rcases h.ex with⟨h1,h2,h3⟩|⟨b,cur,h1,h2,h3,h4,h5,h6,h7,h8⟩
 .omega
 .refine .inr ⟨b,cur,h1,h2,mg f h3,h4,h5,?_,h7,h8⟩;show cur.toList.take (k*d)=xs.take (k*d);rw[<- h6,oI,nr j]
theorem jw(t A e:TypeId)(i:TypeInfo)(I:P.underlying t=some (.slice e))(E:P.info? e=some i)(s:τ∈T)(z:OwnS g w τ false e i.size x xs)(a:Addr)(m c:Nat)(news:List Value)(G:0<x.c)(r:news.length=m*i.size)(l:∀ j u,news[j]?=some u->w.cell? (a.add j)=some u)(C:∀ u∈news,u.oneCell'=true)(f:x.n+m<=x.c) :
  ∃ w',(Builtin.append_ #[t,t] A #[x.v,.slice (some a) m c]).run P w=.ok (S3.v ⟨x.a,x.n+m,x.c⟩) w'/\OwnS g w' τ false e i.size ⟨x.a,x.n+m,x.c⟩ (xs++news)/\Cg B T g w g w'/\w'.heap.size=w.heap.size:=by
 obtain⟨K,y,J⟩:=x;have h:(xs++news).length=(y+m)*i.size:=by rw[E',z.len,r,px]
 rcases z.ex with⟨h2,h3,h4⟩|⟨b,cur,h2,h3,h4,h5,h6,h7,h8,h9⟩
 .simp only at h4 f G;omega
 .simp only at h2 h4 h5 h6 h7 f;subst h2;have p:y*i.size+news.length<=cur.size:=by rw[r,h6,<- px];exact oe _ f
  have H:=run_append_room (P:=P) w t A e i I E b y J cur h3 a m c news r l C f p;have o:g.k b=0:=by simpa using h9
  refine⟨_,H,⟨h,.inr ⟨b,_,rfl,setRow_heap w b cur _ e _ h3,f,h5,?_,?_,h8,by rw[o];rfl⟩⟩,⟨rfl,rfl,rfl,by simp,λ_ _=>.inl rfl,λ_ _=>A' _,λ_ _ _ _=>rfl,λd D q _=>setRow_other w b d _ (λe=>q (by rw[e,h8];exact s)),λd D j F=>?_⟩,by simp⟩
  .simp only[oh,E',j',mo,nF];omega
  .rw[h7,<- h];exact pV
  .exact World.cell?_of_block (w:=w) (setRow_other w b d _ (λe=>by rw[e,o]at F;omega))
theorem j3(t J e:TypeId)(z:Value)(f:Nat)(H:P.underlying t=some (.slice e))(I:∀ w,(zeroValue e).run P w=.ok z w)(r:z.cells.size=f)(A:0<f)(C:∀ j,j<f->(z.cells[j]!).oneCell'=true)(D:τ∈T)(E:OwnS g w τ false e f x xs){b:Nat}(s:x.a=some ⟨b,0,none⟩)(k c:Nat)(K:0<k)(i:x.n+k<=x.c) :
  ∃ w',(Builtin.clear_ #[t] J #[.slice (some ⟨b,x.n*f,none⟩) k c]).run P w=.ok (.tuple #[]) w'/\OwnS g w' τ false e f x xs/\Cg B T g w g w'/\w'.heap.size=w.heap.size:=by
 rcases E.ex with⟨h2,h3,h4⟩|⟨b',cur,h2,h3,h4,h5,h6,h7,h8,h9⟩
 .rw[h2]at s;cases s
 .rw[s]at h2
  simp only[X',Addr.mk.injEq,and_true]at h2;subst h2;have u:g.k b=0:=by simpa using h9
  have l:(Builtin.zeroCells z.cells k).toList.length=k*f:=by rw[nF,size_zeroCells,r]
  have h:x.n*f+0+(Builtin.zeroCells z.cells k).toList.length<=cur.size:=by rw[l,h6,oA,<- px];exact oe _ i
  have o:∀ v∈(Builtin.zeroCells z.cells k).toList,v.oneCell'=true:=by
   intro v q;simp only[Builtin.zeroCells,Array.toList_map,mB]at q;obtain⟨j,_,rfl⟩:=q;exact C _ (by rw[r];exact Nat.mod_lt _ A)
  have p:=run_storeCells_at (P:=P) b (x.n*f) e (Builtin.zeroCells z.cells k).toList 0 cur w h3 h o;simp only[oA]at p;obtain⟨m,rfl⟩:∃ m,k=m+1:=⟨k-1,by omega⟩;refine⟨_,by simp only[Builtin.clear_,m7,ny,Sem.run_bind,run_underlying H,Result.andThen_ok,I,p];rfl,⟨E.len,.inr ⟨b,_,s,setRow_heap w b cur _ e _ h3,h4,h5,?_,?_,h8,h9⟩⟩,⟨rfl,rfl,rfl,by simp,λ_ _=>.inl rfl,λ_ _=>A' _,λ_ _ _ _=>rfl,λd F y _=>setRow_other w b d _ (λe=>y (by rw[e,h8];exact D)),λd F j G=>?_⟩,by simp⟩
  .rw[l]at h ⊢
   simp only[oh,E',j',mo,nF,l];simp only[oA]at h;omega
  .have hle:x.n*f<=cur.toList.length:=by rw[nF,h6];exact oe _ h4
   show(cur.toList.take (x.n*f)++_++_).take (x.n*f)=xs;rw[mm,mA (by rw[j'];omega),oI,Nat.min_self,h7]
  .exact World.cell?_of_block (w:=w) (setRow_other w b d _ (λe=>by rw[e,u]at G;omega))
end
end
section
variable{fn:Func}{R:Ending->World->Prop}{B:Nat}{T:List Tg}{g:Gh}{w W:World}
section
theorem Kv(b o k:Nat):(⟨b,o,none⟩:Addr).add k=⟨b,o+k,none⟩:=by
 unfold Addr.add;split
 .rename_i h;simp[]
 .rfl
theorem lP(b n c l h m:Nat)(a:l<=h)(d:h<=m)(e:m<=c)(f:l<m):(Instr.sliceAt 49 (.slice (some ⟨b,0,none⟩) n c) (some (iv (l:Int))) (some (iv (h:Int))) (some (iv (m:Int)))).run prog W=.ok (.slice (some ⟨b,l*5,none⟩) (h-l) (m-l)) W:=by
 rw[run_sliceAt_slice _ _ _ _ _ _ unC,run_slice_lhm (P:=prog) (w:=W) _ _ _ _ unC .i64 .i64 .i64 l h m (by omega) (by omega) (by omega) (by omega),sz5];simp[Result.andThen,sliced,Kv];omega
theorem lO(b n c l h:Nat)(a:l<=h)(d:h<=c)(e:l<c):(Instr.sliceAt 49 (.slice (some ⟨b,0,none⟩) n c) (some (iv (l:Int))) (some (iv (h:Int))) none).run prog W=.ok (.slice (some ⟨b,l*5,none⟩) (h-l) (c-l)) W:=by
 rw[run_sliceAt_slice _ _ _ _ _ _ unC,run_slice_lh (P:=prog) (w:=W) _ _ _ _ unC .i64 .i64 l h (by omega) (by omega) (by omega),sz5];simp[Result.andThen,sliced,Kv];omega
theorem lQ(b n c h:Nat)(a:h<=c):(Instr.sliceAt 49 (.slice (some ⟨b,0,none⟩) n c) none (some (iv (h:Int))) none).run prog W=.ok (.slice (some ⟨b,0,none⟩) h c) W:=by
 rw[run_sliceAt_slice _ _ _ _ _ _ unC,run_slice_h (P:=prog) (w:=W) _ _ _ _ unC .i64 h (by omega) (by omega),sz5];simp[Result.andThen,sliced,Kv]
theorem lR(b n c l:Nat)(a:l<=n):(Instr.sliceAt 49 (.slice (some ⟨b,0,none⟩) n c) (some (iv (l:Int))) none none).run prog W=.ok (.slice (some ⟨b,if c=l then 0 else l*5,none⟩) (n-l) (c-l)) W:=by
 rw[run_sliceAt_slice _ _ _ _ _ _ unC,run_slice_l (P:=prog) (w:=W) _ _ _ _ unC .i64 l (by omega) (by omega),sz5];simp[Result.andThen,sliced,Kv];split<;>simp
variable{s:Xs}
theorem j7(p:Nat){τ:Tg}{x:S3}{J:List Value}(I:TypeId)(a:Addr)(m c:Nat)(news:List Value)(W:OwnS g w τ false 24 5 x J)(e:D5 s p=some (Builtin.append_ #[49,49] I #[x.v,.slice (some a) m c]>>=λv=>pure (.value v)))(A:(nxt s p undef s.L).o.map Ob.l'=(nxt s p undef s.L).o.map Ob.r')(r:s.L.all (λy=>[τ].all λt=>y.t.ne t)=true)(S:0<x.c)(Q:news.length=m*5)(K:∀ u∈news,u.oneCell'=true)(f:∀ j u,news[j]?=some u->w.cell? (a.add j)=some u)(h:x.n+m<=x.c)(O:∀ w',OwnS g w' τ false 24 5 ⟨x.a,x.n+m,x.c⟩ (J++news)->(∀ B T,τ∈T->Cg B T g w g w')->w'.heap.size=w.heap.size->GG prog fn R B T (nxt s p (S3.v ⟨x.a,x.n+m,x.c⟩) s.L).s g w'):GG prog fn R B T s g w:=by
 refine L9 p s.L A (Cp e) λG X i o C=>?_;obtain⟨d,N,k⟩:∃ d,prog.info? 24=some d/\d.size=5:=by
  have q:(prog.info? 24).map (·.size)=some 5:=by kernel_rfl
  cases hh:prog.info? 24 with
  | none=>rw[hh]at q;cases q
  | some v=>rw[hh]at q;exact⟨v,rfl,by simpa using q⟩
 obtain⟨w',U,D,M,E⟩:=jw (P:=prog) (B:=w.heap.size) (T:=[τ]) 49 I 24 d underlying49 N (D'.2 rfl) (by rw[k];exact W) a m c news S (by rw[k];exact Q) f K h;rw[k]at D
 have F:∀ B T,τ∈T->Cg B T g w g w':=λB T r=>(M.ret (B:=B)).mono λt V=>by rw[D'.1 V];exact r
 refine⟨S3.v ⟨x.a,x.n+m,x.c⟩,w',g,.inl ?_,G.ch (F _ [τ] (D'.2 rfl)) (λb H=>G.new b (by rw[E]at H;exact H)) r,O w' D F E⟩;rw[DQ e C,Sem.run_bind,U,Result.andThen_ok];rfl
theorem lu(w:World):(zeroValue 24).run prog w=.ok (.agg #[iv 0,iv 0,iv 0,iv 0,iv 0]) w:=by kernel_rfl
theorem lF(f:Nat){τ:Tg}{x:S3}{E:List Value}(D:TypeId){b:Nat}(h:x.a=some ⟨b,0,none⟩)(k c:Nat)(M:OwnS g w τ false 24 5 x E)(d:D5 s f=some (Builtin.clear_ #[49] D #[.slice (some ⟨b,x.n*5,none⟩) k c]>>=λv=>pure (.value v)))(q:(nxt s f undef s.L).o.map Ob.l'=(nxt s f undef s.L).o.map Ob.r')(m:s.L.all (λy=>[τ].all λt=>y.t.ne t)=true)(p:0<k)(e:x.n+k<=x.c)(I:∀ w',OwnS g w' τ false 24 5 x E->(∀ B T,τ∈T->Cg B T g w g w')->w'.heap.size=w.heap.size->GG prog fn R B T (nxt s f (.tuple #[]) s.L).s g w'):GG prog fn R B T s g w:=by
 refine L9 f s.L q (Cp d) λC N i o r=>?_;obtain⟨w',J,F,G,u⟩:=j3 (P:=prog) (B:=w.heap.size) (T:=[τ]) 49 D 24 (.agg #[iv 0,iv 0,iv 0,iv 0,iv 0]) 5 underlying49 lu rfl (by decide) (λj H=>by rcases qk H with rfl|rfl|rfl|rfl|rfl<;>rfl) (D'.2 rfl) M h k c p e;have A:∀ B T,τ∈T->Cg B T g w g w':=λB T m=>(G.ret (B:=B)).mono λt K=>by rw[D'.1 K];exact m
 refine⟨.tuple #[],w',g,.inl ?_,C.ch (A _ [τ] (D'.2 rfl)) (λb h=>C.new b (by rw[u]at h;exact h)) m,I w' F A u⟩;rw[DQ d r,Sem.run_bind,J,Result.andThen_ok];rfl
end
end
theorem sz1{W:World}:(Go.sizeOf (prog.elem 94)).run prog W=.ok 1 W:=by kernel_rfl
theorem unL:prog.underlying 94=some (.slice (prog.elem 94)):=by kernel_rfl
section
variable{fn:Func}{R:Ending->World->Prop}{B:Nat}{T:List Tg}{g:Gh}{w W:World}
section
theorem ku(b n c l h m:Nat)(a:l<=h)(d:h<=m)(e:m<=c)(f:l<m):(Instr.sliceAt 94 (.slice (some ⟨b,0,none⟩) n c) (some (iv (l:Int))) (some (iv (h:Int))) (some (iv (m:Int)))).run prog W=.ok (.slice (some ⟨b,l*1,none⟩) (h-l) (m-l)) W:=by
 rw[run_sliceAt_slice _ _ _ _ _ _ unL,run_slice_lhm (P:=prog) (w:=W) _ _ _ _ unL .i64 .i64 .i64 l h m (by omega) (by omega) (by omega) (by omega),sz1];simp[Result.andThen,sliced,Kv];omega
theorem kt(b n c l h:Nat)(a:l<=h)(d:h<=c)(e:l<c):(Instr.sliceAt 94 (.slice (some ⟨b,0,none⟩) n c) (some (iv (l:Int))) (some (iv (h:Int))) none).run prog W=.ok (.slice (some ⟨b,l*1,none⟩) (h-l) (c-l)) W:=by
 rw[run_sliceAt_slice _ _ _ _ _ _ unL,run_slice_lh (P:=prog) (w:=W) _ _ _ _ unL .i64 .i64 l h (by omega) (by omega) (by omega),sz1];simp[Result.andThen,sliced,Kv];omega
theorem kw(b n c h:Nat)(a:h<=c):(Instr.sliceAt 94 (.slice (some ⟨b,0,none⟩) n c) none (some (iv (h:Int))) none).run prog W=.ok (.slice (some ⟨b,0,none⟩) h c) W:=by
 rw[run_sliceAt_slice _ _ _ _ _ _ unL,run_slice_h (P:=prog) (w:=W) _ _ _ _ unL .i64 h (by omega) (by omega),sz1];simp[Result.andThen,sliced,Kv]
theorem kx(b n c l:Nat)(a:l<=n):(Instr.sliceAt 94 (.slice (some ⟨b,0,none⟩) n c) (some (iv (l:Int))) none none).run prog W=.ok (.slice (some ⟨b,if c=l then 0 else l*1,none⟩) (n-l) (c-l)) W:=by
 rw[run_sliceAt_slice _ _ _ _ _ _ unL,run_slice_l (P:=prog) (w:=W) _ _ _ _ unL .i64 l (by omega) (by omega),sz1];simp[Result.andThen,sliced,Kv];split<;>simp
variable{s:Xs}
theorem gL(p:Nat){τ:Tg}{x:S3}{J:List Value}(I:TypeId)(a:Addr)(m c:Nat)(news:List Value)(W:OwnS g w τ false 167 1 x J)(e:D5 s p=some (Builtin.append_ #[94,94] I #[x.v,.slice (some a) m c]>>=λv=>pure (.value v)))(A:(nxt s p undef s.L).o.map Ob.l'=(nxt s p undef s.L).o.map Ob.r')(r:s.L.all (λy=>[τ].all λt=>y.t.ne t)=true)(S:0<x.c)(Q:news.length=m*1)(K:∀ u∈news,u.oneCell'=true)(f:∀ j u,news[j]?=some u->w.cell? (a.add j)=some u)(h:x.n+m<=x.c)(O:∀ w',OwnS g w' τ false 167 1 ⟨x.a,x.n+m,x.c⟩ (J++news)->(∀ B T,τ∈T->Cg B T g w g w')->w'.heap.size=w.heap.size->GG prog fn R B T (nxt s p (S3.v ⟨x.a,x.n+m,x.c⟩) s.L).s g w'):GG prog fn R B T s g w:=by
 refine L9 p s.L A (Cp e) λG X i o C=>?_;obtain⟨d,N,k⟩:∃ d,prog.info? 167=some d/\d.size=1:=by
  have q:(prog.info? 167).map (·.size)=some 1:=by kernel_rfl
  cases hh:prog.info? 167 with
  | none=>rw[hh]at q;cases q
  | some v=>rw[hh]at q;exact⟨v,rfl,by simpa using q⟩
 obtain⟨w',U,D,M,E⟩:=jw (P:=prog) (B:=w.heap.size) (T:=[τ]) 94 I 167 d underlying94 N (D'.2 rfl) (by rw[k];exact W) a m c news S (by rw[k];exact Q) f K h;rw[k]at D
 have F:∀ B T,τ∈T->Cg B T g w g w':=λB T r=>(M.ret (B:=B)).mono λt V=>by rw[D'.1 V];exact r
 refine⟨S3.v ⟨x.a,x.n+m,x.c⟩,w',g,.inl ?_,G.ch (F _ [τ] (D'.2 rfl)) (λb H=>G.new b (by rw[E]at H;exact H)) r,O w' D F E⟩;rw[DQ e C,Sem.run_bind,U,Result.andThen_ok];rfl
theorem jk(w:World):(zeroValue 167).run prog w=.ok (.pointer none) w:=by kernel_rfl
theorem j8(f:Nat){τ:Tg}{x:S3}{F:List Value}(E:TypeId){b:Nat}(m:x.a=some ⟨b,0,none⟩)(k c:Nat)(N:OwnS g w τ false 167 1 x F)(d:D5 s f=some (Builtin.clear_ #[94] E #[.slice (some ⟨b,x.n*1,none⟩) k c]>>=λv=>pure (.value v)))(r:(nxt s f undef s.L).o.map Ob.l'=(nxt s f undef s.L).o.map Ob.r')(p:s.L.all (λy=>[τ].all λt=>y.t.ne t)=true)(q:0<k)(e:x.n+k<=x.c)(J:∀ w',OwnS g w' τ false 167 1 x F->(∀ B T,τ∈T->Cg B T g w g w')->w'.heap.size=w.heap.size->GG prog fn R B T (nxt s f (.tuple #[]) s.L).s g w'):GG prog fn R B T s g w:=by
 refine L9 f s.L r (Cp d) λD O i o u=>?_;obtain⟨w',K,G,H,A⟩:=j3 (P:=prog) (B:=w.heap.size) (T:=[τ]) 94 E 167 (.pointer none) 1 underlying94 jk rfl (by decide) (λj I=>match j,I with|0,_=>rfl|j+1,h=>absurd h (by omega)) (D'.2 rfl) N m k c q e;have C:∀ B T,τ∈T->Cg B T g w g w':=λB T p=>(H.ret (B:=B)).mono λt M=>by rw[D'.1 M];exact p
 refine⟨.tuple #[],w',g,.inl ?_,D.ch (C _ [τ] (D'.2 rfl)) (λb m=>D.new b (by rw[A]at m;exact m)) p,J w' G C A⟩;rw[DQ d u,Sem.run_bind,K,Result.andThen_ok];rfl
end
end
theorem Qh{g:Gh}{w:World}{b n c:Nat}{l:List Nat}(o:OwnS g w (.n 51 0) false 167 1 ⟨some ⟨b,0,none⟩,n,c⟩ (l.map (pt · 0)))(L:∀ b,w.heap.size<=b->g.t b=.z/\g.k b=0)(j:Nat)(Z:j<l.length)(X:l.length<100000000) :
  Calls prog 92 #[.slice (some ⟨b,0,none⟩) n c,iv (j:Int),iv ((j+1:Nat):Int)] w λe w'=>∃ (x':S3) (g':Gh),e=.returned x'.v/\OwnS g' w' (.n 51 0) false 167 1 x' ((l.eraseIdx j).map (pt · 0))/\(∀ b,w'.heap.size<=b->g'.t b=.z/\g'.k b=0)/\Cg w.heap.size [.n 51 0] g w g' w':=by
 have hn:n=l.length:=by have:=o.len;simp at this;omega
 have Y:n<=c:=by rcases o.ex with⟨h,_⟩|⟨_,_,_,_,h,_⟩;cases h;exact h
 refine gI (fn:=f92) [.n 51 0] g func92 L (qR [] 11 [] λs1 S w1 y=>qV 5 (.slice (some ⟨b,j*1,none⟩) (j+1-j) (n-j)) (ku b n c j (j+1) n (by omega) (by omega) (by omega) (by omega)) (qR [] 8 [] λs2 T w2 A=>qI (((j:Int)==((j+1:Nat):Int))) false (by simp;omega) (qR [] 11 [8,0,2] λs3 U w3 B=>qT 2 (.slice (some ⟨b,0,none⟩) j c) (λ_=>(kw b n c j (by omega))) (qR [] 2 [6,8] λs4 V w4 C=>qT 5 (.slice (some ⟨b,if c=j+1 then 0 else(j+1)*1,none⟩) (n-(j+1)) (c-(j+1))) (λ_=>(kx b n c (j+1) (by omega))) ?_))));have d:=o.ch (((y.trans A).trans B).trans C) (by simp) (by simp);have p:=d.sg (k:=j) (by show j<=n;omega) (by show 0<n;omega);refine gL 6 (x:=⟨some ⟨b,0,none⟩,j,c⟩) 94 ⟨b,if c=j+1 then 0 else(j+1)*1,none⟩ (n-(j+1)) (c-(j+1)) ((l.drop (j+1)).map (pt · 0)) p (by kernel_rfl) (by kernel_rfl) (by kernel_rfl) (by show 0<c;omega) (by simp;omega) (by intro u M;obtain⟨q,_,rfl⟩:=mB.1 M;rfl) (λq u r=>?_) (by show j+(n-(j+1))<=c;omega) ?_
 .have hlt:j+1<l.length:=by have h:=(V'.1 r).1;simp at h;omega
  rw[if_neg (by omega),Kv];rw[List.map_drop,ng]at r
  obtain⟨R,E,_,J⟩:=d.cell r;simp only[X',Addr.mk.injEq,and_true]at E;subst E;rw[show(j+1)*1+q=j+1+q by omega];exact J
 intro w6 s i N;have G:=i w.heap.size [.n 51 0] (D'.2 rfl);rw[show(l.map (pt · 0)).take (j*1)++(l.drop (j+1)).map (pt · 0)=(l.eraseIdx j).map (pt · 0)from by rw[Nat.mul_one,<- pK,<- mK,pz]]at s
 refine qR [] 8 [14] λs7 W w7 D=>qV 4 (.slice (some ⟨b,(j+(n-(j+1)))*1,none⟩) (n-(j+(n-(j+1)))) (c-(j+(n-(j+1))))) (kt b (j+(n-(j+1))) c (j+(n-(j+1))) n (by omega) (by omega) (by omega)) (j8 5 (x:=⟨some ⟨b,0,none⟩,(j+(n-(j+1))),c⟩) (b:=b) 0 rfl (n-(j+(n-(j+1)))) (c-(j+(n-(j+1)))) (s.ch D) (by kernel_rfl) (by kernel_rfl) (by kernel_rfl) (by omega) (by show(j+(n-(j+1)))+(n-(j+(n-(j+1))))<=c;omega) ?_);intro w9 F m O;have H:=m w.heap.size [.n 51 0] (D'.2 rfl);refine qR [] 6 [] λP I Q a=>qE (S3.v ⟨some ⟨b,0,none⟩,(j+(n-(j+1))),c⟩) λK=>⟨_,_,rfl,(F.ch a),K.new,((((((((y.nil [.n 51 0]).n A).n B).n C).trans G).n D).trans H).n a)⟩
end
section
section
variable{M:Meet}{k m n:Nat}{p:Nod}
theorem NOk.mono(h:NOk n p)(a:n<=m):NOk m p:={ h with wa:=mg h.wa a }
theorem NOk.zero(n:Nat):NOk n Cz:=⟨mL _,A' _,mL _,mL _,λc h=>(by cases h),⟨mf _,by decide⟩,Ao.b0,BP.nil,λ_=>BP.nil,λq h=>(by cases h)⟩
theorem NOk.bare(n:Nat)(p:Nod)(up:Bool)(d:List Int)(g:Int){a:Acc}(b:Ao a.p)(e:BP a.vs)(l:List Pend)(f:∀ q∈l,POk 0 q):NOk n (p.bare up d g a l):=⟨mL _,A' _,mL _,mL _,λc h=>(by cases h),⟨mf _,by show(0:Int)<=65536;decide⟩,b,e,λ_=>BP.nil,f⟩
theorem NOk.ib(h:NOk n p)(k:Int):NOk n (p.ib k)/\Ay (p.ib k).br<=Ay p.br/\(p.ib k).au.length<=p.au.length/\(p.ib k).bad=p.bad:=by
 unfold Nod.ib;split
 .exact⟨h,A' _,A' _,rfl⟩
 .exact⟨NOk.bare n p _ _ _ Ao.b0 BP.nil [] (λq a=>(by cases a)),mL _,mL _,rfl⟩
theorem NOk.start(h:NOk n p):NOk n p.start/\Ay p.start.br<=Ay p.br+4/\p.start.au.length<=p.au.length/\p.start.bad=p.bad:=by
 have b:=dZ p.d p.sy;have a:∀ q∈[Pend.start],POk 0 q:=λq a=>by rw[D'.1 a];trivial
 unfold Nod.start;split
 .exact⟨h,qi _ _,A' _,rfl⟩
 .split
  .exact⟨NOk.bare n p _ _ _ b.1 b.2 _ a,by show 4<=_;omega,mL _,rfl⟩
  .exact⟨NOk.bare n p _ _ _ b.1 b.2 _ a,by show 4<=_;omega,mL _,rfl⟩
theorem FQ(p:Nod)(b:Bal):(p.an b).1.au=p.au/\(p.an b).1.bad=p.bad/\(p.an b).1.bw=p.bw/\(p.an b).1.done=p.done/\(p.an b).1.cF=p.cF:=by
 unfold Nod.an;split
 .exact⟨rfl,rfl,rfl,rfl,rfl⟩
 .split
  .exact⟨rfl,rfl,rfl,rfl,rfl⟩
  .split<;>exact⟨rfl,rfl,rfl,rfl,rfl⟩
theorem NOk.lead(h:NOk n p)(i:Nat):NOk n (p.lead i)/\Ay (p.lead i).br<=Ay p.br+4/\(p.lead i).au=p.au/\(p.lead i).bad=p.bad:=by
 unfold Nod.lead;simp only;split
 .exact⟨h,qi _ _,rfl,rfl⟩
 .have hp:=h.an ⟨max p.cF p.vo.p.r+1,(i:Int)⟩;have a:=FQ p ⟨max p.cF p.vo.p.r+1,(i:Int)⟩;have b:NOk n { (p.an ⟨max p.cF p.vo.p.r+1,(i:Int)⟩).1 with av:=⟨⟨max p.cF p.vo.p.r+1,(i:Int)⟩,λ_=>false,λ_=>El,λ_=>p.ae.length,0,[]⟩ }:={ hp.1 with qu:=mL _,he:=λ_=>BP.nil };refine⟨b.wait hp.2.2.2.1,?_,a.1,a.2.1⟩;show Ay ((p.an _).1.br++[_])<=_;rw[FO,hp.2.1];exact A' _
theorem NOk.want(h:NOk n p)(c:Cmd):NOk (n+1) (p.want c)/\(p.want c).au.length<=p.au.length+1/\(p.want c).br=p.br/\(p.want c).bad=p.bad:=by
 unfold Nod.want;split
 .exact⟨h.mono (nh _),nh _,rfl,rfl⟩
 .refine⟨{ h with wa:=?_,ask:=λd a=>?_ },by simp,rfl,rfl⟩
  .have:=h.wa;simp;omega
  .unfold BW at a;simp only at a ⊢;split at a
   .rename_i e;exact Q'.2 (.inr (D'.2 e))
   .exact Q'.2 (.inl (h.ask d a))
theorem NOk.qK(h:NOk n p)(i:Nat)(e:Int)(c:Cmd)(a:List Tol):NOk (n+1) (p.qY i e c a).1/\(p.qY i e c a).1.br=p.br/\(p.qY i e c a).2.length+(p.qY i e c a).1.au.length<=a.length+p.au.length+1/\(p.qY i e c a).1.bad<=p.bad+1:=by
 have b:=h.mono (nh n);unfold Nod.qY;split
 .exact⟨b,rfl,nh _,nh _⟩
 .split
  .exact⟨{ b with },rfl,nh _,A' _⟩
  .split
   .exact⟨b,rfl,by simp;omega,nh _⟩
   .have:=h.want c;exact⟨this.1,this.2.2.1,by have:=this.2.1;simp only;omega,by rw[this.2.2.2];exact nh _⟩
theorem OE(p:Nod)(v:Vt):(p.bN v).1.au=p.au/\(p.bN v).1.bad=p.bad:=by
 unfold Nod.bN;split
 .exact⟨rfl,rfl⟩
 .split
  .exact⟨rfl,rfl⟩
  .split<;>exact⟨rfl,rfl⟩
theorem Kk(p:Nod)(to:Nat)(e:Int):(p.ew to e).au=p.au/\(p.ew to e).bad=p.bad:=by unfold Nod.ew;split<;>exact⟨rfl,rfl⟩
theorem F8(p:Nod)(j:Nat)(v:Vt):(p.count j v).au=p.au/\(p.count j v).bad=p.bad/\(p.count j v).br=p.br:=by
 unfold Nod.count;split
 .exact⟨rfl,rfl,rfl⟩
 .split<;>exact⟨rfl,rfl,rfl⟩
theorem FD(p:Nod)(l:List Cmd):(p.dT l).au=p.au/\(p.dT l).bad=p.bad:=by unfold Nod.dT;split<;>exact⟨rfl,rfl⟩
theorem WU(p:Nod)(l:Let):(p.take l).au=p.au/\(p.take l).bad=p.bad:=by
 unfold Nod.take;split
 .split
  .exact Kk _ _ _
  .exact⟨(FQ p l.fv).1,(FQ p l.fv).2.1⟩
 .simp only;split<;>exact⟨rfl,rfl⟩
 .exact⟨rfl,rfl⟩
 .split
  .exact Kk _ _ _
  .exact OE p l.bN
 .exact⟨(F8 p _ _).1,(F8 p _ _).2.1⟩
 .split<;>exact⟨rfl,rfl⟩
 .simp only;split
  .exact FD p l.fm
  .exact FD p l.fm
 .exact⟨rfl,rfl⟩
theorem WB(p:Nod)(i:Nat)(q:Pend):(p.hZ i q).au=p.au/\(p.hZ i q).bad=p.bad:=by
 cases q with
 | began b vs=>unfold Nod.hZ;simp only;split<;>exact⟨rfl,rfl⟩
 | prop v=>exact⟨(F8 p i v).1,(F8 p i v).2.1⟩
 | _=>exact⟨rfl,rfl⟩
theorem Sm(i:Nat)(l:List Pend)(p:Nod)(a:List Let):(lr i l p a).1.au=p.au/\(lr i l p a).1.bad=p.bad:=by
 induction l generalizing p a with
 | nil=>exact⟨rfl,rfl⟩
 | cons q l ih =>
  have b:=ih (p.hZ i q) (a++p.pd i q);have c:=WB p i q;exact⟨b.1.trans c.1,b.2.trans c.2⟩
theorem cz(i:Nat)(l:List Cmd)(p:Nod)(a:List Tol):(qL i l p a).1.bad=p.bad:=by
 induction l generalizing p a with
 | nil=>rfl
 | cons c l ih =>
  rw[qL];split
  .rfl
  .rw[ih];unfold Nod.fu;split<;>rfl
theorem Tt(p:Nod)(i:Nat)(a:List Let)(b:List Tol):(p.piece i a b).1.au=(qL i (p.ae.drop p.done) p b).1.au/\(p.piece i a b).1.bad=p.bad:=by
 have c:∀ q:Nod,(q.hU i).1.au=q.au/\(q.hU i).1.bad=q.bad:=by
  intro q;unfold Nod.hU;split
  .exact⟨rfl,rfl⟩
  .split
   .exact FD _ _
   .exact⟨rfl,rfl⟩
 have d:∀ q:Nod,q.cl.au=q.au/\q.cl.bad=q.bad:=by
  intro q;unfold Nod.cl;split
  .exact⟨rfl,rfl⟩
  .split
   .exact⟨rfl,rfl⟩
   .split
    .exact⟨rfl,rfl⟩
    .exact OE q _
 have e:∀ (q:Nod) (a:List Let),(q.ln i a).1.au=q.au/\(q.ln i a).1.bad=q.bad:=by
  intro q a;unfold Nod.ln;split
  .exact⟨rfl,rfl⟩
  .have:=Sm i q.br { q.qJ with br:=[] } a;have g:q.qJ.au=q.au/\q.qJ.bad=q.bad:=by unfold Nod.qJ;split<;>exact⟨rfl,rfl⟩
   exact⟨this.1.trans g.1,this.2.trans g.2⟩
 have f:∀ (q:Nod) (a:List Let),(q.bu i a).1.au=q.au/\(q.bu i a).1.bad=q.bad:=by
  intro q a;unfold Nod.bu;split<;>exact⟨rfl,rfl⟩
 have h:=cz i (p.ae.drop p.done) p b;unfold Nod.piece;simp only;rw[(f _ _).1,(e _ _).1,(d _).1,(c _).1,(f _ _).2,(e _ _).2,(d _).2,(c _).2];exact⟨rfl,h⟩
def pw(M:Meet):Nat:=Ay (M.ab 0).br+Ay (M.ab 1).br+Ay (M.ab 2).br+Ay (M.ab 3).br+Ay (M.ab 4).br
def ww(M:Meet):Nat:=(M.ab 0).au.length+(M.ab 1).au.length+(M.ab 2).au.length+(M.ab 3).au.length+(M.ab 4).au.length
theorem ZA(M:Meet){i:Nat}(a:i<5)(p:Nod)(b:List Let)(c:List Tol):pw (M.set i p b c)+Ay (M.ab i).br=pw M+Ay p.br:=by
 unfold pw Meet.set;rcases qk a with rfl|rfl|rfl|rfl|rfl<;>simp[upN]<;>omega
theorem bD(M:Meet){i:Nat}(a:i<5)(p:Nod)(b:List Let)(c:List Tol):ww (M.set i p b c)+(M.ab i).au.length=ww M+p.au.length:=by
 unfold ww Meet.set;rcases qk a with rfl|rfl|rfl|rfl|rfl<;>simp[upN]<;>omega
theorem QY(M:Meet){i:Nat}(a:i<5):Ay (M.ab i).br<=pw M:=by
 unfold pw;rcases qk a with rfl|rfl|rfl|rfl|rfl<;>omega
theorem kW(M:Meet){i:Nat}(a:i<5):(M.ab i).au.length<=ww M:=by
 unfold ww;rcases qk a with rfl|rfl|rfl|rfl|rfl<;>omega
structure MOk(n:Nat)(M:Meet):Prop where
 ab:∀ i,i<5->NOk n (M.ab i)
 bm:∀ l∈M.bm,LOk l
 wt:M.bm.length+pw M<=10*n
 eb:M.eb.length+ww M<=n
 bad:∀ i,i<5->(M.ab i).bad<=n
theorem MOk.zero:MOk 0 As:=⟨λ_ _=>NOk.zero 0,λl h=>(by cases h),A' _,A' _,λ_ _=>A' _⟩
theorem MOk.mono(h:MOk n M)(b:n<=m):MOk m M:=⟨λi a=>(h.ab i a).mono b,h.bm,by have:=h.wt;omega,by have:=h.eb;omega,λi a=>mg (h.bad i a) b⟩
theorem MOk.set(h:MOk n M){i:Nat}(a:i<5){p:Nod}{ls:List Let}{ts:List Tol}(c:NOk (n+1) p)(d:∀ l∈ls,LOk l)(g:ls.length+Ay p.br<=M.bm.length+Ay (M.ab i).br+10)(k:ts.length+p.au.length<=M.eb.length+(M.ab i).au.length+1)(m:p.bad<=(M.ab i).bad+1):MOk (n+1) (M.set i p ls ts):=by
 have e:=ZA M a p ls ts;have f:=bD M a p ls ts;have:=h.wt;have:=h.eb;refine⟨λj b=>?_,d,by show ls.length+_<=_;omega,by show ts.length+_<=_;omega,λj b=>?_⟩
 .show NOk (n+1) (upN M.ab i p j);unfold upN;split
  .exact c
  .exact(h.ab j b).mono (nh _)
 .show(upN M.ab i p j).bad<=n+1;unfold upN;split
  .have:=h.bad i a;omega
  .have:=h.bad j b;omega
structure COk(n k:Nat)(M:Meet):Prop where
 ab:∀ i,i<5->NOk n (M.ab i)
 wt:k+M.bm.length+pw M<=10*n
 eb:M.eb.length+ww M<=n
 bad:∀ i,i<5->(M.ab i).bad<=n
 bm:∀ l∈M.bm,LOk l
theorem COk.lp(h:COk n (k+1) M){l:Let}(a:LOk l):COk n k (M.lp l)/\(M.lp l).bm=M.bm:=by
 have i:=h.wt;unfold Meet.lp;split
 .have ht:=(h.ab l.dst a.dst).take a;have c:=WU (M.ab l.dst) l;have e:=ZA M a.dst ((M.ab l.dst).take l) M.bm M.eb;have d:=bD M a.dst ((M.ab l.dst).take l) M.bm M.eb;have f:pw (M.put l.dst ((M.ab l.dst).take l))=pw (M.set l.dst ((M.ab l.dst).take l) M.bm M.eb):=rfl;have g:ww (M.put l.dst ((M.ab l.dst).take l))=ww (M.set l.dst ((M.ab l.dst).take l) M.bm M.eb):=rfl;have:=h.eb;rw[c.1]at d
  refine⟨⟨λj b=>?_,by show k+M.bm.length+_<=_;have:=ht.2.1;omega,by show M.eb.length+_<=_;omega,λj b=>?_,h.bm⟩,rfl⟩
  .show NOk n (upN M.ab l.dst _ j);unfold upN;split
   .exact ht.1
   .exact h.ab j b
  .show(upN M.ab l.dst _ j).bad<=n;unfold upN;split
   .rw[c.2];exact h.bad _ a.dst
   .exact h.bad j b
 .exact⟨⟨h.ab,by omega,h.eb,h.bad,h.bm⟩,rfl⟩
theorem COk.all(a:List Let){M:Meet}(h:COk n a.length M)(b:∀ l∈a,LOk l):COk n 0 (a.foldl (λM l=>M.lp l) M):=by
 induction a generalizing M with
 | nil=>exact h
 | cons l a ih=>exact ih ((h.lp (b l M')).1) λm c=>b m (I' _ c)
theorem COk.ok(h:COk n k M):MOk n M:=⟨h.ab,h.bm,by have:=h.wt;omega,h.eb,h.bad⟩
theorem MOk.qH(h:MOk n M):MOk n M.qH :=
 (COk.all M.bm (M:={ M with bm:=[] }) ⟨h.ab,by show M.bm.length+0+pw M<=_;exact h.wt,h.eb,h.bad,λl a=>(by cases a)⟩ h.bm).ok
theorem MOk.move(h:MOk n M)(k:Int)(a:Nat):MOk (n+1) (M.move k a):=by
 have i:=h.wt;have b:=h.mono (nh n);unfold Meet.move;split
 .exact b
 .rename_i l hl
  have c:LOk l:=h.bm l (mD hl);have f:∀ m∈M.bm.eraseIdx (a%M.bm.length),LOk m:=λm g=>h.bm m (oZ g);have e:(M.bm.eraseIdx (a%M.bm.length)).length<=M.bm.length:=List.length_eraseIdx_le _ _;have d:COk (n+1) 1 (if k≠6 then{ M with bm:=M.bm.eraseIdx (a%M.bm.length) }else M):=by
   split
   .exact⟨b.ab,by show 1+(M.bm.eraseIdx _).length+pw M<=_;omega,b.eb,b.bad,f⟩
   .exact⟨b.ab,by omega,b.eb,b.bad,h.bm⟩
  simp only;split
  .exact(d.lp c).1.ok
  .exact d.ok
theorem MOk.act(h:MOk n M)(i:n<=1000000){x:Lac}(g:LacOk x):MOk (n+1) (M.act x):=by
 have a:x.n.toNat<5:=by
  cases hu:Gf x.k with
  | true=>have:=g.n hu;omega
  | false=>have:=g.n0 hu;omega
 have e:=h.ab _ a;have c:=e.mono (nh n);unfold Meet.act;simp only;split
 .have hs:=e.qK x.n.toNat (opE x.d ((M.ab x.n.toNat).done:Int)) (E9 x.d ((M.ab x.n.toNat).done:Int)) M.eb;exact h.set a hs.1 h.bm (by unfold Nod.qK;rw[hs.2.1];omega) (by unfold Nod.qK;omega) (by unfold Nod.qK;omega)
 .split
  .split
   .have hl:=c.lead x.n.toNat;exact h.set a hl.1 h.bm (by omega) (by rw[hl.2.2.1];omega) (by rw[hl.2.2.2];omega)
   .exact h.set a c h.bm (by omega) (by omega) (by omega)
  .split
   .by_cases hu:(M.ab x.n.toNat).up=true
    .rw[if_pos hu,if_pos hu,if_pos hu];have b:=c.piece a (ls:=M.bm) (ts:=M.eb) (by have:=QY M a;have:=h.wt;omega) h.bm;have f:=Tt (M.ab x.n.toNat) x.n.toNat M.bm M.eb;exact h.set a b.1 b.2.1 b.2.2.1 (by rw[f.1];have:=b.2.2.2;omega) (by rw[f.2];omega)
    .rw[if_neg hu,if_neg hu,if_neg hu];exact h.set a c h.bm (by omega) (by omega) (by omega)
   .split
    .exact h.move _ _
    .split
     .exact h.qH.mono (nh _)
     .split
      .split
       .have hc:=c.ib x.p;exact h.set a hc.1 h.bm (by omega) (by omega) (by rw[hc.2.2.2];omega)
       .exact h.set a c h.bm (by omega) (by omega) (by omega)
      .split
       .split
        .exact h.set a c h.bm (by omega) (by omega) (by omega)
        .have hc:=c.start;exact h.set a hc.1 h.bm (by omega) (by omega) (by rw[hc.2.2.2];omega)
       .exact h.mono (nh _)
end
end
section
open Go.RowKit
section
variable{M:Meet}{W w:World}{b j mb n ob tb:Nat}{g:Gh}{l:List Let}{nb:Nat->Nat}{x:S3}
theorem kr{P:Program}{x y:Operand}(a b:Nat)(h:P.underlying 3=some (.int .i64))(f:a<9223372036854775808)(g:0<b)(e:b<9223372036854775808):(do Go.eqGuard .rem 3 x y (iv (a:Int)) (iv (b:Int));Go.binOp .rem 3 (iv (a:Int)) (iv (b:Int)):Sem Value).run P W=.ok (iv ((a%b:Nat):Int)) W:=by
 have d:Int.tmod (a:Int) (b:Int)=((a%b:Nat):Int):=rfl;have c:¬ b=0:=by omega
 simp only[Go.eqGuard,go_sem,Op.intDiv];simp[c,d]
theorem fL{c:Nat}(j:Nat)(a:j<n):(Instr.indexAt 94 (.slice (some ⟨b,0,none⟩) n c) (iv (j:Int))).run prog W=.ok (pt b j) W :=
 Nn (P:=prog) (e:=167) (z:=1) underlying94 (by kernel_rfl) (by kernel_rfl) a _ (by omega)
theorem iC(d:x.a=some ⟨b,0,none⟩)(j:Nat)(c:j<x.n):(Instr.indexAt 94 x.v (iv (j:Int))).run prog W=.ok (pt b j) W:=by
 unfold S3.v;rw[d];exact fL j c
theorem FzL.cell{e:List Value}(h:FzL g w x e){b j:Nat}(i:x.a=some ⟨b,0,none⟩){u:Value}(k:e[j]?=some u):w.cell? ⟨b,j,none⟩=some u:=by
 obtain⟨c,d,_,_,f⟩:=h.at_ j u k;rw[i]at d
 simp only[X',Addr.mk.injEq,and_true]at d;subst d;exact f
theorem MS.outs{a:Gh}{b:World}{B:Nat}(h:MS mb tb ob nb g w M)(c:Cg B [.n 50 0,.n 51 0] g w a b){lt e:S3}{d:List Let}(k:OutAt a b ob lt e d M.eb)(j:Ji a b):MS mb tb ob nb a b { M with bm:=d } :=
 ⟨h.box.ch c,h.tk.ch c,λi f=>let ⟨x,hx⟩:=h.ab i f;⟨x,hx.ch c (by simp) (λr l=>by simp;omega)⟩,⟨lt,e,k⟩,j⟩
theorem Lets.erase{d:List Nat}(h:Lets g w d l)(j:Nat):Lets g w (d.eraseIdx j) (l.eraseIdx j):=by
 refine⟨by rw[List.length_eraseIdx,List.length_eraseIdx,h.len],λk b m c a=>?_⟩;rw[List.getElem?_eraseIdx]at c a
 split at c
 .rename_i hk;rw[if_pos hk]at a;exact h.at_ _ _ _ c a
 .rename_i hk;rw[if_neg hk]at a;exact h.at_ _ _ _ c a
theorem Yc{c:Let}(h:l[j]?=some c):l.drop j=c::l.drop (j+1):=by
 obtain⟨a,b⟩:=V'.1 h;rw[<- b];exact m9 a
theorem YY(k:Int)(a:Nat)(h:M.bm.length=0):M.move k a=M:=by
 unfold Meet.move;rw[Y' h];rfl
theorem du{k:Int}{a:Nat}{l:Let}(h:M.bm[a%M.bm.length]?=some l):M.move k a=(if k≠5 then(if k≠6 then{ M with bm:=M.bm.eraseIdx (a%M.bm.length) }else M).lp l else if k≠6 then{ M with bm:=M.bm.eraseIdx (a%M.bm.length) }else M):=by
 unfold Meet.move;rw[h]
theorem LM(h:MS mb tb ob nb g w M){w0:World}(hB:Base w0 g w)(hT:Tabs w0)(k:Int)(a:Nat)(ha:a<=1048576){n:Nat}(hm:MOk n M)(hn:n<=1000000) :
  Calls prog 51 #[pt mb 0,iv k,iv (a:Int)] w (MP mb tb ob nb g w (.tuple #[]) (M.move k a)):=by
 obtain⟨lt,tl,hO⟩:=h.out;obtain⟨bs,hL,q⟩:=hO.bm;have Y:lt.n=M.bm.length:=by have:=hL.len;have:=q.len;simp at *;omega
 have b7:=hm.wt;refine gI (fn:=f51) TM g func51 h.new (Cr ⟨mb,_,.z,false⟩ (λ_=>⟨h.box.r,h.box.z,λh=>(by cases h),λh=>absurd rfl h⟩) (by kernel_rfl) ?_);refine qO hO (qR [] 18 [0,1] λs1 g1 w1 d=>?_);by_cases h1:lt.n=0
 .refine qI (((lt.n:Int)==0)) true (by simp;omega) (qE (.tuple #[]) λK=>?_);rw[YY k a (by omega)];exact⟨_,rfl,(h.qM d K.new),(d.nil TM)⟩
 .refine qI (((lt.n:Int)==0)) false (by simp;omega) ?_;obtain⟨j,hj⟩:∃ j,j=a%M.bm.length:=⟨_,rfl⟩;have I:j<M.bm.length:=by rw[hj];exact Nat.mod_lt _ (by omega)
  obtain⟨l,hl⟩:∃ l,M.bm[j]?=some l:=⟨_,H' I⟩;obtain⟨J,X⟩:∃ J,bs[j]?=some J:=⟨_,H' (by rw[q.len];exact I)⟩;have s:=hm.bm l (mD hl);have V:=q.at_ j J l X hl;obtain⟨b,hb,a7,a6⟩:=hL.cell (j:=j) (u:=pt J 0) (by rw[mX,X];rfl);rw[du (hj▸hl)];rw[<- hj];obtain⟨la,lq,lc⟩:=lt;simp only at hb Y;subst hb;refine qR [] 5 [] λs3 g3 w3 m=>?_;have a8 {x y:Operand}:∀ {W:World},(do Go.eqGuard .rem 3 x y (iv (a:Int)) (iv (lq:Int));Go.binOp .rem 3 (iv (a:Int)) (iv (lq:Int)):Sem Value).run prog W=.ok (iv (j:Int)) W:=λ{W}=>by rw[hj,<- Y];exact kr a lq underlying3 (by omega) (by omega) (by omega)
  refine qV 2 (iv (j:Int)) (a8 (x:=(.tmp 19)) (y:=(.tmp 20))) (qR [] 12 [0,1] λs4 g4 w4 o=>qV 8 (pt b j) (fL (b:=b) (n:=lq) (c:=lc) j (by omega)) (qV 9 (pt J 0) (BT underlying167 rfl ((Below.cell (Cg.af ((d.trans m).trans o) (λ_ _=>O')) (p:=⟨b,j,none⟩) a7).trans a6)) (qR [] 8 [] λs6 g6 w6 t=>?_)));by_cases h2:k≠6
  .refine qI ((k != 6)) true (by simpa using h2) ?_;have H:k≠6:=by simpa using h2
   rw[if_pos H];refine qR [] 14 [17,0,2,4,6,0,8,10,12,14,0,16,18,20,1,22,24] λs7 g7 w7 L=>qT 13 (iv ((j+1:Nat):Int)) (λ_=>(Bj 46 (j:Int) underlying3 (by omega))) (Af λK=>qG 14 [.n 51 0] [true,true] (Qh (hL.ch ((((d.trans m).trans o).trans t).trans L) (by simp) (by simp)) K.new j (by rw[q.len];exact I) (by rw[q.len];omega)) ?_);rintro e' w9 ⟨y9,g9,rfl,a9,n9,G⟩;refine⟨_,g9,rfl,G,n9,?_⟩;replace G:=G.ret (B:=w.heap.size);refine qR [.n 50 0] 9 [30,32,35,1,1] λb8 U Z e=>Af λK=>?_;have C9:Cg w.heap.size [.n 50 0,.n 51 0] g w U Z:=(((((((d.nil [.n 50 0,.n 51 0]).n m).n o).n t).n L).trans (G.mono (by simp))).trans (e.mono (by simp)));obtain⟨o1,o2,o3⟩:=K.rm 1 ob (.cells #[S3.v y9,S3.v tl] 96) 50 0 (by kernel_rfl);have P:MS mb tb ob nb U Z { M with bm:=M.bm.eraseIdx j }:=h.outs C9 ⟨o1,o2,o3,⟨bs.eraseIdx j,(a9.ch e),(q.erase j).ch C9⟩,hO.eb.ch C9⟩ K.new;by_cases F:k≠5
   .refine qI ((k != 5)) true (by simpa using F) ?_;rw[if_pos (show k≠5 from by simpa using F)];refine qR [] 3 [] λb9 a2 b0 A=>Af λK=>?_;have a0:MS mb tb ob nb a2 b0 ({ M with bm:=M.bm.eraseIdx j }):=(P.qM A K.new);refine qG 2 TM [true,false] (Lm a0 (hB.ch ((((((((d.nil TM).n m).n o).n t).n L).trans (G.mono (by simp[TM,TN]))).trans (e.mono (by simp[TM,TN]))).n A) F1) hT J l (V.ch ((((((((d.nil TM).n m).n o).n t).n L).trans (G.mono (by simp[TM,TN]))).trans (e.mono (by simp[TM,TN]))).n A) F1) s (hm.ab l.dst s.dst) (by have:=Ex (M.ab l.dst).br;have:=QY M s.dst;show(M.ab l.dst).br.length<_;omega)) ?_;rintro e' d2 ⟨a3,rfl,N,C⟩;refine⟨_,a3,rfl,C,N.new,?_⟩;replace C:=C.ret (B:=w.heap.size);refine qR [] 1 [] λc0 b2 d3 Q=>qE (.tuple #[]) λK=>⟨_,rfl,(N.qM Q K.new),((((((((((d.nil TM).n m).n o).n t).n L).trans (G.mono (by simp[TM,TN]))).trans (e.mono (by simp[TM,TN]))).n A).trans (C)).n Q)⟩
   .refine qI ((k != 5)) false (by simpa using F) (qR [] 1 [] λc2 b3 d4 R=>?_);rw[if_neg (show ¬ k≠5 from by simpa using F)];refine qE (.tuple #[]) λK=>⟨_,rfl,(P.qM R K.new),((((((((d.nil TM).n m).n o).n t).n L).trans (G.mono (by simp[TM,TN]))).trans (e.mono (by simp[TM,TN]))).n R)⟩
  .refine qI ((k != 6)) false (by simpa using h2) ?_;have H:¬ k≠6:=by simpa using h2
   rw[if_neg H];refine qR [] 6 [] λc5 b4 d5 i=>?_;by_cases F:k≠5
   .refine qI ((k != 5)) true (by simpa using F) ?_;rw[if_pos (show k≠5 from by simpa using F)];refine qR [] 3 [] λc8 a4 b1 D=>Af λK=>?_;have a1:MS mb tb ob nb a4 b1 M:=(h.qM (((((d.trans m).trans o).trans t).trans i).trans D) K.new);refine qG 2 TM [true,false] (Lm a1 (hB.ch ((((((d.nil TM).n m).n o).n t).n i).n D) F1) hT J l (V.ch ((((((d.nil TM).n m).n o).n t).n i).n D) F1) s (hm.ab l.dst s.dst) (by have:=Ex (M.ab l.dst).br;have:=QY M s.dst;show(M.ab l.dst).br.length<_;omega)) ?_;rintro e' d6 ⟨a5,rfl,O,E⟩;refine⟨_,a5,rfl,E,O.new,?_⟩;replace E:=E.ret (B:=w.heap.size);refine qR [] 1 [] λd0 b5 d7 S=>qE (.tuple #[]) λK=>⟨_,rfl,(O.qM S K.new),((((((((d.nil TM).n m).n o).n t).n i).n D).trans (E)).n S)⟩
   .refine qI ((k != 5)) false (by simpa using F) (qR [] 1 [] λd1 b6 d8 T=>?_);rw[if_neg (show ¬ k≠5 from by simpa using F)];refine qE (.tuple #[]) λK=>⟨_,rfl,(h.qM (((((d.trans m).trans o).trans t).trans i).trans T) K.new),((((((d.nil TM).n m).n o).n t).n i).n T)⟩
theorem Qd(h:MS mb tb ob nb g w M){X:World}(hB:Base X g w)(hT:Tabs X){n:Nat}(u:MOk n M)(hn:n<=1000000) :
  Calls prog 52 #[pt mb 0] w (MP mb tb ob nb g w (.tuple #[]) M.qH):=by
 obtain⟨lt,tl,I⟩:=h.out;obtain⟨y,V,i⟩:=I.bm;have a1:lt.n=M.bm.length:=by have:=V.len;have:=i.len;simp at *;omega
 have P:=u.wt;refine gI (fn:=f52) TM g func52 h.new (Cr ⟨mb,_,.z,false⟩ (λ_=>⟨h.box.r,h.box.z,λh=>(by cases h),λh=>absurd rfl h⟩) (by kernel_rfl) ?_);refine qO I (lG V (by kernel_rfl) λgF Z hF=>qR [.n 50 0] 28 [0,1,0,1,1] λs1 g1 w1 S=>Af λG=>Cc 28 [(0,pt mb 0),(18,S3.v lt),(19,iv (lt.n:Int)),(20,iv 0)] [true,false] [⟨mb,.cells (mtA nb ob tb) 102,.z,false⟩] (λk E F e L=>∃ (j:Nat) (A:Meet),k=M.bm.length-j/\j<=M.bm.length/\e=[(0,pt mb 0),(18,S3.v lt),(19,iv (lt.n:Int)),(20,iv (j:Int))]/\L=[⟨mb,.cells (mtA nb ob tb) 102,.z,false⟩]/\MS mb tb ob nb E F A/\(M.bm.drop j).foldl (λM l=>M.lp l) A=M.qH/\COk n (M.bm.length-j) A/\FzL E F lt (y.map (pt · 0))/\Lets E F y M.bm/\Cg w.heap.size TM g w E F) (by kernel_rfl) (by kernel_rfl) (by kernel_rfl) (by kernel_rfl) M.bm.length (λK=>?_) ?_)
 .have C9:Cg w.heap.size [.n 50 0,.n 51 0] g w g1 w1:=((Z.mono (by simp)).trans (S.mono (by simp)));obtain⟨o1,o2,o3⟩:=G.rm 1 ob (.cells #[S3.v s30,S3.v tl] 96) 50 0 (by kernel_rfl);exact⟨0,{ M with bm:=[] },rfl,mL _,rfl,rfl,h.outs C9 ⟨o1,o2,o3,⟨[],OwnS.nil _ _ _ _ _ _,⟨rfl,λk b m h=>(by cases h)⟩⟩,I.eb.ch C9⟩ K.new,rfl,⟨u.ab,by show M.bm.length+0+pw M<=_;exact P,u.eb,u.bad,λl s=>(by cases s)⟩,(hF.fz.ch S),i.ch C9,C9.mono (by simp[TM,TN])⟩
 .rintro k gr wr _ zr _ ⟨j,A,rfl,hj,rfl,rfl,hM,hI,hA,hFz,hLt,hC⟩ J hJ;have a0:=hFz.n;refine qR [] 5 [] λs2 g2 w2 a=>?_;by_cases U:j<M.bm.length
  .refine qI ((decide ((j:Int)<(lt.n:Int)))) true (P' (by omega)) ?_;obtain⟨l,s⟩:∃ l,M.bm[j]?=some l:=⟨_,H' U⟩;obtain⟨o,t⟩:∃ o,y[j]?=some o:=⟨_,H' (by rw[i.len];exact U)⟩;have c:=u.bm l (mD s);have H:=hLt.at_ j o l t s;have x:(y.map (pt · 0))[j]?=some (pt o 0):=by rw[mX,t];rfl
   obtain⟨b,W,_⟩:=hFz.at_ j (pt o 0) x;obtain⟨Q,O⟩:∃ Q,M.bm.length-j=Q+1:=⟨M.bm.length-j-1,by omega⟩;rw[O]at hA
   have N:=hA.lp c;rw[Yc s,qt]at hI
   refine qR [] 5 [] λs3 g3 w3 d=>qV 0 (pt b j) (iC W j (by omega)) (qV 1 (pt o 0) (BT underlying167 rfl (((hFz.ch a).ch d).cell W x)) (qR [] 5 [] λs5 g5 w5 p=>Af λK=>?_));have Y:MS mb tb ob nb g5 w5 A:=(hM.qM ((a.trans d).trans p) K.new);refine qG 2 TM [true] (Lm Y (hB.ch ((((hC.n a).n d).n p)) F1) hT o l (H.ch (((a.nil TM).n d).n p) F1) c (hA.ab l.dst c.dst) (by have:=hA.wt;have:=Ex (A.ab l.dst).br;have:=QY A c.dst;omega)) ?_;rintro e' w6 ⟨g6,rfl,R,q⟩;refine⟨_,g6,rfl,q,R.new,?_⟩;replace q:=q.ret (B:=w.heap.size);refine qR [] 3 [] λs7 g7 w7 C=>qV 0 (iv ((j:Int)+1)) (Bj 20 (j:Int) underlying3 (by omega)) (qR [] 2 [] λs8 g8 w8 D=>qB [true] λz G K=>hJ (M.bm.length-(j+1)) _ _ _ z _ (by omega) ⟨j+1,A.lp l,rfl,by omega,rfl,rfl,(R.qM (C.trans D) G.new),hI,(by rw[show M.bm.length-(j+1)=Q by omega];exact N.1),((((((hFz.ch a).ch d).ch p).ch q).ch C).ch D),hLt.ch ((((((a.nil TM).n d).n p).trans (q)).n C).n D) F1,((((((hC.n a).n d).n p).trans q).n C).n D)⟩ K)
  .refine qI ((decide ((j:Int)<(lt.n:Int)))) false (G' (by omega)) (qR [] 1 [] λs9 g9 w9 T=>?_);obtain rfl:j=M.bm.length:=by omega
   rw[nR]at hI
   rw[<- hI];refine qE (.tuple #[]) λK=>⟨_,rfl,(hM.qM (a.trans T) K.new),((hC.n a).n T)⟩
end
end
end Go.Proofs.YtdjfdfpkkenjbacGreatDoor
