/- Part 10 of the walk. -/
import Derived.Lib.AppendZeros
import Derived.Test.YtogibonjmbhliabGreatDoorZ9
set_option maxRecDepth 100000
set_option maxHeartbeats 4000000
open Go.Proofs.Tryz
set_option linter.unusedVariables false
namespace Go.Proofs.YtogibonjmbhliabGreatDoor
section
open Go.RowKit
theorem Ou(a:List (List Int))(j:Nat)(h:j<a.length):(a.take (j+1)).flatten=(a.take j).flatten++a.getD j []:=by
 rw[nv h,List.flatten_append];simp[List.getD,List.getElem?_eq_getElem h]
theorem UO(a:List (List Int))(h:∀ l∈a,l.length<=1000):a.flatten.length<=1000*a.length:=by
 induction a with
 | nil=>simp
 | cons x r ih =>
  have c:=h x (by simp);have d:=ih (λl b=>h l (by simp[b]));simp only[List.flatten_cons,H',nD];omega
theorem Nu(n:Nat):(Builtin.zeroCells (Value.int .u8 0).cells n).size=n:=by
 simp[Builtin.zeroCells,Value.cells]
theorem Zc(n:Nat)(w:World)(o:0<n)(t:n<=20000) :
  Calls prog 81 #[.slice none 0 0,.int .i64 (n:Int)] w λe w'=>∃ v',e=.returned v'/\w'.ownsRow w.heap.size 5 1 v' 0 []/\Bw w w':=by
 obtain⟨r,l,d,f,g⟩:=info_parts Aw;have i:=λs=>Lib.run_append_nil_zeros (P:=prog) w 34 3 s 5 r (.int .u8 0) .i64 .i64 underlying34 underlying3 l d n o (by rw[f];decide) (by omega) (by rw[g];omega);have c:=grownCap_ge w n 0 5;have b:=grownCap_le_maxLen w n 0 5 (by unfold maxLen;omega);have a:(Builtin.zeroCells (Value.int .u8 0).cells n++Builtin.zeroCells (Value.int .u8 0).cells (grownCap w n 0 5-n)).size=grownCap w n 0 5*1:=by rw[Array.size_append,Nu,Nu];omega
 generalize Builtin.zeroCells (Value.int .u8 0).cells n++Builtin.zeroCells (Value.int .u8 0).cells (grownCap w n 0 5-n)=Z at i a;generalize grownCap w n 0 5=cap at i a c b;have k:Bw w (w.drew.alloc (.cells Z 5)):=((Below.refl w.heap.size w).drew).alloc (by exact A' _) _;have j:(w.drew.alloc (.cells Z 5)).heap[w.heap.size]?=some (.cells Z 5):=heap_alloc_new _ _;generalize w.drew.alloc (.cells Z 5)=W at i k j;have p:W.ownsRow w.heap.size 5 1 (.slice (some ⟨w.heap.size,0,none⟩) 0 cap) 0 []:=⟨by simp,.inr ⟨w.heap.size,cap,Z,rfl,A' _,j,by omega,b,a,by simp⟩⟩;have q:∀ h,(Instr.slice 34 (.slice (some ⟨w.heap.size,0,none⟩) n cap) none (some (.int .i64 0)) none).run prog h=.ok (.slice (some ⟨w.heap.size,0,none⟩) 0 cap) h:=λh=>by
  rw[run_slice_h (P:=prog) h 34 (some ⟨w.heap.size,0,none⟩) n cap underlying34 .i64 0 (by omega) (by omega)];have e:prog.elem 34=5:=by kernel_rfl
  rw[e,I0];simp[Result.andThen,sliced,Addr.add_mid]
 have m:(0:Int)<(n:Int):=by omega
 clear j a b c l d f g;go_enter func81,ntmps81
 go_wp2_with (at_builtin;refine Lib.wpList_append_run _ rfl _ _ _ _ rfl _ _ rfl rfl _ _ (i _) ?_)
 go_ret;exact⟨_,rfl,p,k⟩
theorem S4(g n M:Nat)(K:List Value)(a:List (List Int))(w:World)(hg:g<w.heap.size)(hn:n<=10)(C:a.length=n)
  (R:∀ i,i<n->w.cell? ⟨g,i,none⟩=some (K.getD i undef))(U:∀ i,i<n->Sl w (K.getD i undef) (a.getD i []))(y:∀ l∈a,l.length<=1000)(T:0<a.flatten.length) :
  Calls prog 41 #[.slice (some ⟨g,0,none⟩) n M] w λe w'=>∃ v',e=.returned v'/\w'.ownsRow w.heap.size 5 1 v' a.flatten.length (a.flatten.map (Value.int .u8))/\Bw w w':=by
 have c:Hid (a.length=n):=C;have O:Hid _:=R;have P:Hid _:=U;have I:Hid _:=y;have X:Hid _:=T;clear C R U y T;go_enter func41,ntmps41
 go_wp2_with fail
 go_loopw [3,11] (λsv i wr=>∃ j:Nat,j<=n/\i=.int .i64 j/\sv=.int .i64 ((a.take j).flatten.length:Int)/\w=wr) (λ_ i _=>n-(intOf i).toNat)
 case atStart=>exact⟨0,by omega,rfl,by simp,rfl⟩
 case round =>
  obtain⟨j,hj,rfl,rfl,rfl⟩:=hrel;have d:=UO (a.take j) (λl y=>I.out l (nu y));by_cases m:j<n
  .have t:(a.take j).flatten.length<=10000:=by rw[X']at d;omega
   have r:Hid ((a.take (j+1)).flatten.length=(a.take j).flatten.length+(a.getD j []).length):=by unfold Hid;rw[Ou a j (by rw[c.out];exact m),H']
   have q:=P.out j m;have J:=O.out j m;have u:(a.getD j []).length<=1000:=by
    have f:j<a.length:=by rw[c.out];exact m
    have:a.getD j []=a[j]:=by simp[List.getD,List.getElem?_eq_getElem f]
    rw[this];exact I.out _ (nM f)
   generalize K.getD j undef=vj at q J;generalize a.getD j []=lj at q r u;generalize (a.take j).flatten.length=pre at r t;clear d;obtain⟨⟨aj,kj,rfl,_,_,_⟩,_,_⟩:=q;generalize lj.length=nj at *;go_wp2
   go_roundw
   case rel=>exact⟨j+1,by omega,by go_num,by rw[r.out];go_num,by simp⟩
   case measure=>simp[intOf];omega
  .obtain rfl:j=n:=by omega
   have Q:Hid (a.take j=a):=np (by rw[c.out];exact A' _);have V:a.flatten.length<=10000:=by rw[Q.out,c.out]at d;omega
   rw[Q.out];clear d;have L:=X.out;generalize G:a.flatten.length=Z at V L;have Y:Hid (a.flatten.length=Z):=G;clear G;go_wp2_with fail
   refine(Zc Z w L (by omega)).mono ?_;rintro e w1 ⟨v1,rfl,x,A⟩;clear L V;obtain⟨g1,c1,rfl⟩:=EO x;have z:Hid (w1.ownsRow w.heap.size 5 1 (.slice g1 0 c1) (a.take 0).flatten.length ((a.take 0).flatten.map (Value.int .u8))):=by unfold Hid;simpa using x
   clear x;go_wp2_with fail
   go_loopw [6,27] (λv i wr=>∃ k:Nat,k<=j/\i=.int .i64 k/\Hid (wr.ownsRow w.heap.size 5 1 v (a.take k).flatten.length ((a.take k).flatten.map (Value.int .u8)))/\Bw w wr) (λ_ i _=>j-(intOf i).toNat)
   case atStart=>exact⟨0,by omega,rfl,z,A⟩
   case round =>
    obtain⟨k,S,rfl,h,s⟩:=hrel;have b:=h.out;clear h z A;have D:=b.lt;by_cases o:k<j
    .have d:=UO (a.take k) (λl y=>I.out l (nu y));have t:(a.take k).flatten.length<=10000:=by rw[X']at d;omega
     have r:Hid ((a.take (k+1)).flatten=(a.take k).flatten++a.getD k []):=Ou a k (by rw[c.out];exact o);have q:=(P.out k o).af s;have J:=(s.cell (p:=⟨g,k,none⟩) hg).trans (O.out k o);have u:(a.getD k []).length<=1000:=by
      have f:k<a.length:=by rw[c.out];exact o
      have:a.getD k []=a[k]:=by simp[List.getD,List.getElem?_eq_getElem f]
      rw[this];exact I.out _ (nM f)
     generalize K.getD k undef=vj at q J;generalize a.getD k []=lj at q r u;generalize (a.take k).flatten=pre at b r t;clear d;have H:=q;obtain⟨⟨aj,kj,rfl,_,_,_⟩,_,_⟩:=q;go_wp2_with (at_builtin;refine Aa _ rfl _ _ 34 rfl w.heap.size 5 underlying34 Aw _ _ rfl rfl pre lj b H (by omega) s.size ?_)
     intro v2 W E B;have F:W.ownsRow w.heap.size 5 1 v2 (pre++lj).length ((pre++lj).map (Value.int .u8)):=by simpa using E
     have N:Bw w W:=s.grown B s.size (λk S=>(D k S).1);clear E B b D s H J;go_wp2
     go_roundw
     case rel=>exact⟨k+1,by omega,by go_num,by rw[r.out];exact F,N⟩
     case measure=>simp[intOf];omega
    .have HJ:Hid (a.take k=a):=by unfold Hid;exact np (by rw[c.out];omega)
     go_wp2
     go_ret;refine⟨u6,rfl,?_,s⟩;rw[HJ.out]at b
     exact b
theorem dp{c d:Value}{a b:List Int}{w:World}{e:TypeId}{g:Nat}(f:w.heap[g]?=some (.cells #[c,d] e))(h:Sl w c a)(j:Sl w d b)(k:a.length<=1000)(m:b.length<=1000)(n:0<a.length) :
  Calls prog 41 #[.slice (some ⟨g,0,none⟩) 2 2] w λe w'=>∃ v',e=.returned v'/\w'.ownsRow w.heap.size 5 1 v' (a++b).length ((a++b).map (Value.int .u8))/\Bw w w':=by
 refine(S4 g 2 2 [c,d] [a,b] w (Q'.1 f).1 (by omega) rfl ?_ ?_ ?_ ?_).mono ?_
 .intro i hi;rw[cell_of_row _ _ i _ _ _ f];obtain rfl|rfl:i=0\/i=1:=by omega
  all_goals rfl
 .intro i hi;obtain rfl|rfl:i=0\/i=1:=by omega
  .exact h
  .exact j
 .intro l hl;simp only[nf,P',or_false]at hl;rcases hl with rfl|rfl
  .exact k
  .exact m
 .simp;omega
 .rintro e w2 ⟨v2,rfl,ho,hb⟩;exact⟨v2,rfl,by simpa using ho,hb⟩
end
section
section
def paE(n tc tr tu k c s m v:Int):Int:=if ¬ (0<=n/\n<1073741824)then 2 else if NW tc tr tu≠0 then NW tc tr tu else Bo k c s m v
def paP(tc tr tu k c s m v:Int):List Int:=Lb Hp tc tr tu++DX k c s m v
def paL(n tc tr tu k c s m v:Int):List Int:=if paE n tc tr tu k c s m v=0 then c::KR (Hq c) n (paP tc tr tu k c s m v)else[]
variable{c k m n s tc tr tu v:Int}
theorem aB(h:paE n tc tr tu k c s m v=0):(0<=n/\n<1073741824)/\Dy tc tr tu/\Bo k c s m v=0:=by
 unfold paE at h;split at h
 .cases h
 .rename_i g1
  split at h
  .rename_i g;exact absurd h g
  .rename_i g2
   refine⟨mX.1 g1,?_,h⟩;have a:=mX.1 g2;unfold NW at a;split at a
   .assumption
   .cases a
theorem jn(a:0<=n/\n<1073741824)(b:NW tc tr tu=0):paE n tc tr tu k c s m v=Bo k c s m v:=by
 unfold paE;rw[if_neg (λg=>g a),if_neg (λg=>g b)]
theorem aC(h:paE n tc tr tu k c s m v=0):paL n tc tr tu k c s m v=c::KR (Hq c) n (paP tc tr tu k c s m v):=if_pos h
theorem Iu(a b d k c s m v:Int):(paP a b d k c s m v).length=42:=by unfold paP;rw[H',ER,EC]
theorem bm{p:List Int}(a:0<=n)(b:n<1073741824)(d:p.length=42):Ez (Hq c) n 0 noB p=0:=by
 unfold Ez;rw[if_neg (λg=>g (OkC.new (G0 c) n a (by omega))),if_neg (by omega),if_neg (by omega)]
end
end
section
open Go.RowKit
section
variable{c n tc tr tu:Int}{w:World}{x y:S3}
theorem Zb(d:Sl w x.v Hp)(f:AJ w)(h:Dy tc tr tu) :
  Calls prog 36 #[x.v,.agg #[iv tc,iv tr,iv tu]] w λe w'=>∃ y:S3,e=.returned (.tuple #[y.v,iv 0])/\Sl w' y.v (Lb Hp tc tr tu)/\Bw w w':=by
 refine(Wj x.v Hp tc tr tu w d f).mono ?_;have a:ND Hp tc tr tu=0:=by rw[QK Km];exact Lr h
 rintro e w' ⟨v,rfl,b,c⟩;rw[show QL Hp tc tr tu=Lb Hp tc tr tu from if_pos a]at b
 rw[a];obtain⟨y,rfl,g⟩:=G8 b (by rw[ER];decide) (X8 _ h);exact⟨y,rfl,g,c⟩
theorem Yj{l m:List Int}{e:TypeId}{g:Nat}(j:w.heap[g]?=some (.cells #[x.v,y.v] e))(b:Sl w x.v l)(c:Sl w y.v m)(n:l.length<=1000)(o:m.length<=1000)(p:0<l.length) :
  Calls prog 41 #[.slice (some ⟨g,0,none⟩) 2 2] w λe w'=>∃ z:S3,e=.returned z.v/\Sl w' z.v (l++m)/\Nb w.heap.size z (l++m)/\Bw w w':=by
 refine(dp j b c n o p).mono ?_;rintro e w' ⟨v,rfl,i,f⟩;obtain⟨z,rfl,k,h⟩:=T9 i (by rw[H'];omega) (λa d=>(U'.1 d).elim (b.byte a) (c.byte a));exact⟨z,rfl,k,h,f⟩
theorem fK{p:List Int}(h:Sl w x.v (Hq c))(a:Sl w y.v p)(k:CW w)(b:0<=n)(d:n<1073741824)(i:p.length=42) :
  Calls prog 40 #[.agg #[x.v,iv n,iv 0,.bool false,.bool false,.bool false,.bool false,.bool false,.bool false,.bool false,.bool false],y.v] w λe w'=>∃ u z:S3,e=.returned (.tuple #[.agg #[u.v,iv (n+1),iv 0,.bool false,.bool false,.bool false,.bool false,.bool false,.bool false,.bool false,.bool false],z.v,iv 0])/\Sl w' z.v (KR (Hq c) n p)/\Bw w w':=by
 refine(fL x.v (Hq c) n 0 noB y.v p w h rfl a k (bm b d i)).mono ?_;rintro e w' ⟨m,o,rfl,f,_,j,g⟩;obtain⟨u,rfl,_⟩:=Vr f;obtain⟨z,rfl,l⟩:=G8 j (by rw[GB];omega) (WY _ _ a.byte);exact⟨u,z,rfl,l,g⟩
theorem eZ{k s m v:Int}(h:paE n tc tr tu k c s m v=0)(p:Tabs w) :
  Calls prog 20 #[iv n,.agg #[iv tc,iv tr,iv tu],.agg #[iv k,iv c,iv s,iv m,iv v]] w λe w'=>∃ y:S3,e=.returned (.tuple #[y.v,iv 0])/\Sl w' y.v (paL n tc tr tu k c s m v)/\Nb w.heap.size y (paL n tc tr tu k c s m v)/\Bw w w':=by
 obtain⟨Y,hB,X⟩:=aB h;have hc:=(Fj X).2;unfold InC at hc;rw[aC h];refine kIn func20 (kR 11 [0,0,0,0] λb4 w1 b1=>kV 1 (.bool false) (rLt (x:=(.tmp 14)) (y:=(.const (iv 0))) (t:=3) (m:=n) (n:=0) (D' (by omega))) (kR 2 [] λb6 w2 b2=>kV 4 (.bool false) (rGe (x:=(.tmp 17)) (y:=(.const (iv 1073741824))) (t:=3) (m:=n) (n:=1073741824) (D' (by omega))) (kR 7 [8,2,0] λb7 w3 b3=>?_)));have S:=(btr (btr b1 b2) b3);refine kC 0 (JF (p.t.af S)) ?_;rintro _ w5 ⟨yi,rfl,N,U⟩;refine⟨_,rfl,U,?_⟩;have T:=(btr S U);refine kC 2 (Zb N (p.t.af T) hB) ?_;rintro _ w8 ⟨yt,rfl,Q,V⟩;refine⟨_,rfl,V,?_⟩;refine kR 17 [6,8,10,12,14,1] λc0 w9 W=>?_;have r:=(btr (btr T V) W);refine kC 1 (YJ (m:=⟨k,c,s,m,v⟩) (p.n.af r) X) ?_;rintro _ a2 ⟨yc,rfl,M,g⟩;refine⟨_,rfl,g,?_⟩;refine kR 18 [1] λZ a3 i=>?_;have A:=(btr (btr r g) i);refine kC 2 (Zr (c:=c) (by omega) (p.t.af A) (if_pos (by omega))) ?_;rintro _ a4 ⟨yk,rfl,o,d⟩;refine⟨_,rfl,d,?_⟩;replace o:=o rfl;refine kR 22 [0,0] λI a5 f=>Af λK=>kC 6 (Yj (K.uo 2 (I 0) _ 34 .z true (by kernel_rfl)) (((((Q.af W).af g).af i).af d).af f) (((M.af i).af d).af f) (by rw[ER];decide) (by rw[EC];decide) (by rw[ER];decide)) ?_;rintro _ a6 ⟨yp,rfl,O,_,j⟩;refine⟨_,rfl,j,?_⟩;have B:=(btr (btr (btr A d) f) j);refine kC 7 (fK ((o.af f).af j) O (p.q.af p.q.pos B) Y.1 Y.2 (Iu tc tr tu k c s m v)) ?_;rintro _ a7 ⟨u,z,rfl,hz,D⟩;refine⟨_,rfl,D,?_⟩;refine kR 21 [0,0,3,0,1] λa0 a8 E=>kV 2 (.int .u8 c) (gO (P:=prog) (src:=3) (dst:=5) (k:=.i64) (n:=c) (by kernel_rfl) underlying5 (by kernel_rfl) (by rw[IntKind.wrap_u8];omega)) (kR 3 [0,0,0,0] λb R F=>Af λK=>?_);have L:Sl R (S3.v ⟨some ⟨(b 0),0,none⟩,1,1⟩) [c]:=Sl.ofRow (l:=[c]) (K.uo 4 (b 0) _ 5 .z true (by kernel_rfl)) (by show 1<=_;decide) (λa ha=>by rw[G'.1 ha];omega);have C:=(btr (btr (btr B D) E) F);refine kC 6 (Yj (x:=⟨some ⟨(b 0),0,none⟩,1,1⟩) (K.uo 5 (b 1) _ 34 .z true (by kernel_rfl)) L ((hz.af E).af F) (by show 1<=1000;decide) (by rw[GB];show(paP tc tr tu k c s m v).length+20<=1000;rw[Iu];decide) (by show 0<1;decide)) ?_;rintro _ a9 ⟨y,rfl,hy,hw,G⟩;refine⟨_,rfl,G,?_⟩;refine kR 3 [] λa1 b0 H=>?_;have J:=(btr (btr C G) H);exact kE (.tuple #[S3.v y,iv 0]) ⟨y,rfl,(hy.af H),hw.mono C.size,J⟩
end
end
section
structure Gr where
 k:Int
 a:Int
 b:Int
 c:Int
 d:Int
def pkT(g:Gr):Int:=if pick g.d 17=16 then(pick g.c 4+1)%4 else pick g.c 4
def pkR(g:Gr):Int:=if pick g.d 17=15 then 0 else 7
def pkP(g:Gr):List Int:=paL (pick g.a 1000) (pkT g) (pkR g) 60 (wK g.b) (pick g.c 4) (pick g.d 6) (pick g.a 4) (wV g.b g.d)
theorem aI(g:Gr):paE (pick g.a 1000) (pkT g) (pkR g) 60 (wK g.b) (pick g.c 4) (pick g.d 6) (pick g.a 4) (wV g.b g.d)=0:=by
 have e:=Bg g.a 1000 (by omega);have h:=Bg g.c 4 (by omega);have i:=Bg g.d 6 (by omega);have f:Dy (pkT g) (pkR g) 60:=by
  unfold Dy pkT pkR;refine⟨?_,?_,by omega⟩<;>split<;>omega
 rw[jn ⟨e.1,by omega⟩ (Lr f)];exact gu g.b g.a g.d _ _ (by omega) (by omega)
def pkB(g:Gr):List Int:=if pick g.d 23=22/\30<(pkP g).length then(pkP g).take 30 else pkP g
def acN(k:Int)(n:Int):Lac:=⟨k,n,0,0,[]⟩
def Ps(g:Gr)(cr:Bool):Lac :=
 if pick g.k 24<3 then⟨1,pick g.a 5,0,0,pkB g⟩
 else if pick g.k 24<5 then acN 2 (pick g.a 5)
 else if pick g.k 24<14 then acN 3 (pick g.a 5)
 else if pick g.k 24=14 then⟨4,0,pick g.c 20,0,[]⟩
 else if pick g.k 24=15 then⟨5,0,pick g.c 20,0,[]⟩
 else if pick g.k 24=16 then⟨6,0,pick g.c 20,0,[]⟩
 else if pick g.k 24=17/\cr=true then⟨8,pick g.a 5,0,pick g.c 90,[]⟩
 else if pick g.k 24=18/\cr=true then acN 9 (pick g.a 5)
 else acN 7 0
def Xg(s:Nat)(x:Lac):Lac:=if x.k=1/\6<s+1 then acN 7 0 else x
def fH(s:Nat)(x:Lac):Nat:=if x.k=1 then s+1 else s
def MI(cr:Bool):Nat->List Gr->List Lac
 | _,[]=>[]
 | s,g::l=>Xg s (Ps g cr)::MI cr (fH s (Ps g cr)) l
def scr(l:List Gr)(most:Nat)(cr:Bool):List Lac:=MI cr 0 (l.take most)
def Ax:List Lac:=(List.range 5).map λn:Nat=>acN 9 (n:Int)
def Ao:List Lac:=(List.range 5).map (λn:Nat=>acN 3 (n:Int))++[acN 7 0]
def Al:Nat->List Lac
 | 0=>[]
 | m+1=>Al m++Ao
def Dm(m:Nat):List Lac:=Ax++Al m
def hvy(x:Lac):Bool:=decide (x.k=1\/x.k=2\/x.k=6\/x.k=8)
def Fq(l:List Lac):Nat:=100+20*(l.filter hvy).length
def Cy(m:Nat)(i:Int):List Lac:=Dm 0++[acN 2 i]++Dm m
def GL(l:List Lac)(i:Int):List Lac:=Cy (Fq l) i++Cy (Fq l) i
end
section
open Go.RowKit
section
variable{fn:Func}{R:Ending->World->Prop}{B:Nat}{T:List Tg}{g:Gh}{w:World}
theorem iO{s:Xs}(d:Nat)(r i:Nat)(c:D7 s d=some (Instr.makeMap 90 none>>=λv=>pure (.value v)))
  (e:(nxt s d undef s.L).o.map Ob.l'=(nxt s d undef s.L).o.map Ob.r')
  (q:∀ b g' w',w.heap.size<=b->AskAt g' w' (.n r i) b (λ_=>none)->(∀ B T,Cg B T g w g' w')->(∀ b,w'.heap.size<=b->g'.t b=.z/\g'.k b=0)->GG prog fn R B T (nxt s d (.map (some b)) s.L).s g' w'):GG prog fn R B T s g w:=by
 refine LY d s.L e (Cp c) λm A j o f=>?_;have u:(Instr.makeMap 90 none).run prog w=.ok (.map (some w.heap.size)) (w.alloc (.map #[] 0)):=by
  simp[Instr.makeMap,go_sem]
 have h:∀ B T,Cg B T g w (Pt g w (.n r i) 0) (w.alloc (.map #[] 0)):=λB T =>
  ⟨rfl,rfl,rfl,by simp,λb a=>.inl (if_neg (by omega)),λb a=>by show _<=(if b=w.heap.size then _ else g.k b);rw[if_neg (by omega)];exact A' _,λb a _ _=>if_neg (by omega),λb a _ _=>heap_alloc_old w _ a,λb a j C=>World.cell?_of_block (w:=w) (heap_alloc_old w _ a)⟩
 have l:∀ b,(w.alloc (.map #[] 0)).heap.size<=b->(Pt g w (.n r i) 0).t b=.z/\(Pt g w (.n r i) 0).k b=0:=λb a=>by
  have p:w.heap.size+1<=b:=by simpa using a
  show(if b=w.heap.size then _ else g.t b)=.z/\(if b=w.heap.size then _ else g.k b)=0;rw[if_neg (by omega),if_neg (by omega)];exact m.new b (by omega)
 refine⟨.map (some w.heap.size),_,Pt g w (.n r i) 0,.inl ?_,m.ch (h _ []) l (by simp),q _ _ _ (A' _) ⟨if_pos rfl,if_pos rfl,[],0,heap_alloc_new _ _,λx y=>absurd y P',oQ,oQ,λ_=>rfl⟩ h l⟩;rw[DE c f,Sem.run_bind,u,Result.andThen_ok];rfl
end
section
def kU(a:Acc)(y:S3)(b:Nat):Array Value:=((AG 0 0 (CZ.bare true [] 0 a []) (NX.mk s30 y s30 s30 s30 s30 (λ_=>s30) (some b))).toList.drop 6).toArray
variable{A E e0 s:Int}{L:List Vt}{S:Sto}{W w w0:World}{b i n nb ob:Nat}{c m:Cmd}{g:Gh}{ls:List Let}{p:Nod}{ts:List Tol}{u:Vt}
theorem Bh(i:Nat)(m:∀ b,w.heap.size<=b->g.t b=.z/\g.k b=0)(a:Acc)(y:S3) :
  Calls prog 25 #[.agg #[iv a.p.r,iv a.p.n,S3.v y]] w λe w'=>∃ (b:Nat) (g':Gh),e=.returned (.agg (kU a y b))/\AskAt g' w' (.n 5 i) b (λ_=>none)/\(∀ b,w'.heap.size<=b->g'.t b=.z/\g'.k b=0)/\Cg w.heap.size [] g w g' w':=by
 refine gI (fn:=f25) [] g func25 m (qR [] 8 [0,0,1,0,0] λq s B c1=>iO 1 5 i (by kernel_rfl) (by kernel_rfl) ?_);intro h u C o j c A;have l:=c w.heap.size [];refine qR [] 3 [1,0] λs3 x D d=>qE1 2 92 1 (q 1) (kU a y h) λK=>⟨h,_,rfl,(j.ch d),K.new,((c1.trans l).trans d)⟩
theorem Pends.nil(g:Gh)(w:World)(nb:Nat):Pends g w nb [] []:=⟨rfl,λk v q h=>by cases h⟩
theorem Y0(h:NS i nb ob g w p ls ts)(k:Int)(E:-9223372036854775808<=k)(F:k<=9223372036854775807) :
  Calls prog 31 #[pt nb 0,iv k] w (NP i nb ob g w (.tuple #[]) (if p.up then p.lp k else p) ls ts):=by
 obtain⟨x,lt,N,q,r,X⟩:=h;refine gI (fn:=f31) (TN i) g func31 X (qN q (qO r (qR [] 9 [0] λs1 g1 w1 c1=>?_)));by_cases m:p.up=true
 .refine qI ((!p.up)) false (by simpa using m) ?_;rw[if_pos m];refine qR [] 8 [0] λs2 M w2 b=>Af λKq=>?_;have V:=(q.tape.ch (c1.trans b)).s;have U:∀ z,w2.heap.size<=z->M.t z=.z:=λz hz=>(Kq.new z hz).1;refine qC 5 (Yz (s:=p.sy) (k:=k) V E F) ?_;rintro e' w3 ⟨u,rfl,j,G,I⟩;refine⟨_,rfl,I,?_⟩;have l:=Cg.ed (B:=w.heap.size) (T:=[]) (g:=M) I;have Z:=JS j;have H:FSl _ _ u _:=⟨j,λY a W=>U _ (G Y a W)⟩;refine qR [] 13 [0,0,2,0] λs4 g4 w4 c=>?_;by_cases o:Gq p.d p.sy k≠0
  .refine qI (((Gq p.d p.sy k) != 0)) true (by simpa using o) (qE (.tuple #[]) λK=>?_);rw[show p.lp k=p from if_pos o];exact⟨_,rfl,(nsC q r (((c1.n b).n l).n c) K),((((c1.nil (TN i)).n b).n l).n c)⟩
  .refine qI (((Gq p.d p.sy k) != 0)) false (by simpa using o) (qR [] 8 [7,0,2,4,8,10,12] λs7 S w7 C=>Ct 33 (λP w' e L=>e=[(0,pt nb 0)]/\L=[⟨nb,.cells (AG i ob (p.bare false (KH p.d p.sy k) (KI p.d p.sy k) DW []) (NX.mk u s30 s30 s30 s30 s30 (λ_=>s30) none)) 97,.n 0 i,false⟩,⟨ob,.cells #[S3.v lt,S3.v N] 67,.n 50 0,false⟩,⟨(s4 0),.cells #[S3.v u,iv (KI p.d p.sy k)] 95,.z,false⟩]/\True/\Cg w.heap.size ([.n 0 i]:List Tg) S w7 P w') (by kernel_rfl) ?_ ?_)
   .intro J hJ
    (exact Dp 3 7 (by kernel_rfl) (by(refine qR [.n 0 i] 9 [2,15,0,1,16,18,21,0,1,22,24,27,0,1] λa0 Q a2 y=>?_;exact qB [true,true,true] λz O K=>hJ _ _ _ z _ ⟨rfl,rfl,trivial,y⟩ K)) (by(refine qR [.n 0 i] 9 [0,1,7,2,16,18,21,0,1,22,24,27,0,1] λa1 R a3 A=>?_;exact qB [true,true,true] λz O K=>hJ _ _ _ z _ ⟨rfl,rfl,trivial,A⟩ K)))
   rintro g8 w8 _ z8 _ ⟨rfl,rfl,_,D⟩;refine qE (.tuple #[]) λK=>?_;rw[show p.lp k=(p.bare false (KH p.d p.sy k) (KI p.d p.sy k) DW [])from if_neg o];exact⟨_,rfl,⟨(NX.mk u s30 s30 s30 s30 s30 (λ_=>s30) none),lt,N,K.nd 0 (((H.ch c).ch C).ch D) ⟨Sv.nil _,λh=>absurd rfl h⟩ (λ_ _=>⟨Sv.nil _,λh=>absurd rfl h⟩) ⟨[],OwnS.nil _ _ _ _ _ _,Pends.nil _ _ _⟩ (OwnS.nil _ _ _ _ _ _) (OwnS.nil _ _ _ _ _ _) (OwnS.nil _ _ _ _ _ _) rfl (λh=>by cases h),r.ch ((((((c1.nil ([.n 0 i]:List Tg)).n b).n l).n c).n C).trans (D)) (hn:=by simp<;>omega),K.new⟩,((((((c1.nil (TN i)).n b).n l).n c).n C).trans (D.mono (by simp[TN])))⟩
 .refine qI ((!p.up)) true (by simpa using m) (qE (.tuple #[]) λK=>?_);rw[if_neg m];exact⟨_,rfl,(nsC q r c1 K),(c1.nil (TN i))⟩
def nx0(b:Nat):NX:=NX.mk s30 s30 s30 s30 s30 s30 (λ_=>s30) (some b)
theorem Rd(d:w.heap[nb]?=some (.cells (AG i ob CZ (nx0 b)) 97))(e:g.t nb=.n 0 i)(c:g.k nb=0)(a:AskAt g w (.n 5 i) b (λ_=>none)):NodeAt g w i nb ob (nx0 b) CZ :=
 ⟨d,e,c,⟨⟨⟨none,0,rfl,A' _,λ_=>rfl,.inl rfl⟩,by simp[CZ],by simp[CZ]⟩,λh=>absurd rfl h⟩,⟨Sv.nil _,λh=>absurd rfl h⟩,λ_ _=>⟨Sv.nil _,λh=>absurd rfl h⟩,⟨[],OwnS.nil _ _ _ _ _ _,Pends.nil _ _ _⟩,OwnS.nil _ _ _ _ _ _,OwnS.nil _ _ _ _ _ _,OwnS.nil _ _ _ _ _ _,a,λ_=>⟨b,rfl⟩⟩
def nbF(a b c d e:Nat):Nat->Nat
 | 0=>a
 | 1=>b
 | 2=>c
 | 3=>d
 | _=>e
theorem Ml(hg:∀ b,w.heap.size<=b->g.t b=.z/\g.k b=0) :
  Calls prog 16 #[] w λe w'=>∃ (mb tb ob:Nat) (nb:Nat->Nat) (g':Gh),e=.returned (pt mb 0)/\MS mb tb ob nb g' w' Ap/\Cg w.heap.size [.n 70 0] g w g' w':=by
 refine gI (fn:=f16) [.n 70 0] g func16 hg (qR [] 8 [52,0] λa g1 w1 c1=>Af λK=>qG 2 [.n 70 0] [true] (Us K.new) ?_);rintro R w2 ⟨tb,g2,rfl,A2,n2,T⟩;refine⟨_,g2,rfl,T,n2,?_⟩;replace T:=T.ret (B:=w.heap.size);refine qR [] 10 [1,0] λs3 g3 w3 c3=>gG 5 27 [(1,pt (s3 0) 0),(8,iv 0)] [true,true] [⟨(a 0),.cells #[sn,sn] 67,.n 50 0,false⟩,⟨(s3 0),.cells #[.pointer none,.pointer none,.pointer none,.pointer none,.pointer none,pt (a 0) 0,.map (some tb)] 73,.l,false⟩] (by kernel_rfl) (by kernel_rfl) (by kernel_rfl) (by kernel_rfl) λN E z=>qR [] 25 [14,0,2,4,6,8,10,12,1,14,22,24] λs5 g5 w5 c5=>Af λK=>qG 8 [] [true,true] (Bh 0 K.new DW s30) ?_;rintro R w6 ⟨L,g6,rfl,A6,n6,Q⟩;refine⟨_,g6,rfl,Q,n6,?_⟩;replace Q:=Q.ret (B:=w.heap.size);refine qR [] 10 [18,21,2,0,26,29,1,0] λA g7 w7 X=>EE (N 5) 27 [(1,pt (s3 0) 0),(8,iv 1)] [true,true,true] [⟨(a 0),.cells #[sn,sn] 67,.n 50 0,false⟩,⟨(s3 0),.cells #[pt (A 0) 0,.pointer none,.pointer none,.pointer none,.pointer none,pt (a 0) 0,.map (some tb)] 73,.l,false⟩,⟨(A 0),.cells (AG 0 (a 0) CZ (nx0 L)) 97,.n 0 0,false⟩] (by kernel_rfl) (by kernel_rfl) (by kernel_rfl) (by kernel_rfl) (by kernel_rfl) λz S K=>E 4 _ _ _ _ _ ?_ K;refine qR [] 25 [14,0,2,4,6,8,10,12,1,14,22,24] λs8 g8 w8 Y=>Af λK=>qG 8 [] [true,true,true] (Bh 1 K.new DW s30) ?_;rintro R w9 ⟨P,g9,rfl,A9,n9,M⟩;refine⟨_,g9,rfl,M,n9,?_⟩;replace M:=M.ret (B:=w.heap.size);refine qR [] 10 [18,21,2,1,26,29,1,0] λc a5 c0 H=>EE (N 4) 27 [(1,pt (s3 0) 0),(8,iv 2)] [true,true,true,true] [⟨(a 0),.cells #[sn,sn] 67,.n 50 0,false⟩,⟨(s3 0),.cells #[pt (A 0) 0,pt (c 0) 0,.pointer none,.pointer none,.pointer none,pt (a 0) 0,.map (some tb)] 73,.l,false⟩,⟨(A 0),.cells (AG 0 (a 0) CZ (nx0 L)) 97,.n 0 0,false⟩,⟨(c 0),.cells (AG 1 (a 0) CZ (nx0 P)) 97,.n 0 1,false⟩] (by kernel_rfl) (by kernel_rfl) (by kernel_rfl) (by kernel_rfl) (by kernel_rfl) λz S K=>E 3 _ _ _ _ _ ?_ K;refine qR [] 25 [14,0,2,4,6,8,10,12,1,14,22,24] λb4 a6 c4 I=>Af λK=>qG 8 [] [true,true,true,true] (Bh 2 K.new DW s30) ?_;rintro R d0 ⟨G,Z,rfl,U,a2,p⟩;refine⟨_,Z,rfl,p,a2,?_⟩;replace p:=p.ret (B:=w.heap.size);refine qR [] 10 [18,21,2,2,26,29,1,0] λj a7 d1 C=>EE (N 3) 27 [(1,pt (s3 0) 0),(8,iv 3)] [true,true,true,true,true] [⟨(a 0),.cells #[sn,sn] 67,.n 50 0,false⟩,⟨(s3 0),.cells #[pt (A 0) 0,pt (c 0) 0,pt (j 0) 0,.pointer none,.pointer none,pt (a 0) 0,.map (some tb)] 73,.l,false⟩,⟨(A 0),.cells (AG 0 (a 0) CZ (nx0 L)) 97,.n 0 0,false⟩,⟨(c 0),.cells (AG 1 (a 0) CZ (nx0 P)) 97,.n 0 1,false⟩,⟨(j 0),.cells (AG 2 (a 0) CZ (nx0 G)) 97,.n 0 2,false⟩] (by kernel_rfl) (by kernel_rfl) (by kernel_rfl) (by kernel_rfl) (by kernel_rfl) λz S K=>E 2 _ _ _ _ _ ?_ K;refine qR [] 25 [14,0,2,4,6,8,10,12,1,14,22,24] λb5 a8 d2 D=>Af λK=>qG 8 [] [true,true,true,true,true] (Bh 3 K.new DW s30) ?_;rintro R d3 ⟨J,a0,rfl,V,a3,o⟩;refine⟨_,a0,rfl,o,a3,?_⟩;replace o:=o.ret (B:=w.heap.size);refine qR [] 10 [18,21,2,3,26,29,1,0] λu a9 d4 x=>EE (N 2) 27 [(1,pt (s3 0) 0),(8,iv 4)] [true,true,true,true,true,true] [⟨(a 0),.cells #[sn,sn] 67,.n 50 0,false⟩,⟨(s3 0),.cells #[pt (A 0) 0,pt (c 0) 0,pt (j 0) 0,pt (u 0) 0,.pointer none,pt (a 0) 0,.map (some tb)] 73,.l,false⟩,⟨(A 0),.cells (AG 0 (a 0) CZ (nx0 L)) 97,.n 0 0,false⟩,⟨(c 0),.cells (AG 1 (a 0) CZ (nx0 P)) 97,.n 0 1,false⟩,⟨(j 0),.cells (AG 2 (a 0) CZ (nx0 G)) 97,.n 0 2,false⟩,⟨(u 0),.cells (AG 3 (a 0) CZ (nx0 J)) 97,.n 0 3,false⟩] (by kernel_rfl) (by kernel_rfl) (by kernel_rfl) (by kernel_rfl) (by kernel_rfl) λz S K=>E 1 _ _ _ _ _ ?_ K;refine qR [] 25 [14,0,2,4,6,8,10,12,1,14,22,24] λb7 b0 d5 y=>Af λK=>qG 8 [] [true,true,true,true,true,true] (Bh 4 K.new DW s30) ?_;rintro R d6 ⟨O,a1,rfl,W,a4,d⟩;refine⟨_,a1,rfl,d,a4,?_⟩;replace d:=d.ret (B:=w.heap.size);refine qR [] 10 [18,21,2,4,26,29,1,0] λF b1 d7 q=>EE (N 1) 27 [(1,pt (s3 0) 0),(8,iv 5)] [true,true,true,true,true,true,true] [⟨(a 0),.cells #[sn,sn] 67,.n 50 0,false⟩,⟨(s3 0),.cells #[pt (A 0) 0,pt (c 0) 0,pt (j 0) 0,pt (u 0) 0,pt (F 0) 0,pt (a 0) 0,.map (some tb)] 73,.l,false⟩,⟨(A 0),.cells (AG 0 (a 0) CZ (nx0 L)) 97,.n 0 0,false⟩,⟨(c 0),.cells (AG 1 (a 0) CZ (nx0 P)) 97,.n 0 1,false⟩,⟨(j 0),.cells (AG 2 (a 0) CZ (nx0 G)) 97,.n 0 2,false⟩,⟨(u 0),.cells (AG 3 (a 0) CZ (nx0 J)) 97,.n 0 3,false⟩,⟨(F 0),.cells (AG 4 (a 0) CZ (nx0 O)) 97,.n 0 4,false⟩] (by kernel_rfl) (by kernel_rfl) (by kernel_rfl) (by kernel_rfl) (by kernel_rfl) λz S K=>E 0 _ _ _ _ _ ?_ K;refine qR [] 12 [] λb8 b2 d8 r=>kH 1 (s3 0) (by kernel_rfl) λb3 s=>qE (pt (s3 0) 0) λK=>⟨(s3 0),tb,(a 0),(nbF (A 0) (c 0) (j 0) (u 0) (F 0)),_,rfl,?_,((((((((((((((((((((c1.nil [.n 70 0]).trans T).n c3).n c5).n Q).n X).n Y).n M).n H).n I).n p).n C).n D).n o).n x).n y).n d).n q).n r).n s)⟩;obtain⟨z1,z2⟩:=K.sB 1 (s3 0) (.cells (mtA (nbF (A 0) (c 0) (j 0) (u 0) (F 0)) (a 0) tb) 73) false (by kernel_rfl);obtain⟨o1,o2,o3⟩:=K.sC 0 (a 0) (.cells #[S3.v s30,S3.v s30] 67) 50 0 (by kernel_rfl);obtain⟨q0,r0,t0⟩:=K.sC 2 (A 0) (.cells (AG 0 (a 0) CZ (nx0 L)) 97) 0 0 (by kernel_rfl);obtain⟨q1,r1,t1⟩:=K.sC 3 (c 0) (.cells (AG 1 (a 0) CZ (nx0 P)) 97) 0 1 (by kernel_rfl);obtain⟨q2,r2,t2⟩:=K.sC 4 (j 0) (.cells (AG 2 (a 0) CZ (nx0 G)) 97) 0 2 (by kernel_rfl);obtain⟨q3,r3,t3⟩:=K.sC 5 (u 0) (.cells (AG 3 (a 0) CZ (nx0 J)) 97) 0 3 (by kernel_rfl);obtain⟨q4,r4,t4⟩:=K.sC 6 (F 0) (.cells (AG 4 (a 0) CZ (nx0 O)) 97) 0 4 (by kernel_rfl);refine⟨⟨z1,z2⟩,((((((((((((((((((A2.ch c3).ch c5).ch Q).ch X).ch Y).ch M).ch H).ch I).ch p).ch C).ch D).ch o).ch x).ch y).ch d).ch q).ch r).ch s),λi hi=>?_,⟨s30,s30,o1,o2,o3,⟨[],OwnS.nil _ _ _ _ _ _,⟨rfl,λk b m h=>(by cases h)⟩⟩,OwnS.nil _ _ _ _ _ _⟩,K.new⟩;rcases rU hi with rfl|rfl|rfl|rfl|rfl
 .exact⟨_,Rd q0 r0 t0 (((((((((((((((A6.ch X).ch Y).ch M).ch H).ch I).ch p).ch C).ch D).ch o).ch x).ch y).ch d).ch q).ch r).ch s)⟩
 .exact⟨_,Rd q1 r1 t1 ((((((((((((A9.ch H).ch I).ch p).ch C).ch D).ch o).ch x).ch y).ch d).ch q).ch r).ch s)⟩
 .exact⟨_,Rd q2 r2 t2 (((((((((U.ch C).ch D).ch o).ch x).ch y).ch d).ch q).ch r).ch s)⟩
 .exact⟨_,Rd q3 r3 t3 ((((((V.ch x).ch y).ch d).ch q).ch r).ch s)⟩
 .exact⟨_,Rd q4 r4 t4 (((W.ch q).ch r).ch s)⟩
theorem cQ(h:NS i nb ob g w p ls ts)(L:p.up=true)(hw:p.br.length<100000000)(c:Cmd) :
  Calls prog 55 #[pt nb 0,.agg #[iv c.k,iv c.c,iv c.s,iv c.n,iv c.v]] w (NP i nb ob g w (.tuple #[]) (p.want c) ls ts):=by
 obtain⟨x,lt,R,d,H,V⟩:=h;obtain⟨j,o⟩:=d.sJ L;obtain⟨l,rfl⟩:∃ l:NX,x={ l with cl:=some j }:=⟨x,by cases x;simp only at o;subst o;rfl⟩;clear o;have P:AskAt g w (.n 5 i) j p.cl:=d.sG rfl;refine gI (fn:=f55) (TN i) g func55 V (qN d (qO H ?_));obtain⟨u,t,O,N,J,I⟩:=id P;refine II j _ 5 i J u t (by kernel_rfl) ?_;refine qR [] 13 [0,0,13,0,2,4,6,8,0,10,3] λs1 g1 w1 c1=>qU 6 (.tuple #[.agg #[iv ((p.cl c).getD Bb).r,iv ((p.cl c).getD Bb).n],.bool (p.cl c).isSome]) (λW U=>(aQ (g:=g) (τ:=.n 5 i) (b:=j) (f:=p.cl) ⟨u,t,O,N,AV.at (U rfl) 2 j (.map (O.map mkA).toArray N) (.n 5 i) (by kernel_rfl),I⟩ c)) (qR [] 11 [14,16,18,21,0,0,23,4,0,24] λs2 g2 w2 q=>?_);by_cases C:(p.cl c).isSome=true
 .refine qI ((p.cl c).isSome) true C (qE (.tuple #[]) λK=>?_);rw[show p.want c=p from if_pos C];have M:=c1.n q;exact⟨_,rfl,⟨({ l with cl:=some j }:NX),lt,R,d.ch M,H.ch M,K.new⟩,((c1.nil (TN i)).n q)⟩
 .refine qI ((p.cl c).isSome) false (by simpa using C) (IJ [true,true,false,true,true] ?_);have X:l.br.n=p.br.length:=d.br.num;refine qR [] 11 [12,0,2,4,6,8,10,0,12,2,15,0,0] λQ g5 w5 y=>KL 8 (x:=({ l with cl:=some j }:NX).br) 38 38 49 5 40 (.agg #[iv 0,iv 0,iv 0,iv 0,iv 0]) ⟨(Q 0),0,none⟩ 1 1 [iv c.k,iv c.c,iv c.s,iv c.n,iv c.v] (d.br.ch ((c1.trans q).trans y) (by simp) (by simp)) (by kernel_rfl) (by kernel_rfl) (by kernel_rfl) underlying38 (by kernel_rfl) (by kernel_rfl) (by decide) (by decide) rfl (by simp[Value.oneCell']) (λK=>Cz K 4 (Q 0) [iv c.k,iv c.c,iv c.s,iv c.n,iv c.v] 49 .z true (by kernel_rfl)) (by show l.br.n+1<=_;unfold maxLen;omega) (by show(l.br.n+1)*40<=_;omega) ?_;intro Y g6 w6 T n6 F Z;have D:=F w.heap.size [.n 4 i] (G'.2 rfl);refine qR [.n 0 i] 13 [18,20,22,25,0,1,8,0,2,4,6,8,0,10,2,12] λs7 g7 w7 A=>UQ 7 (τ:=.n 5 i) (b:=j) c Bb (((((P.ch c1).ch q).ch y).ch D).ch A) (by kernel_rfl) (by kernel_rfl) (by kernel_rfl) ?_;intro w8 S G;have E:=G w.heap.size [.n 5 i] (G'.2 rfl);refine qR [] 1 [] λs9 g9 w9 B=>qE (.tuple #[]) λK=>?_;rw[show p.want c={ p with br:=p.br++[c],cl:=Ca p.cl c (some Bb) }from if_neg C];have a:=((((((c1.nil ([.n 4 i,.n 0 i,.n 5 i]:List Tg)).n q).n y).m D).m A).m E).n B;have e:Tg.z∉([.n 4 i,.n 0 i,.n 5 i]:List Tg):=by simp
  exact⟨_,rfl,⟨({ l with cl:=some j,br:=Y }:NX),lt,R,K.nd 0 (d.tape.ch a e) (d.mv.ch a e) (BG d.an a e) (Ci d.bw a e (by simp)) (d.fa.ch a) (d.ae.ch a) (by rw[Cw];exact(((T.ch A).ch E).ch B)) (S.ch B) (λ_=>⟨j,rfl⟩),H.ch a e (by simp<;>omega),K.new⟩,(((((((c1.nil (TN i)).n q).n y).trans (D.mono (by simp[TN]))).trans (A.mono (by simp[TN]))).trans (E.mono (by simp[TN]))).n B)⟩
theorem OS(n g:Int)(w:World) :
  Calls prog 129 #[.int .i64 n,.int .i64 g] w λe w'=>e=.returned (.bool (decide (0<=n/\n<=g)))/\w'=w:=by
 by_cases a:0<=n
 .by_cases h1:n<=g
  .rw[M' (show 0<=n/\n<=g from⟨a,h1⟩)];go_enter func129,ntmps129
   go_wp2
   go_ret;exact⟨rfl,rfl⟩
  .rw[D' (show ¬ (0<=n/\n<=g)from λh=>h1 h.2)];go_enter func129,ntmps129
   go_wp2
   go_ret;exact⟨rfl,rfl⟩
 .rw[D' (show ¬ (0<=n/\n<=g)from λh=>a h.1)];go_enter func129,ntmps129
  go_wp2
  go_ret;exact⟨rfl,rfl⟩
theorem Uu(s:Sto)(w:World) :
  Calls prog 98 #[.agg (stA s)] w λe w'=>e=.returned (.int .i64 (NT s))/\Bw w w':=by
 have n:Bw w (w.alloc (.cells (stA s) 89)):=(Below.refl _ _).alloc (A' _) _;have p:Bs (w.alloc (.cells (stA s) 89)) w.heap.size s:=heap_alloc_new _ _;generalize u:w.alloc (.cells (stA s) 89)=W at n p;go_enter func98,ntmps98
 go_wp2_with ((with_reducible (refine Fd ?_));(refine GU rfl _ rfl w.heap.size 0 rfl s.V p.tP ?_))
 clear u
 go_loopw [9] (λiv wr=>∃ i:Nat,i<=8/\iv=.int .i64 (i:Int)/\Hid (∀ j,j<i->VaB (s.V j))/\W=wr) (λiv _=>(8-intOf iv).toNat)
 case atStart=>exact⟨0,by omega,rfl,λj r=>by omega,rfl⟩
 case round =>
  obtain⟨i,t,rfl,l,rfl⟩:=hrel;by_cases a:i<8
  .have hlt':(i:Int)<8:=by omega
   have d:=V5 s.V i a;go_wp2_with fail
   refine(OS (s.V i) 1073741824 _).mono ?_;rintro e v ⟨rfl,rfl⟩;by_cases b:0<=s.V i/\s.V i<=1073741824
   .rw[M' b];have o:Hid (∀ j,j<i+1->VaB (s.V j)):=λj r=>by
     by_cases h:j=i
     .subst h;exact b
     .exact l.out j (by omega)
    clear b d l;go_wp2
    go_roundw
    case rel=>exact⟨i+1,by omega,by go_num,o,by simp⟩
    case measure=>simp[intOf];omega
   .rw[D' b];have k:Hid (NT s=5):=Lq (λh=>b (h.1 i a));clear b d l;go_wp2
    go_ret;rw[k.out];exact⟨rfl,n⟩
  .obtain rfl:i=8:=by omega
   clear a t;go_wp2_with ((with_reducible (refine Fd ?_));(refine GU rfl _ rfl w.heap.size 8 rfl s.L p.tO ?_))
   go_loopw [18] (λiv wr=>∃ i:Nat,i<=8/\iv=.int .i64 (i:Int)/\Hid (∀ j,j<i->ClB (s.L j) (s.C j) (s.A j))/\W=wr) (λiv _=>(8-intOf iv).toNat)
   case atStart=>exact⟨0,by omega,rfl,λj r=>by omega,rfl⟩
   case round =>
    obtain⟨i,t,rfl,f,rfl⟩:=hrel;by_cases a:i<8
    .have hlt':(i:Int)<8:=by omega
     have d:=V5 s.L i a;go_wp2_with fail
     refine(OS (s.L i) 1048577 _).mono ?_;rintro e v ⟨rfl,rfl⟩;by_cases b:0<=s.L i/\s.L i<=1048577
     .rw[M' b];have c0:=p.tW i a;have c1:=p.tU i a;have x:(0:Int)<=(i:Int):=by omega
      by_cases m:s.L i=0
      .rw[m];by_cases c:s.C i=0/\s.A i=0
       .rw[c.1]at c0
        rw[c.2]at c1
        have o:Hid (∀ j,j<i+1->ClB (s.L j) (s.C j) (s.A j)):=λj r=>by
         by_cases h:j=i
         .subst h;exact⟨b,λ_=>c⟩
         .exact f.out j (by omega)
        clear b d c m f;go_wp2
        go_roundw
        case rel=>exact⟨i+1,by omega,by go_num,o,by simp⟩
        case measure=>simp[intOf];omega
       .have k:Hid (NT s=5):=Lq (λh=>c ((h.2 i a).2 m));have q:=eK (s.C i) (s.A i);rw[D' c]at q
        clear b d c m f l;go_wp2
        go_ret;rw[k.out];exact⟨rfl,n⟩
      .have o:Hid (∀ j,j<i+1->ClB (s.L j) (s.C j) (s.A j)):=λj r=>by
        by_cases h:j=i
        .subst h;exact⟨b,λg=>absurd g m⟩
        .exact f.out j (by omega)
       have q:(s.L i==0)=false:=by simpa using m
       clear b d f;go_wp2
       go_roundw
       case rel=>exact⟨i+1,by omega,by go_num,o,by simp⟩
       case measure=>simp[intOf];omega
     .rw[D' b];have k:Hid (NT s=5):=Lq (λh=>b (h.2 i a).1);clear b d l f;go_wp2
      go_ret;rw[k.out];exact⟨rfl,n⟩
    .obtain rfl:i=8:=by omega
     have k:Hid (NT s=0):=fP ⟨l.out,f.out⟩;clear a t f l;go_wp2
     go_ret;rw[k.out];exact⟨rfl,n⟩
theorem lt8(h:i<8):i=0\/i=1\/i=2\/i=3\/i=4\/i=5\/i=6\/i=7:=by omega
theorem io(s:Sto)(c d:Nat)(q v:Int)(w:World)(u:c<8)(W:d<8)(q0:0<=q)(q1:q<=1048576) :
  Calls prog 130 #[.agg (stA s),.agg #[iv 1,iv (c:Int),iv q,iv (d:Int),iv v]] w λe w'=>e=.returned (.tuple #[.agg (stA (Mm s ⟨1,c,q,d,v⟩)),.agg #[iv 0,iv (NH s ⟨1,c,q,d,v⟩)]])/\Bw w w':=by
 have p:∀ b,w.heap.size<=b->gS.t b=.z/\gS.k b=0:=λ_ _=>⟨rfl,rfl⟩;refine gI (fn:=f130) [] gS func130 p (qR [] 26 [1,0,0,0,1,0,1,0,1,0,1] λa O X c1=>Ct 48 (λg w' e L=>e=[(2,pt (a 0) 0),(3,pt (a 1) 0),(4,pt (a 2) 0),(5,pt (a 3) 0),(6,pt (a 4) 0)]/\L=[⟨(a 0),.cells (stA ({ s with V:=BC s.V d v })) 89,.l,false⟩,⟨(a 1),.cells #[iv 1,iv (c:Int),iv q,iv (d:Int),iv v] 49,.z,false⟩,⟨(a 2),.cells (stA EB) 89,.l,false⟩,⟨(a 3),.cells #[iv 0,iv 0] 85,.l,false⟩,⟨(a 4),.cells #[iv 0,iv 0] 85,.l,false⟩]/\True/\Cg w.heap.size ([]:List Tg) O X g w') (by kernel_rfl) ?_ ?_)
 .intro J hJ;rcases lt8 W with rfl|rfl|rfl|rfl|rfl|rfl|rfl|rfl <;>
  (refine qR [] 8 [1,1,0,0] λa2 g3 w3 E=>?_;exact qB [true,true,true,true,true] λz h K=>hJ _ _ _ z _ ⟨rfl,rfl,trivial,(E.nil ([]:List Tg))⟩ K)
 rintro g2 w2 _ z2 _ ⟨rfl,rfl,_,D⟩;refine qR [] 13 [1,4,0,1,1] λa3 T w4 F=>qV 4 (iv (q+1)) (AU 37 q underlying3 (by omega)) (Ct 48 (λg w' e L=>e=[(2,pt (a 0) 0),(3,pt (a 1) 0),(4,pt (a 2) 0),(5,pt (a 3) 0),(6,pt (a 4) 0)]/\L=[⟨(a 0),.cells (stA (Sto.mk (BC s.V d v) (BC s.L c (q+1)) s.C s.A s.R)) 89,.l,false⟩,⟨(a 1),.cells #[iv 1,iv (c:Int),iv q,iv (d:Int),iv v] 49,.z,false⟩,⟨(a 2),.cells (stA EB) 89,.l,false⟩,⟨(a 3),.cells #[iv 0,iv 0] 85,.l,false⟩,⟨(a 4),.cells #[iv 0,iv v] 85,.l,false⟩]/\True/\Cg w.heap.size ([]:List Tg) T w4 g w') (by kernel_rfl) ?_ ?_)
 .intro J hJ;rcases lt8 u with rfl|rfl|rfl|rfl|rfl|rfl|rfl|rfl <;>
  (refine qR [] 4 [0,0] λa4 g6 w6 H=>?_;exact qB [true,true,true,true,true] λz h K=>hJ _ _ _ z _ ⟨rfl,rfl,trivial,(H.nil ([]:List Tg))⟩ K)
 rintro g5 w5 _ z5 _ ⟨rfl,rfl,_,G⟩;refine qR [] 2 [] λa5 U w7 I=>Ct 48 (λg w' e L=>e=[(2,pt (a 0) 0),(3,pt (a 1) 0),(4,pt (a 2) 0),(5,pt (a 3) 0),(6,pt (a 4) 0)]/\L=[⟨(a 0),.cells (stA (Sto.mk (BC s.V d v) (BC s.L c (q+1)) (BC s.C c 0) (BC s.A c v) s.R)) 89,.l,false⟩,⟨(a 1),.cells #[iv 1,iv (c:Int),iv q,iv (d:Int),iv v] 49,.z,false⟩,⟨(a 2),.cells (stA EB) 89,.l,false⟩,⟨(a 3),.cells #[iv 0,iv 0] 85,.l,false⟩,⟨(a 4),.cells #[iv 0,iv v] 85,.l,false⟩]/\True/\Cg w.heap.size ([]:List Tg) U w7 g w') (by kernel_rfl) ?_ ?_
 .intro J hJ;rcases lt8 u with rfl|rfl|rfl|rfl|rfl|rfl|rfl|rfl <;>
  (refine qR [] 7 [1,4,0,0] λa6 g9 w9 N=>?_;exact qB [true,true,true,true,true] λz h K=>hJ _ _ _ z _ ⟨rfl,rfl,trivial,(N.nil ([]:List Tg))⟩ K)
 rintro g8 w8 _ z8 _ ⟨rfl,rfl,_,M⟩;refine qR [] 3 [2,0,0] λx o r i=>Ct 48 (λg w' e L=>e=[(2,pt (a 0) 0),(3,pt (a 1) 0),(4,pt (a 2) 0),(5,pt (a 3) 0),(6,pt (a 4) 0)]/\L=[⟨(a 0),.cells (stA (Sto.mk (BC s.V d v) (BC s.L c (q+1)) (BC s.C c 0) (BC s.A c v) s.R)) 89,.l,false⟩,⟨(a 1),.cells #[iv 1,iv (c:Int),iv q,iv (d:Int),iv v] 49,.z,false⟩,⟨(a 2),.cells (stA (Sto.mk (BC s.V d v) (BC s.L c (q+1)) (BC s.C c 0) (BC s.A c v) s.R)) 89,.l,false⟩,⟨(a 3),.cells #[iv 0,iv v] 85,.l,false⟩,⟨(a 4),.cells #[iv 0,iv v] 85,.l,false⟩]/\True/\Cg w.heap.size ([]:List Tg) o r g w') (by kernel_rfl) ?_ ?_
 .intro J hJ
  (exact Dp 1 2 (by kernel_rfl) (by(refine qR [] 4 [4,5,2,0,7,3,0] λy Q Z m=>?_;exact qB [true,true,true,true,true] λz h K=>hJ _ _ _ z _ ⟨rfl,rfl,trivial,(m.nil ([]:List Tg))⟩ K)) (by(refine qR [] 4 [2,0,3,4,7,3,0] λB S a0 n=>?_;exact qB [true,true,true,true,true] λz h K=>hJ _ _ _ z _ ⟨rfl,rfl,trivial,(n.nil ([]:List Tg))⟩ K)))
 rintro P Y _ a1 _ ⟨rfl,rfl,_,j⟩;exact qE4 4 5 89 85 2 (a 2) 3 (a 3) (stA (Mm s ⟨1,c,q,d,v⟩)) #[iv 0,iv (NH s ⟨1,c,q,d,v⟩)] λK=>⟨rfl,Cg.af (((((((c1.trans D).trans F).trans G).trans I).trans M).trans i).trans j) (λ_ _=>P')⟩
theorem ip(s:Sto)(c d:Nat)(q v:Int)(w:World)(u:c<8)(W:d<8)(q0:0<=q)(q1:q<=1048576) :
  Calls prog 130 #[.agg (stA s),.agg #[iv 2,iv (c:Int),iv q,iv (d:Int),iv v]] w λe w'=>e=.returned (.tuple #[.agg (stA (Mm s ⟨2,c,q,d,v⟩)),.agg #[iv 0,iv (NH s ⟨2,c,q,d,v⟩)]])/\Bw w w':=by
 have p:∀ b,w.heap.size<=b->gS.t b=.z/\gS.k b=0:=λ_ _=>⟨rfl,rfl⟩;refine gI (fn:=f130) [] gS func130 p (qR [] 31 [1,0,0,0,1,0,1,0,1,0,1] λa O X c1=>Ct 48 (λg w' e L=>e=[(2,pt (a 0) 0),(3,pt (a 1) 0),(4,pt (a 2) 0),(5,pt (a 3) 0),(6,pt (a 4) 0)]/\L=[⟨(a 0),.cells (stA s) 89,.l,false⟩,⟨(a 1),.cells #[iv 2,iv (c:Int),iv q,iv (d:Int),iv v] 49,.z,false⟩,⟨(a 2),.cells (stA EB) 89,.l,false⟩,⟨(a 3),.cells #[iv 0,iv 0] 85,.l,false⟩,⟨(a 4),.cells #[iv 0,iv (s.V d)] 85,.l,false⟩]/\True/\Cg w.heap.size ([]:List Tg) O X g w') (by kernel_rfl) ?_ ?_)
 .intro J hJ;rcases lt8 W with rfl|rfl|rfl|rfl|rfl|rfl|rfl|rfl <;>
  (refine qR [] 8 [1,0,4,0] λa2 g3 w3 E=>?_;exact qB [true,true,true,true,true] λz h K=>hJ _ _ _ z _ ⟨rfl,rfl,trivial,(E.nil ([]:List Tg))⟩ K)
 rintro g2 w2 _ z2 _ ⟨rfl,rfl,_,D⟩;refine qR [] 7 [1,1] λa3 T w4 F=>qV 4 (iv (q+1)) (AU 37 q underlying3 (by omega)) (Ct 48 (λg w' e L=>e=[(2,pt (a 0) 0),(3,pt (a 1) 0),(4,pt (a 2) 0),(5,pt (a 3) 0),(6,pt (a 4) 0)]/\L=[⟨(a 0),.cells (stA (Sto.mk s.V (BC s.L c (q+1)) s.C s.A s.R)) 89,.l,false⟩,⟨(a 1),.cells #[iv 2,iv (c:Int),iv q,iv (d:Int),iv v] 49,.z,false⟩,⟨(a 2),.cells (stA EB) 89,.l,false⟩,⟨(a 3),.cells #[iv 0,iv 0] 85,.l,false⟩,⟨(a 4),.cells #[iv 0,iv (s.V d)] 85,.l,false⟩]/\True/\Cg w.heap.size ([]:List Tg) T w4 g w') (by kernel_rfl) ?_ ?_)
 .intro J hJ;rcases lt8 u with rfl|rfl|rfl|rfl|rfl|rfl|rfl|rfl <;>
  (refine qR [] 4 [0,0] λa4 g6 w6 H=>?_;exact qB [true,true,true,true,true] λz h K=>hJ _ _ _ z _ ⟨rfl,rfl,trivial,(H.nil ([]:List Tg))⟩ K)
 rintro g5 w5 _ z5 _ ⟨rfl,rfl,_,G⟩;refine qR [] 2 [] λa5 U w7 I=>Ct 48 (λg w' e L=>e=[(2,pt (a 0) 0),(3,pt (a 1) 0),(4,pt (a 2) 0),(5,pt (a 3) 0),(6,pt (a 4) 0)]/\L=[⟨(a 0),.cells (stA (Sto.mk s.V (BC s.L c (q+1)) (BC s.C c 0) (BC s.A c (s.V d)) s.R)) 89,.l,false⟩,⟨(a 1),.cells #[iv 2,iv (c:Int),iv q,iv (d:Int),iv v] 49,.z,false⟩,⟨(a 2),.cells (stA EB) 89,.l,false⟩,⟨(a 3),.cells #[iv 0,iv 0] 85,.l,false⟩,⟨(a 4),.cells #[iv 0,iv (s.V d)] 85,.l,false⟩]/\True/\Cg w.heap.size ([]:List Tg) U w7 g w') (by kernel_rfl) ?_ ?_
 .intro J hJ;rcases lt8 u with rfl|rfl|rfl|rfl|rfl|rfl|rfl|rfl <;>
  (refine qR [] 7 [1,4,0,0] λa6 g9 w9 N=>?_;exact qB [true,true,true,true,true] λz h K=>hJ _ _ _ z _ ⟨rfl,rfl,trivial,(N.nil ([]:List Tg))⟩ K)
 rintro g8 w8 _ z8 _ ⟨rfl,rfl,_,M⟩;refine qR [] 3 [2,0,0] λx o r i=>Ct 48 (λg w' e L=>e=[(2,pt (a 0) 0),(3,pt (a 1) 0),(4,pt (a 2) 0),(5,pt (a 3) 0),(6,pt (a 4) 0)]/\L=[⟨(a 0),.cells (stA (Sto.mk s.V (BC s.L c (q+1)) (BC s.C c 0) (BC s.A c (s.V d)) s.R)) 89,.l,false⟩,⟨(a 1),.cells #[iv 2,iv (c:Int),iv q,iv (d:Int),iv v] 49,.z,false⟩,⟨(a 2),.cells (stA (Sto.mk s.V (BC s.L c (q+1)) (BC s.C c 0) (BC s.A c (s.V d)) s.R)) 89,.l,false⟩,⟨(a 3),.cells #[iv 0,iv (s.V d)] 85,.l,false⟩,⟨(a 4),.cells #[iv 0,iv (s.V d)] 85,.l,false⟩]/\True/\Cg w.heap.size ([]:List Tg) o r g w') (by kernel_rfl) ?_ ?_
 .intro J hJ
  (exact Dp 1 2 (by kernel_rfl) (by(refine qR [] 4 [4,5,2,0,7,3,0] λy Q Z m=>?_;exact qB [true,true,true,true,true] λz h K=>hJ _ _ _ z _ ⟨rfl,rfl,trivial,(m.nil ([]:List Tg))⟩ K)) (by(refine qR [] 4 [2,0,3,4,7,3,0] λB S a0 n=>?_;exact qB [true,true,true,true,true] λz h K=>hJ _ _ _ z _ ⟨rfl,rfl,trivial,(n.nil ([]:List Tg))⟩ K)))
 rintro P Y _ a1 _ ⟨rfl,rfl,_,j⟩;exact qE4 4 5 89 85 2 (a 2) 3 (a 3) (stA (Mm s ⟨2,c,q,d,v⟩)) #[iv 0,iv (NH s ⟨2,c,q,d,v⟩)] λK=>⟨rfl,Cg.af (((((((c1.trans D).trans F).trans G).trans I).trans M).trans i).trans j) (λ_ _=>P')⟩
theorem iq(s:Sto)(c d:Nat)(q v:Int)(w:World)(u:c<8)(W:d<8)(q0:0<=q)(q1:q<=1048576) :
  Calls prog 130 #[.agg (stA s),.agg #[iv 3,iv (c:Int),iv q,iv (d:Int),iv v]] w λe w'=>e=.returned (.tuple #[.agg (stA (Mm s ⟨3,c,q,d,v⟩)),.agg #[iv 0,iv (NH s ⟨3,c,q,d,v⟩)]])/\Bw w w':=by
 have p:∀ b,w.heap.size<=b->gS.t b=.z/\gS.k b=0:=λ_ _=>⟨rfl,rfl⟩;refine gI (fn:=f130) [] gS func130 p (qR [] 37 [1,0,0,0,1,0,1,0,1,0,1] λa O X c1=>Ct 48 (λg w' e L=>e=[(2,pt (a 0) 0),(3,pt (a 1) 0),(4,pt (a 2) 0),(5,pt (a 3) 0),(6,pt (a 4) 0)]/\L=[⟨(a 0),.cells (stA ({ s with R:=BC s.R d true })) 89,.l,false⟩,⟨(a 1),.cells #[iv 3,iv (c:Int),iv q,iv (d:Int),iv v] 49,.z,false⟩,⟨(a 2),.cells (stA EB) 89,.l,false⟩,⟨(a 3),.cells #[iv 0,iv 0] 85,.l,false⟩,⟨(a 4),.cells #[iv 0,iv 0] 85,.l,false⟩]/\True/\Cg w.heap.size ([]:List Tg) O X g w') (by kernel_rfl) ?_ ?_)
 .intro J hJ;rcases lt8 W with rfl|rfl|rfl|rfl|rfl|rfl|rfl|rfl <;>
  (refine qR [] 6 [1,0,0] λa2 g3 w3 E=>?_;exact qB [true,true,true,true,true] λz h K=>hJ _ _ _ z _ ⟨rfl,rfl,trivial,(E.nil ([]:List Tg))⟩ K)
 rintro g2 w2 _ z2 _ ⟨rfl,rfl,_,D⟩;refine qR [] 7 [1,1] λa3 T w4 F=>qV 4 (iv (q+1)) (AU 37 q underlying3 (by omega)) (Ct 48 (λg w' e L=>e=[(2,pt (a 0) 0),(3,pt (a 1) 0),(4,pt (a 2) 0),(5,pt (a 3) 0),(6,pt (a 4) 0)]/\L=[⟨(a 0),.cells (stA (Sto.mk s.V (BC s.L c (q+1)) s.C s.A (BC s.R d true))) 89,.l,false⟩,⟨(a 1),.cells #[iv 3,iv (c:Int),iv q,iv (d:Int),iv v] 49,.z,false⟩,⟨(a 2),.cells (stA EB) 89,.l,false⟩,⟨(a 3),.cells #[iv 0,iv 0] 85,.l,false⟩,⟨(a 4),.cells #[iv 0,iv 0] 85,.l,false⟩]/\True/\Cg w.heap.size ([]:List Tg) T w4 g w') (by kernel_rfl) ?_ ?_)
 .intro J hJ;rcases lt8 u with rfl|rfl|rfl|rfl|rfl|rfl|rfl|rfl <;>
  (refine qR [] 4 [0,0] λa4 g6 w6 H=>?_;exact qB [true,true,true,true,true] λz h K=>hJ _ _ _ z _ ⟨rfl,rfl,trivial,(H.nil ([]:List Tg))⟩ K)
 rintro g5 w5 _ z5 _ ⟨rfl,rfl,_,G⟩;refine qR [] 2 [] λa5 U w7 I=>Ct 48 (λg w' e L=>e=[(2,pt (a 0) 0),(3,pt (a 1) 0),(4,pt (a 2) 0),(5,pt (a 3) 0),(6,pt (a 4) 0)]/\L=[⟨(a 0),.cells (stA (Sto.mk s.V (BC s.L c (q+1)) (BC s.C c 0) (BC s.A c 0) (BC s.R d true))) 89,.l,false⟩,⟨(a 1),.cells #[iv 3,iv (c:Int),iv q,iv (d:Int),iv v] 49,.z,false⟩,⟨(a 2),.cells (stA EB) 89,.l,false⟩,⟨(a 3),.cells #[iv 0,iv 0] 85,.l,false⟩,⟨(a 4),.cells #[iv 0,iv 0] 85,.l,false⟩]/\True/\Cg w.heap.size ([]:List Tg) U w7 g w') (by kernel_rfl) ?_ ?_
 .intro J hJ;rcases lt8 u with rfl|rfl|rfl|rfl|rfl|rfl|rfl|rfl <;>
  (refine qR [] 7 [1,4,0,0] λa6 g9 w9 N=>?_;exact qB [true,true,true,true,true] λz h K=>hJ _ _ _ z _ ⟨rfl,rfl,trivial,(N.nil ([]:List Tg))⟩ K)
 rintro g8 w8 _ z8 _ ⟨rfl,rfl,_,M⟩;refine qR [] 3 [2,0,0] λx o r i=>Ct 48 (λg w' e L=>e=[(2,pt (a 0) 0),(3,pt (a 1) 0),(4,pt (a 2) 0),(5,pt (a 3) 0),(6,pt (a 4) 0)]/\L=[⟨(a 0),.cells (stA (Sto.mk s.V (BC s.L c (q+1)) (BC s.C c 0) (BC s.A c 0) (BC s.R d true))) 89,.l,false⟩,⟨(a 1),.cells #[iv 3,iv (c:Int),iv q,iv (d:Int),iv v] 49,.z,false⟩,⟨(a 2),.cells (stA (Sto.mk s.V (BC s.L c (q+1)) (BC s.C c 0) (BC s.A c 0) (BC s.R d true))) 89,.l,false⟩,⟨(a 3),.cells #[iv 0,iv 0] 85,.l,false⟩,⟨(a 4),.cells #[iv 0,iv 0] 85,.l,false⟩]/\True/\Cg w.heap.size ([]:List Tg) o r g w') (by kernel_rfl) ?_ ?_
 .intro J hJ
  (exact Dp 1 2 (by kernel_rfl) (by(refine qR [] 4 [4,5,2,0,7,3,0] λy Q Z m=>?_;exact qB [true,true,true,true,true] λz h K=>hJ _ _ _ z _ ⟨rfl,rfl,trivial,(m.nil ([]:List Tg))⟩ K)) (by(refine qR [] 4 [2,0,3,4,7,3,0] λB S a0 n=>?_;exact qB [true,true,true,true,true] λz h K=>hJ _ _ _ z _ ⟨rfl,rfl,trivial,(n.nil ([]:List Tg))⟩ K)))
 rintro P Y _ a1 _ ⟨rfl,rfl,_,j⟩;exact qE4 4 5 89 85 2 (a 2) 3 (a 3) (stA (Mm s ⟨3,c,q,d,v⟩)) #[iv 0,iv (NH s ⟨3,c,q,d,v⟩)] λK=>⟨rfl,Cg.af (((((((c1.trans D).trans F).trans G).trans I).trans M).trans i).trans j) (λ_ _=>P')⟩
theorem XW(s:Sto)(k:Int)(a b:Nat)(q v:Int)(w:World)(j:1<=k/\k<=3)(c:a<8)(d:b<8)(f:0<=q)(g:q<=1048576)(i:Mm s ⟨k,a,q,b,v⟩=S)(h:NH s ⟨k,a,q,b,v⟩=A) :
  Calls prog 130 #[.agg (stA s),.agg #[iv k,iv (a:Int),iv q,iv (b:Int),iv v]] w λe w'=>e=.returned (.tuple #[.agg (stA S),.agg #[iv 0,iv A]])/\Bw w w':=by
 subst i h;rcases(show k=1\/k=2\/k=3 by omega)with rfl|rfl|rfl
 .exact io s a b q v w c d f g
 .exact ip s a b q v w c d f g
 .exact iq s a b q v w c d f g
theorem XB(s:Sto)(k:Int)(c d:Nat)(q v:Int)(w:World)(k0:0<=k)(k3:k<=3)(Q:c<8)(hn:d<8)(q0:0<=q)(q1:q<=1048576) :
  Calls prog 99 #[.agg (stA s),.agg #[iv k,iv (c:Int),iv q,iv (d:Int),iv v]] w λe w'=>e=.returned (.tuple #[.agg (stA (dnS s ⟨k,c,q,d,v⟩)),.agg #[iv (dnC s ⟨k,c,q,d,v⟩),iv (dnA s ⟨k,c,q,d,v⟩)]])/\Bw w w':=by
 have a3:∀ b,w.heap.size<=b->gS.t b=.z/\gS.k b=0:=λ_ _=>⟨rfl,rfl⟩;refine gI (fn:=f99) [] gS func99 a3 (qR [] 14 [0,0,0,0,1,0,1,0,1] λa g1 w1 c1=>?_);by_cases h:k=0
 .refine qI ((k==0)) true (by simpa using h) (qR [] 7 [0,2,0,3,0] λf2 g2 w2 c2=>?_);rw[show dnS s ⟨k,c,q,d,v⟩=s from if_neg (λg=>g.1 h),show dnC s ⟨k,c,q,d,v⟩=0 from if_pos h,show dnA s ⟨k,c,q,d,v⟩=0 from if_pos h];exact qE4 4 5 89 85 2 (a 2) 3 (a 3) (stA s) #[iv 0,iv 0] λK=>⟨rfl,Cg.af (c1.trans c2) (λ_ _=>P')⟩
 .refine qI ((k==0)) false (by simpa using h) (qR [] 3 [] λf3 g3 w3 F=>Ct 49 (λM w' e L=>e=[(2,pt (a 0) 0),(3,pt (a 1) 0),(4,pt (a 2) 0),(5,pt (a 3) 0),(6,iv (s.L c))]/\L=[⟨(a 0),.cells (stA s) 89,.z,false⟩,⟨(a 1),.cells #[iv k,iv (c:Int),iv q,iv (d:Int),iv v] 49,.z,false⟩,⟨(a 2),.cells (stA EB) 89,.l,false⟩,⟨(a 3),.cells #[iv 0,iv 0] 85,.l,false⟩]/\True/\Cg w.heap.size ([]:List Tg) g3 w3 M w') (by kernel_rfl) ?_ ?_)
  .intro J hJ;rcases lt8 Q with rfl|rfl|rfl|rfl|rfl|rfl|rfl|rfl <;>
   (refine qR [] 7 [1,0] λf4 g5 w5 c5=>?_;exact qB [true,true,true,true] λz P K=>hJ _ _ _ z _ ⟨rfl,rfl,trivial,(c5.nil ([]:List Tg))⟩ K)
  rintro g4 w4 _ z4 _ ⟨rfl,rfl,_,G⟩;refine qR [] 7 [1] λf5 g6 w6 H=>qV 3 (iv (q+1)) (AU 20 q underlying3 (by omega)) (qR [] 3 [] λf6 g7 w7 I=>?_);by_cases i:s.L c=q+1
  .refine qI (((s.L c)==(q+1))) true (by simpa using i) (qR [] 2 [6] λf7 g8 w8 c8=>Ct 49 (λM w' e L=>e=[(2,pt (a 0) 0),(3,pt (a 1) 0),(4,pt (a 2) 0),(5,pt (a 3) 0)]/\L=[⟨(a 0),.cells (stA s) 89,.z,false⟩,⟨(a 1),.cells #[iv k,iv (c:Int),iv q,iv (d:Int),iv v] 49,.z,false⟩,⟨(a 2),.cells (stA s) 89,.l,false⟩,⟨(a 3),.cells #[iv (s.C c),iv (s.A c)] 85,.l,false⟩]/\True/\Cg w.heap.size ([]:List Tg) g8 w8 M w') (by kernel_rfl) ?_ ?_)
   .intro J hJ;rcases lt8 Q with rfl|rfl|rfl|rfl|rfl|rfl|rfl|rfl <;>
    (refine qR [] 3 [0,0,2,6] λa7 b9 d9 p=>?_;exact Dp 2 6 (by kernel_rfl) (by(refine qR [] 2 [1,8] λa8 c0 e0 D=>?_;exact Dp 5 6 (by kernel_rfl) (by(refine qR [] 4 [0,13,2,0,15,3,0] λa9 d0 e1 U=>?_;exact qB [true,true,true,true] λz P K=>hJ _ _ _ z _ ⟨rfl,rfl,trivial,(((p.nil ([]:List Tg)).n D).n U)⟩ K)) (by(refine qR [] 4 [2,0,11,0,15,3,0] λb0 d1 e2 V=>?_;exact qB [true,true,true,true] λz P K=>hJ _ _ _ z _ ⟨rfl,rfl,trivial,(((p.nil ([]:List Tg)).n D).n V)⟩ K)))) (by(refine qR [] 6 [2,0,5,1,8,11,0,15,3,0] λb1 d2 e3 W=>?_;exact qB [true,true,true,true] λz P K=>hJ _ _ _ z _ ⟨rfl,rfl,trivial,((p.nil ([]:List Tg)).n W)⟩ K)))
   rintro g9 w9 _ z9 _ ⟨rfl,rfl,_,c9⟩;rw[show dnS s ⟨k,c,q,d,v⟩=s from if_neg (λg=>g.2.1 (by show q<s.L c;omega)),show dnC s ⟨k,c,q,d,v⟩=s.C c from(if_neg h).trans (if_pos i),show dnA s ⟨k,c,q,d,v⟩=s.A c from(if_neg h).trans (if_pos i)];exact qE4 4 5 89 85 2 (a 2) 3 (a 3) (stA s) #[iv (s.C c),iv (s.A c)] λK=>⟨rfl,Cg.af ((((((c1.trans F).trans G).trans H).trans I).trans c8).trans c9) (λ_ _=>P')⟩
  .refine qI (((s.L c)==(q+1))) false (by simpa using i) (qR [] 8 [1] λb2 d3 e4 m=>?_);by_cases j:q<s.L c
   .refine qI ((decide (q<(s.L c)))) true (M' j) (qR [] 7 [0,2,0,3,0] λb3 d4 e5 X=>?_);rw[show dnS s ⟨k,c,q,d,v⟩=s from if_neg (λg=>g.2.1 j),show dnC s ⟨k,c,q,d,v⟩=7 from(if_neg h).trans ((if_neg i).trans (if_pos j)),show dnA s ⟨k,c,q,d,v⟩=0 from(if_neg h).trans ((if_neg i).trans (if_pos j))];exact qE4 4 5 89 85 2 (a 2) 3 (a 3) (stA s) #[iv 7,iv 0] λK=>⟨rfl,Cg.af ((((((c1.trans F).trans G).trans H).trans I).trans m).trans X) (λ_ _=>P')⟩
   .refine qI ((decide (q<(s.L c)))) false (D' j) (qR [] 2 [] λb4 a2 a4 r=>Ct 49 (λM w' e L=>e=[(2,pt (a 0) 0),(3,pt (a 1) 0),(4,pt (a 2) 0),(5,pt (a 3) 0),(36,.bool (s.R c))]/\L=[⟨(a 0),.cells (stA s) 89,.z,false⟩,⟨(a 1),.cells #[iv k,iv (c:Int),iv q,iv (d:Int),iv v] 49,.z,false⟩,⟨(a 2),.cells (stA EB) 89,.l,false⟩,⟨(a 3),.cells #[iv 0,iv 0] 85,.l,false⟩]/\True/\Cg w.heap.size ([]:List Tg) a2 a4 M w') (by kernel_rfl) ?_ ?_)
    .intro J hJ;rcases lt8 Q with rfl|rfl|rfl|rfl|rfl|rfl|rfl|rfl <;>
     (refine qR [] 7 [1,0] λb5 d6 e7 Y=>?_;exact qB [true,true,true,true] λz P K=>hJ _ _ _ z _ ⟨rfl,rfl,trivial,(Y.nil ([]:List Tg))⟩ K)
    rintro d5 e6 _ f1 _ ⟨rfl,rfl,_,u⟩;by_cases o:s.R c=true
    .refine qI ((s.R c)) true o (qR [] 7 [0,2,0,3,0] λb6 d7 e8 Z=>?_);rw[show dnS s ⟨k,c,q,d,v⟩=s from if_neg (λg=>Bool.noConfusion (o.symm.trans g.2.2)),show dnC s ⟨k,c,q,d,v⟩=11 from(if_neg h).trans ((if_neg i).trans ((if_neg j).trans (if_pos o))),show dnA s ⟨k,c,q,d,v⟩=0 from(if_neg h).trans ((if_neg i).trans ((if_neg j).trans (if_pos o)))];exact qE4 4 5 89 85 2 (a 2) 3 (a 3) (stA s) #[iv 11,iv 0] λK=>⟨rfl,Cg.af ((((((((c1.trans F).trans G).trans H).trans I).trans m).trans r).trans u).trans Z) (λ_ _=>P')⟩
    .refine qI ((s.R c)) false (by simpa using o) ?_;obtain⟨S,hS⟩:∃ S,Mm s ⟨k,c,q,d,v⟩=S:=⟨_,rfl⟩;obtain⟨A,hA⟩:∃ A,NH s ⟨k,c,q,d,v⟩=A:=⟨_,rfl⟩;refine qR [] 6 [0,1] λb7 N O E=>?_;have a5:=(Cg.af ((((((((c1.trans F).trans G).trans H).trans I).trans m).trans r).trans u).trans E) (λ_ _=>P'));refine Af λx=>?_;have a6:∀ z,O.heap.size<=z->N.t z=.z:=λz hz=>(x.new z hz).1;refine qC 2 (XW s k c d q v O (by omega) Q hn q0 q1 hS hA) ?_;rintro e' e9 ⟨rfl,y⟩;refine⟨_,rfl,y,?_⟩;have a0:=Cg.ed (B:=w.heap.size) (T:=[]) (g:=N) y;refine qR [] 5 [2,0,3,0] λb8 d8 f0 a1=>?_;rw[show dnS s ⟨k,c,q,d,v⟩=S from(if_pos ⟨h,j,by simpa using o⟩).trans hS,show dnC s ⟨k,c,q,d,v⟩=0 from(if_neg h).trans ((if_neg i).trans ((if_neg j).trans (if_neg o))),show dnA s ⟨k,c,q,d,v⟩=A from(if_neg h).trans ((if_neg i).trans ((if_neg j).trans ((if_neg o).trans hA)))];exact qE4 4 5 89 85 2 (a 2) 3 (a 3) (stA S) #[iv 0,iv A] λK=>⟨rfl,Cg.af ((((((((((c1.trans F).trans G).trans H).trans I).trans m).trans r).trans u).trans E).trans a0).trans a1) (λ_ _=>P')⟩
theorem cK{s:Sto}(j:m.e=0)(i:dnS s m=S){C:Int}(h:dnC s m=C)(g:dnA s m=A) :
  Calls prog 99 #[.agg (stA s),.agg #[iv m.k,iv m.c,iv m.s,iv m.n,iv m.v]] w λe w'=>e=.returned (.tuple #[.agg (stA S),.agg #[iv C,iv A]])/\Bw w w':=by
 subst i h g;obtain⟨k,c,q,n,v⟩:=m;obtain⟨b,f⟩:=UE j;unfold InC at f;simp only at b f ⊢;obtain⟨a,rfl⟩:∃ a:Nat,c=(a:Int):=⟨c.toNat,by omega⟩;obtain⟨d,rfl⟩:∃ d:Nat,n=(d:Int):=⟨n.toNat,by omega⟩;exact XB s k a d q v w b.1 b.2 (by omega) (by omega) (by omega) (by omega)
theorem XA{s:Sto}(a:NT s=E):Calls prog 98 #[.agg (stA s)] w λe w'=>e=.returned (iv E)/\Bw w w':=by subst a;exact Uu s w
theorem WJ(b:NTab w)(a:m.e=E):Calls prog 76 #[.agg #[iv m.k,iv m.c,iv m.s,iv m.n,iv m.v]] w λe w'=>e=.returned (iv E)/\Bw w w':=by subst a;exact Es m.k m.c m.s m.n m.v w b
theorem mg(s:Sto)(m:Cmd)(w:World)(hN:NTab w) :
  Calls prog 53 #[.agg (stA s),.agg #[iv m.k,iv m.c,iv m.s,iv m.n,iv m.v]] w λe w'=>e=.returned (.tuple #[.agg (stA (doS s m)),.agg #[iv (doC s m),iv (doA s m)],iv (doE s m)])/\Bw w w':=by
 obtain⟨E,j⟩:∃ E,NT s=E:=⟨_,rfl⟩;obtain⟨F,X⟩:∃ F,m.e=F:=⟨_,rfl⟩;have Y:∀ b,w.heap.size<=b->gS.t b=.z/\gS.k b=0:=λ_ _=>⟨rfl,rfl⟩;refine gI (fn:=f53) [] gS func53 Y (qR [] 12 [0,0,0,0,1,0,1,0,0] λa g1 w1 c1=>?_);have a4:=(Cg.af c1 (λ_ _=>P'));refine Af λH=>?_;have a8:∀ z,w1.heap.size<=z->g1.t z=.z:=λz y=>(H.new z y).1;refine qC 1 (XA j) ?_;rintro e' w2 ⟨rfl,b2⟩;refine⟨_,rfl,b2,?_⟩;have q:=Cg.ed (B:=w.heap.size) (T:=[]) (g:=g1) b2;refine qR [] 7 [] λb7 g3 w3 r=>?_;by_cases u:E≠0
 .refine qI ((E != 0)) true (by simpa using u) (qR [] 9 [2,0,3,0] λb8 g4 w4 c4=>?_);have h:doE s m=E:=by unfold doE;unfold NT at j;split at j;exact absurd j.symm u;rename_i g;rw[if_neg g];exact j
  have d:doE s m≠0:=by rw[h];exact u
  rw[YA d,Y6 d,show doA s m=0 from if_neg d,h];exact qE5 4 5 6 89 85 2 (a 2) 3 (a 3) (stA EB) #[iv 0,iv 0] (iv E) λK=>⟨rfl,(Cg.af (((c1.trans q).trans r).trans c4) (λ_ _=>P'))⟩
 .refine qI ((E != 0)) false (by simpa using u) ?_;have hB:I7 s:=pT λg=>absurd (j.symm.trans (Lq g)) (by rw[show E=0 from by simpa using u];decide);refine qR [] 5 [1] λb9 g5 w5 D=>?_;have M:=(Cg.af (((c1.trans q).trans r).trans D) (λ_ _=>P'));refine Af λI=>?_;have a9:∀ z,w5.heap.size<=z->g5.t z=.z:=λz y=>(I.new z y).1;refine qC 1 (WJ (hN.af M) X) ?_;rintro e' w6 ⟨rfl,b6⟩;refine⟨_,rfl,b6,?_⟩;have U:=Cg.ed (B:=w.heap.size) (T:=[]) (g:=g5) b6;refine qR [] 7 [] λc0 g7 w7 V=>?_;by_cases G:F≠0
  .refine qI ((F != 0)) true (by simpa using G) (qR [] 9 [2,0,3,0] λd0 g8 w8 c8=>?_);have h:doE s m=F:=(if_pos hB).trans X;have d:doE s m≠0:=by rw[h];exact G
   rw[YA d,Y6 d,show doA s m=0 from if_neg d,h];exact qE5 4 5 6 89 85 2 (a 2) 3 (a 3) (stA EB) #[iv 0,iv 0] (iv F) λK=>⟨rfl,(Cg.af ((((((c1.trans q).trans r).trans D).trans U).trans V).trans c8) (λ_ _=>P'))⟩
  .refine qI ((F != 0)) false (by simpa using G) ?_;have x:m.e=0:=by rw[X];simpa using G
   have h:doE s m=0:=(if_pos hB).trans x;obtain⟨S,hS⟩:∃ S,dnS s m=S:=⟨_,rfl⟩;obtain⟨C,hC⟩:∃ C,dnC s m=C:=⟨_,rfl⟩;obtain⟨A,hA⟩:∃ A,dnA s m=A:=⟨_,rfl⟩;refine qR [] 5 [0,1] λd1 g9 w9 c9=>?_;have a0:=(Cg.af ((((((c1.trans q).trans r).trans D).trans U).trans V).trans c9) (λ_ _=>P'));refine Af λo=>?_;have a1:∀ z,w9.heap.size<=z->g9.t z=.z:=λz y=>(o.new z y).1;refine qC 2 (cK x hS hC hA) ?_;rintro e' b0 ⟨rfl,p⟩;refine⟨_,rfl,p,?_⟩;have N:=Cg.ed (B:=w.heap.size) (T:=[]) (g:=g9) p;refine qR [] 11 [0,0,0,0,4,0,5,0,2,0,4] λi W Z O=>Ct 33 (λg' w' e L=>e=[(4,pt (a 2) 0),(5,pt (a 3) 0),(6,iv 0)]/\L=[⟨(a 0),.cells (stA s) 89,.z,false⟩,⟨(a 1),.cells #[iv m.k,iv m.c,iv m.s,iv m.n,iv m.v] 49,.z,false⟩,⟨(a 2),.cells (stA S) 89,.l,false⟩,⟨(a 3),.cells #[iv C,iv A] 85,.l,false⟩,⟨(i 0),.cells (stA S) 89,.z,false⟩,⟨(i 1),.cells #[iv C,iv A] 85,.z,false⟩]/\True/\Cg w.heap.size ([]:List Tg) W Z g' w') (by kernel_rfl) ?_ ?_
   .intro J hJ
    (exact Dp 1 2 (by kernel_rfl) (by(refine qR [] 5 [5,5,2,0,7,3,0,8] λa2 a6 b3 Q=>?_;exact qB [true,true,true,true,true,true] λz K0 K=>hJ _ _ _ z _ ⟨rfl,rfl,trivial,(Q.nil ([]:List Tg))⟩ K)) (by(refine qR [] 5 [2,0,3,5,7,3,0,8] λa3 a7 b4 R=>?_;exact qB [true,true,true,true,true,true] λz K0 K=>hJ _ _ _ z _ ⟨rfl,rfl,trivial,(R.nil ([]:List Tg))⟩ K)))
   rintro a5 b1 _ b5 _ ⟨rfl,rfl,_,P⟩;rw[SE h,iE h,iD h,h,hS,hC,hA];exact qE5 4 5 6 89 85 2 (a 2) 3 (a 3) (stA S) #[iv C,iv A] (iv 0) λK=>⟨rfl,(Cg.af (((((((((c1.trans q).trans r).trans D).trans U).trans V).trans c9).trans N).trans O).trans P) (λ_ _=>P'))⟩
theorem DF(s:Sto)(k c q n v:Int)(w:World)(a:NTab w) :
  Calls prog 53 #[.agg (stA s),.agg (cmA k c q n v)] w λe w'=>e=.returned (.tuple #[.agg (stA (doS s ⟨k,c,q,n,v⟩)),.agg #[.int .i64 (doC s ⟨k,c,q,n,v⟩),.int .i64 (doA s ⟨k,c,q,n,v⟩)],.int .i64 (doE s ⟨k,c,q,n,v⟩)])/\Bw w w':=mg s ⟨k,c,q,n,v⟩ w a
theorem ZR{v:Value}{l:List Int}{a:Int}(h:Sl w v l)(f:AJ w)(j:CW w)(d:NTab w)(i:opE l a=e0)(g:Hr l a=c) :
  Calls prog 51 #[v,iv a] w λe w'=>e=.returned (.tuple #[.agg #[iv c.k,iv c.c,iv c.s,iv c.n,iv c.v],iv e0])/\Bw w w':=by
 have b:=WC v l a w h f j d;rw[jl,i,g]at b
 exact b
theorem Xp(h:NS i nb ob g w p ls ts)(F:Base w0 g w)(C:Tabs w0)(dv:S3)(u:List Int)(hd:Sl w dv.v u)(a8:NOk n p)(f7:p.bad<100000000)(hw:p.br.length<100000000)(e7:ts.length<100000000)(he:opE u (p.done:Int)=e0)(hc:Hr u (p.done:Int)=c) :
  Calls prog 26 #[pt nb 0,dv.v] w (NP i nb ob g w (.tuple #[]) (p.sm i e0 c ts).1 ls (p.sm i e0 c ts).2):=by
 obtain⟨x,lt,tl,G,H,hg⟩:=h;have e6:=a8.dn;have i5:=a8.ag;refine gI (fn:=f26) (TN i) g func26 hg (qN G (qO H (qR [] 9 [0] λs1 g1 w1 c1=>?_)));by_cases h1:p.up=true
 .refine qI ((!p.up)) false (by simpa using h1) ?_;have r:¬ p.up=false:=by simp[h1]
  refine qR [] 9 [0] λs2 g2 w2 m=>?_;have E:=F.ch (c1.trans m);have e5:=Cg.af (c1.trans m) (λ_ _=>P');refine qC 6 (ZR (hd.af e5) (E.tt C) (E.tq C) (E.tn C) he hc) ?_;rintro D w3 ⟨rfl,b3⟩;refine⟨_,rfl,b3,?_⟩;have o:=Cg.ed (B:=w.heap.size) (T:=[]) (g:=g2) b3;refine qR [] 13 [0,0,2,0] λs4 g4 w4 q=>?_;by_cases h2:e0≠0
  .refine qI ((e0 != 0)) true (by simpa using h2) (qR [] 6 [0] λs5 g5 w5 c5=>qV 4 (iv ((p.bad+1:Nat):Int)) (AU 29 (p.bad:Int) underlying3 (by omega)) (qR [.n 0 i] 4 [0,1] λs6 g6 w6 c6=>qE (.tuple #[]) λK=>?_));rw[show p.sm i e0 c ts=({ p with bad:=p.bad+1 },ts)from(if_neg r).trans (if_pos h2)];have C7:=(((((c1.nil ([.n 0 i]:List Tg)).n m).n o).n q).n c5).trans (c6);exact⟨_,rfl,⟨x,lt,tl,K.tM 0 G C7,H.ch C7 (hn:=by simp<;>omega),K.new⟩,((((((c1.nil (TN i)).n m).n o).n q).n c5).trans (c6.mono (by simp[TN])))⟩
  .refine qI ((e0 != 0)) false (by simpa using h2) (qR [] 6 [4,0,4,2] λs8 g8 w8 t=>Af λK=>?_);have b5:NS i nb ob g8 w8 p ls ts:=(nsC G H ((((c1.n m).n o).n q).n t) K);refine qC 1 (UY b5 e6) ?_;rintro D j5 ⟨l8,rfl,a9,M⟩;refine⟨_,rfl,M,?_⟩;have a:=Cg.ed (B:=w.heap.size) (T:=[]) (g:=g8) M;refine qC 3 (F8 (l:=p.ae.take p.done) a9 (by rw[X'];omega) c) ?_;rintro D j6 ⟨rfl,N⟩;refine⟨_,rfl,N,?_⟩;have b:=Cg.ed (B:=w.heap.size) (T:=[]) (g:=g8) N;refine qR [] 1 [] λi6 g7 j7 d=>?_;by_cases h3:c∈p.ae.take p.done
   .refine qI ((decide (c∈p.ae.take p.done))) true (by simpa using h3) (qR [] 8 [16,0,2,4,6,8,0,10,2] λi7 d9 f2 j=>Ct 55 (λg' w' e L=>∃ (b6 b7:Nat),e=[(0,pt nb 0),(4,pt (s4 0) 0),(6,pt b6 0),(7,pt b7 0)]/\L=[⟨nb,.cells (AG i ob p x) 97,.n 0 i,false⟩,⟨ob,.cells #[S3.v lt,S3.v tl] 67,.n 50 0,false⟩,⟨(s4 0),.cells #[iv c.k,iv c.c,iv c.s,iv c.n,iv c.v] 49,.z,false⟩,⟨b6,.cells (stA (doS p.ni c)) 89,.l,false⟩,⟨b7,.cells #[iv (doC p.ni c),iv (doA p.ni c)] 85,.l,false⟩]/\Cg w.heap.size [] g w g' w') (by kernel_rfl) ?_ ?_)
    .intro J hJ;refine YX 6 11 12 (by kernel_rfl) ?_ ?_ ?_
     .have hB18:=F.ch ((((((((c1.trans m).trans o).trans q).trans t).trans a).trans b).trans d).trans j) (by simp);refine qC 6 (DF p.ni c.k c.c c.s c.n c.v f2 (hB18.tn C)) ?_;rintro D j8 ⟨rfl,O⟩;refine⟨_,rfl,O,?_⟩;have U:=Cg.ed (B:=w.heap.size) (T:=[]) (g:=d9) O;refine qR [] 4 [14,16,18,20] λi8 g9 j9 V=>Dp 11 12 (by kernel_rfl) ?_ ?_
      .refine qR [] 6 [1,0,25,1,0,27,3,0,29,4,0,30] λb0 h0 k0 c0=>qB [true,true,true,true,true] λz I K=>hJ _ _ _ z _ ⟨(b0 0),(b0 1),rfl,rfl,(((((((((((c1.trans m).trans o).trans q).trans t).trans a).trans b).trans d).trans j).trans U).trans V).trans c0)⟩ K
      .refine qR [] 6 [1,0,23,1,0,27,4,0,29,3,0,30] λb1 h4 k1 c7=>Ow ?_;exact qB [true,true,true,true,true] λz I K=>hJ _ _ _ z _ ⟨(b1 1),(b1 0),rfl,rfl,(((((((((((c1.trans m).trans o).trans q).trans t).trans a).trans b).trans d).trans j).trans U).trans V).trans c7)⟩ K
     .refine qR [] 1 [1,0] λb2 e1 f3 y=>Dp 6 12 (by kernel_rfl) ?_ ?_
      .have hB25:=F.ch (((((((((c1.trans m).trans o).trans q).trans t).trans a).trans b).trans d).trans j).trans y) (by simp);refine qC 6 (DF p.ni c.k c.c c.s c.n c.v f3 (hB25.tn C)) ?_;rintro D k2 ⟨rfl,P⟩;refine⟨_,rfl,P,?_⟩;have c9:=Cg.ed (B:=w.heap.size) (T:=[]) (g:=e1) P;refine qR [] 9 [14,16,18,20,25,1,0,27,3,0,29,4,0,30] λe8 h5 k3 d0=>qB [true,true,true,true,true] λz I K=>hJ _ _ _ z _ ⟨(b2 0),(e8 0),rfl,rfl,(((((((((((c1.trans m).trans o).trans q).trans t).trans a).trans b).trans d).trans j).trans y).trans c9).trans d0)⟩ K
      .refine qR [] 1 [1,0] λe9 e2 f4 W=>?_;have a2:=F.ch ((((((((((c1.trans m).trans o).trans q).trans t).trans a).trans b).trans d).trans j).trans y).trans W) (by simp);refine qC 6 (DF p.ni c.k c.c c.s c.n c.v f4 (a2.tn C)) ?_;rintro D k4 ⟨rfl,Q⟩;refine⟨_,rfl,Q,?_⟩;have d1:=Cg.ed (B:=w.heap.size) (T:=[]) (g:=e2) Q;refine qR [] 8 [14,16,18,20,27,3,0,29,4,0,30] λi9 h6 k5 d2=>qB [true,true,true,true,true] λz I K=>hJ _ _ _ z _ ⟨(b2 0),(e9 0),rfl,rfl,((((((((((((c1.trans m).trans o).trans q).trans t).trans a).trans b).trans d).trans j).trans y).trans W).trans d1).trans d2)⟩ K
     .refine qR [] 1 [1,0] λb4 e3 f5 A=>Dp 6 11 (by kernel_rfl) ?_ ?_
      .have hB34:=F.ch (((((((((c1.trans m).trans o).trans q).trans t).trans a).trans b).trans d).trans j).trans A) (by simp);refine qC 6 (DF p.ni c.k c.c c.s c.n c.v f5 (hB34.tn C)) ?_;rintro D k6 ⟨rfl,R⟩;refine⟨_,rfl,R,?_⟩;have d3:=Cg.ed (B:=w.heap.size) (T:=[]) (g:=e3) R;refine qR [] 9 [14,16,18,20,23,1,0,27,4,0,29,3,0,30] λf0 h7 k7 d4=>Ow ?_;exact qB [true,true,true,true,true] λz I K=>hJ _ _ _ z _ ⟨(f0 0),(b4 0),rfl,rfl,(((((((((((c1.trans m).trans o).trans q).trans t).trans a).trans b).trans d).trans j).trans A).trans d3).trans d4)⟩ K
      .refine qR [] 1 [1,0] λf1 e4 f6 X=>?_;have a3:=F.ch ((((((((((c1.trans m).trans o).trans q).trans t).trans a).trans b).trans d).trans j).trans A).trans X) (by simp);refine qC 6 (DF p.ni c.k c.c c.s c.n c.v f6 (a3.tn C)) ?_;rintro D k8 ⟨rfl,S⟩;refine⟨_,rfl,S,?_⟩;have d5:=Cg.ed (B:=w.heap.size) (T:=[]) (g:=e4) S;refine qR [] 8 [14,16,18,20,27,4,0,29,3,0,30] λj0 h8 k9 d6=>Ow ?_;exact qB [true,true,true,true,true] λz I K=>hJ _ _ _ z _ ⟨(f1 0),(b4 0),rfl,rfl,((((((((((((c1.trans m).trans o).trans q).trans t).trans a).trans b).trans d).trans j).trans A).trans X).trans d5).trans d6)⟩ K
    .rintro g16 w16 _ z16 _ ⟨b6,b7,rfl,rfl,hcc⟩;refine qR [] 5 [2,4] λj1 h9 l0 Y=>?_;rw[show p.sm i e0 c ts=(p,(ts++[⟨i,c.c,c.s,doC p.ni c,doA p.ni c⟩]))from(if_neg r).trans ((if_neg h2).trans (if_pos h3))];refine qS 3 [false,false,true,true,true] G H (hcc.n Y) (λb8=>RO b8 e7 c (doC p.ni c) (doA p.ni c)) λi0 l1 l6 f8 g0 a4 a6 d7=>qR [] 1 [] λj2 i1 l2 Z=>qF a4 a6 Z ((((hcc.nil (TN i)).n Y).trans (d7)).n Z)
   .refine qI ((decide (c∈p.ae.take p.done))) false (by simpa using h3) (qR [] 4 [2] λj3 i2 l3 a0=>?_);rw[show p.sm i e0 c ts=(p.want c,ts)from(if_neg r).trans ((if_neg h2).trans (if_neg h3))];refine qS 2 [false,false,true] G H ((((((((c1.n m).n o).n q).n t).n a).n b).n d).n a0) (λb9=>cQ b9 h1 hw c) λi3 l4 l7 f9 g3 a5 a7 d8=>qR [] 1 [] λj4 i4 l5 a1=>qF a5 a7 a1 (((((((((((c1.nil (TN i)).n m).n o).n q).n t).n a).n b).n d).n a0).trans (d8)).n a1)
 .refine qI ((!p.up)) true (by simpa using h1) (qE (.tuple #[]) λK=>?_);rw[show p.sm i e0 c ts=(p,ts)from if_pos (by simpa using h1)];exact⟨_,rfl,(nsC G H c1 K),(c1.nil (TN i))⟩
def Qw(Q:Nat->Bool):Nat->Nat
 | 0=>0
 | k+1=>Qw Q k+(Q k).toNat
theorem kw(Q:Nat->Bool):Qw Q 5=J8 Q:=by simp only[Qw,J8];omega
theorem dm(Q:Nat->Bool)(k:Nat):Qw Q k<=k:=by
 induction k with
 | zero=>exact A' _
 | succ k ih=>simp only[Qw];cases Q k<;>simp<;>omega
theorem mD{P:Program}{x y:Operand}{t:TypeId}(a b:Int)(d:P.underlying t=some (.int .i64))(h:-9223372036854775808<=a*b/\a*b<=9223372036854775807):(do Go.eqGuard .mul t x y (iv a) (iv b);Go.binOp .mul t (iv a) (iv b):Sem Value).run P W=.ok (iv (a*b)) W:=by
 have c:IntKind.i64.wrap (a*b)=a*b:=by rw[IntKind.wrap_i64];omega
 simp[Go.eqGuard,Go.binOp,go_sem,c]
theorem SK(h:NS i nb ob g w p ls ts) :
  Calls prog 104 #[pt nb 11] w λe w'=>e=.returned (.bool p.bn.rX)/\Bw w w':=by
 obtain⟨x,lt,tl,D,E,F⟩:=h;refine gI (fn:=f104) (TN i) g func104 F (qN D (qO E (qR [] 18 [0] λX O w1 c1=>Ce 20 [(3,iv 0),(9,.agg #[.bool (p.bn.rk 0),.bool (p.bn.rk 1),.bool (p.bn.rk 2),.bool (p.bn.rk 3),.bool (p.bn.rk 4)]),(10,iv 0)] [false,false] [] (λk v w' e L=>∃ (k0 c:Nat),c=Qw p.bn.rk k0/\k=5-k0/\k0<=5/\e=[(3,iv (c:Int)),(9,.agg #[.bool (p.bn.rk 0),.bool (p.bn.rk 1),.bool (p.bn.rk 2),.bool (p.bn.rk 3),.bool (p.bn.rk 4)]),(10,iv (k0:Int))]/\L=[]/\Cg w.heap.size [] g w v w') (by kernel_rfl) (by kernel_rfl) (by kernel_rfl) (by kernel_rfl) 5 (λK=>?_) ?_)))
 .exact⟨0,0,rfl,rfl,by omega,rfl,rfl,c1⟩
 .rintro k gr wr _ zr _ ⟨k0,c,hc,rfl,hk0,rfl,rfl,hC⟩ J hJ;have l:=dm p.bn.rk k0;refine qR [] 5 [] λY P w2 j=>?_;by_cases C:k0<5
  .refine qI ((decide ((k0:Int)<5))) true (M' (by omega)) (qR [] 5 [] λs3 Q w3 m=>?_);refine dU 0 (.bool (p.bn.rk k0)) (λK=>(by rcases rU C with rfl|rfl|rfl|rfl|rfl<;>kernel_rfl)) (by kernel_rfl) ?_;refine qR [] 6 [] λZ R w4 n=>?_;by_cases a:p.bn.rk k0=true
   .refine qI ((p.bn.rk k0)) true a (qR [] 2 [] λs5 S w5 q=>qV 1 (iv ((c:Int)+1)) (AU 14 (c:Int) underlying3 (by omega)) (qR [] 4 [] λs6 T w6 r=>qV 0 (iv ((k0:Int)+1)) (AU 10 (k0:Int) underlying3 (by omega)) (qR [] 2 [] λs7 U w7 s=>qB [] λz o K=>hJ (5-(k0+1)) _ _ _ z _ (by omega) ⟨k0+1,(c+1),by simp only[Qw];rw[a,hc];rfl,rfl,by omega,rfl,rfl,hC.trans (((((j.trans m).trans n).trans q).trans r).trans s)⟩ K)))
   .refine qI ((p.bn.rk k0)) false (by simpa using a) (qR [] 3 [] λs8 V w8 t=>qV 0 (iv ((k0:Int)+1)) (AU 10 (k0:Int) underlying3 (by omega)) (qR [] 2 [] λs9 W w9 u=>qB [] λz o K=>hJ (5-(k0+1)) _ _ _ z _ (by omega) ⟨k0+1,c,by simp only[Qw];rw[(by simpa using a:p.bn.rk k0=false),hc];rfl,rfl,by omega,rfl,rfl,hC.trans ((((j.trans m).trans n).trans t).trans u)⟩ K))
  .refine qI ((decide ((k0:Int)<5))) false (D' (by omega)) ?_;obtain rfl:k0=5:=by omega
   rw[kw]at hc l
   refine qR [] 4 [] λH A M b=>qV 1 (iv (2*(c:Int))) (mD (x:=(.const (iv 2))) (y:=(.tmp 17)) 2 (c:Int) underlying3 (by omega)) (qR [] 3 [] λI B N d=>?_);rw[show p.bn.rX=decide ((5:Int)<2*(c:Int))from by unfold Rnd.rX;rw[<- hc];by_cases G:5<2*c<;>simp[G]<;>omega];exact qE (.bool (decide ((5:Int)<2*(c:Int)))) λK=>⟨rfl,Cg.af (hC.trans ((j.trans b).trans d)) (λ_ _=>P')⟩
structure Svv(w:World)(x:Value)(ls:List (List Vt)):Prop where
 ex:∃ a cap,x=.slice a ls.length cap/\(ls=[]\/∃ b off,a=some ⟨b,off,none⟩/\b<w.heap.size/\∀ (i:Nat) (l:List Vt),ls[i]?=some l->∃ y,w.cell? ⟨b,off+i,none⟩=some y/\Sv w y l)
 len:ls.length<=5864062014634
theorem Svv.shape{x:Value}{b:List (List Vt)}(h:Svv w x b):∃ a cap,x=.slice a b.length cap:=by
 obtain⟨⟨a,cap,e,_⟩,_⟩:=h;exact⟨a,cap,e⟩
theorem Svv.spot{a:Option Addr}{c:Nat}{g:List (List Vt)}(h:Svv w (.slice a n c) g)(i:Nat)(l:List Vt)(f:g[i]?=some l):∃ b off y,a=some ⟨b,off,none⟩/\b<w.heap.size/\w.cell? ⟨b,off+i,none⟩=some y/\Sv w y l:=by
 obtain⟨⟨k,d,e,j⟩,_⟩:=h;simp only[Value.slice.injEq]at e;obtain⟨rfl,rfl,rfl⟩:=e;rcases j with rfl|⟨b,off,rfl,hb,hc⟩
 .simp at f
 .obtain⟨y,h3,h4⟩:=hc i l f;exact⟨b,off,y,rfl,hb,h3,h4⟩
theorem jy{x:S3}{c:Nat}(d:x.a=some ⟨b,c,none⟩)(j:Nat)(f:j<x.n):(Instr.indexAt 217 x.v (iv (j:Int))).run prog W=.ok (pt b (c+j)) W:=by
 obtain⟨g,i,h⟩:=x;simp only at d f;subst d;exact NL (P:=prog) (e:=76) (z:=1) underlying217 (by kernel_rfl) (by kernel_rfl) f _ (by rw[rP])
theorem eq{b:Vt}(h:Fe (BW (Ae L s) none) b)(a:u.bu≠s):Fe (BW (Ae (L++[u]) s) none) b:=by
 rw[Ku,if_neg a,nA];exact h
theorem ep{b:Vt}(h:Fe (BW (Ae L s) none) b)(a:u.bu=s)(c:Ab u.b):Fe (BW (Ae (L++[u]) s) none) (if b.b.lt u.b then u else b):=by
 rw[Ku,if_pos a,Sg];exact h.next c
theorem Rp{a:List (List Vt)}{b:Vt}{d:World}{f:Bool}(h:(H9 a s=b.w/\DS a s=!decide (b.b.r=0/\b.b.n=0)/\Ck a s=0))(g:decide (b.b=Bb)=!f)(e:Bw w d):(Ending.returned (.tuple #[.agg #[iv b.w.k,iv b.w.c,iv b.w.s,iv b.w.n,iv b.w.v],.bool f,iv 0]):Ending)=.returned (.tuple #[.agg (cmC (H9 a s)),.bool (DS a s),.int .i64 (Ck a s)])/\Bw w d:=by
 rw[h.1,h.2.1,h.2.2,show decide (b.b.r=0/\b.b.n=0)=decide (b.b=Bb)from og.2 (Bal.eq_iff b.b Bb),g,Bool.not_not];exact⟨rfl,e⟩
theorem aF(x:Value)(A:List (List Vt))(s:Int)(w:World)(h:Svv w x A)(ht:NTab w) :
  Calls prog 141 #[x,.int .i64 s] w λe w'=>e=.returned (.tuple #[.agg (cmC (H9 A s)),.bool (DS A s),.int .i64 (Ck A s)])/\Bw w w':=by
 have c6:=h.len;obtain⟨a,Q,rfl⟩:=h.shape;obtain⟨y,hy⟩:∃ y:S3,y=⟨a,A.length,Q⟩:=⟨_,rfl⟩;have c8:y.n=A.length:=by rw[hy]
 rw[show(.slice a A.length Q:Value)=y.v by rw[hy]]at h ⊢
 clear hy;refine tIn [] func141 trivial (tR 10 [1,0] λd _ _=>?_);by_cases H:0<=s/\s<=39
 .refine tC 1 (λF C=>Eh (r:=true) (M' H)) λNz=>?_;rintro _ _ ⟨rfl,X⟩;refine⟨_,_,rfl,X,id,?_⟩;refine tR 16 [1,0] λo _ _=>DU 52 [(1,iv s),(4,pt (d 0) 0),(7,pt (o 0) 0),(16,S3.v y),(17,iv (y.n:Int)),(18,iv 0)] [true,true] [⟨(d 0),.cells #[iv 0,iv 0,iv 0,iv 0,iv 0] 49,.l,false⟩,⟨(o 0),.cells #[iv 0,iv 0,iv 0,iv 0,iv 0,iv 0,iv 0,iv 0] 140,.l,false⟩] [] (λkk G E f=>∃ (j:Nat) (b:Vt),kk=y.n-j/\G=[(1,iv s),(4,pt (d 0) 0),(7,pt (o 0) 0),(16,S3.v y),(17,iv (y.n:Int)),(18,iv (j:Int))]/\E=[⟨(d 0),.cells #[iv 0,iv 0,iv 0,iv 0,iv 0] 49,.l,false⟩,⟨(o 0),.cells #[iv b.bu,iv b.b.r,iv b.b.n,iv b.w.k,iv b.w.c,iv b.w.s,iv b.w.n,iv b.w.v] 140,.l,false⟩]/\f=[]/\j<=A.length/\Fe (BW (Ae (A.take j).flatten s) none) b/\∀ l∈A.take j,∀ v∈l,Ah v) (y.n) ⟨0,vt0,rfl,rfl,rfl,rfl,by omega,.inl ⟨rfl,rfl⟩,λl M=>(by simp at M)⟩ (λF=>trivial) ?_;rintro k _ _ _ ⟨j,b,rfl,rfl,rfl,rfl,hj,q,P⟩ _ _ _ J K;refine tR 5 [] λd0 _ _=>?_;by_cases h2:j<y.n
  .refine tI ((decide ((j:Int)<(y.n:Int)))) true (M' (by omega)) ?_;obtain⟨l,B⟩:∃ l,A[j]?=some l:=⟨_,E' (by omega)⟩;obtain⟨bb,T,yl,a2,a1,a0,M⟩:=h.spot j l B;obtain⟨z,rfl⟩:=M.s3;have c9:=M.op.1;have hF:(A.take (j+1)).flatten=_:=X1 A j l B;have c7:=M.len;refine tR 5 [] λd1 _ _=>tV 0 (pt bb (T+j)) (λF C=>(jy a2 j (by omega))) (tV 1 (S3.v z) (λF C=>(D4 underlying76 rfl (((CgQ.af C).cell (p:=⟨bb,T+j,none⟩) a1).trans a0))) (tR 9 [] λd2 _ _=>DU 52 [(1,iv s),(4,pt (d 0) 0),(7,pt (o 0) 0),(16,S3.v y),(17,iv (y.n:Int)),(18,iv (j:Int)),(22,S3.v z),(23,iv (z.n:Int)),(24,iv 0)] [true,true] [⟨(d 0),.cells #[iv 0,iv 0,iv 0,iv 0,iv 0] 49,.l,false⟩,⟨(o 0),.cells #[iv b.bu,iv b.b.r,iv b.b.n,iv b.w.k,iv b.w.c,iv b.w.s,iv b.w.n,iv b.w.v] 140,.l,false⟩] [] (λkk G E f=>∃ (k:Nat) (b:Vt),kk=z.n-k/\G=[(1,iv s),(4,pt (d 0) 0),(7,pt (o 0) 0),(16,S3.v y),(17,iv (y.n:Int)),(18,iv (j:Int)),(22,S3.v z),(23,iv (z.n:Int)),(24,iv (k:Int))]/\E=[⟨(d 0),.cells #[iv 0,iv 0,iv 0,iv 0,iv 0] 49,.l,false⟩,⟨(o 0),.cells #[iv b.bu,iv b.b.r,iv b.b.n,iv b.w.k,iv b.w.c,iv b.w.s,iv b.w.n,iv b.w.v] 140,.l,false⟩]/\f=[]/\k<=l.length/\Fe (BW (Ae ((A.take j).flatten++l.take k) s) none) b/\∀ v∈l.take k,Ah v) (z.n) ⟨0,b,rfl,rfl,rfl,rfl,by omega,(by rw[oF,nA];exact q),λv hv=>(by simp at hv)⟩ (λF=>trivial) ?_));rintro k _ _ _ ⟨k,b,rfl,rfl,rfl,rfl,hk,q,O⟩ _ _ _ Jb L;refine tR 5 [] λd3 _ _=>?_;by_cases I:k<z.n
   .refine tI ((decide ((k:Int)<(z.n:Int)))) true (M' (by omega)) ?_;obtain⟨u,W⟩:∃ u,l[k]?=some u:=⟨_,E' (by omega)⟩;obtain⟨X,o2,S⟩:=M.ad (i:=k) (by omega);have Z:=FY l k u W;refine tR 5 [] λd4 _ _=>tV 0 (pt X (o2+8*k)) (λF C=>(Vl S k (by omega))) (tV 1 (.agg #[iv u.bu,iv u.b.r,iv u.b.n,iv u.w.k,iv u.w.c,iv u.w.s,iv u.w.n,iv u.w.v]) (λF C=>(fs u ((M.af (CgQ.af C)).at_ S W))) (tR 7 [0,0,2,0,2] λa3 _ _=>?_));by_cases R:Ah u
    .refine tC1 1 (λF C=>Hf (v:=u) (ht.af (CgQ.af C)) (r:=true) (M' R)) λ_=>?_;have N:∀ v∈l.take (k+1),Ah v:=cx W O R;refine tR 9 [2] λa4 _ _=>?_;by_cases U:u.bu=s
     .refine tV 3 (.bool true) (λF C=>(Fu (t:=3) (m:=u.bu) (n:=s) (x:=(.tmp 33)) (y:=(.tmp 34)) (by simpa using U))) (tR 5 [1,2] λa5 _ _=>?_);have D:=ep q U R.2.1;by_cases V:b.b.lt u.b
      .rw[if_pos V]at D
       refine tC1 9 (λF C=>En (a:=b.b) (b:=u.b) (r:=true) (M' V)) λ_=>tR 9 [2,1,0] λa6 _ _=>tV 0 (iv ((k:Int)+1)) (λF C=>(AU 24 (k:Int) underlying3 (by omega))) (tR 2 [] λa7 _ _=>tB L (z.n-(k+1)) (by omega) [true,true,false] ⟨k+1,u,rfl,rfl,rfl,rfl,by omega,by rw[Z,<- mU];exact D,N⟩ (λF=>trivial))
      .rw[if_neg V]at D
       refine tC1 9 (λF C=>En (a:=b.b) (b:=u.b) (r:=false) (D' V)) λ_=>tR 6 [] λa8 _ _=>tV 0 (iv ((k:Int)+1)) (λF C=>(AU 24 (k:Int) underlying3 (by omega))) (tR 2 [] λa9 _ _=>tB L (z.n-(k+1)) (by omega) [true,true,false] ⟨k+1,b,rfl,rfl,rfl,rfl,by omega,by rw[Z,<- mU];exact D,N⟩ (λF=>trivial))
     .refine tV 3 (.bool false) (λF C=>(Fu (t:=3) (m:=u.bu) (n:=s) (x:=(.tmp 33)) (y:=(.tmp 34)) (by simpa using U))) (tR 12 [] λb0 _ _=>tV 0 (iv ((k:Int)+1)) (λF C=>(AU 24 (k:Int) underlying3 (by omega))) (tR 2 [] λb1 _ _=>tB L (z.n-(k+1)) (by omega) [true,true,false] ⟨k+1,b,rfl,rfl,rfl,rfl,by omega,by rw[Z,<- mU];exact eq q U,N⟩ (λF=>trivial)))
    .refine tC1 1 (λF C=>Hf (v:=u) (ht.af (CgQ.af C)) (r:=false) (D' R)) λ_=>?_;have Y:=TJ (ls:=A) H λg=>R (g l (nH B) u (nH W));refine tR 10 [0,0] λb3 _ _=>tX λF C=>qE3 4 5 6 49 0 (d 0) #[iv 0,iv 0,iv 0,iv 0,iv 0] (.bool false) (iv 5) λ_=>by rw[Y.1,Y.2.1,Y.2.2];exact⟨rfl,CgQ.af C⟩
   .refine tI ((decide ((k:Int)<(z.n:Int)))) false (D' (by omega)) ?_;rw[np (show l.length<=k by omega)]at q O
    rw[<- hF]at q
    refine tR 3 [] λb4 _ _=>tV 0 (iv ((j:Int)+1)) (λF C=>(AU 18 (j:Int) underlying3 (by omega))) (tR 2 [] λb5 _ _=>tB K (y.n-(j+1)) (by omega) [true,true] ⟨j+1,b,rfl,rfl,rfl,rfl,by omega,q,co B P O⟩ (λF=>trivial))
  .refine tI ((decide ((j:Int)<(y.n:Int)))) false (D' (by omega)) ?_;rw[np (show A.length<=j by omega)]at q P
   have hK:=Fe.pick H P q;refine tR 7 [6,0,2,1,4,8] λb6 _ _=>?_;by_cases I:b.b=Bb
   .refine KV 52 (λG E f=>∃ (_:Unit),G=[(4,pt (d 0) 0),(5,.bool false),(6,iv 0)]/\E=[⟨(d 0),.cells #[iv b.w.k,iv b.w.c,iv b.w.s,iv b.w.n,iv b.w.v] 49,.l,false⟩,⟨(o 0),.cells #[iv b.bu,iv b.b.r,iv b.b.n,iv b.w.k,iv b.w.c,iv b.w.s,iv b.w.n,iv b.w.v] 140,.l,false⟩]/\f=[]) (λJ K=>?_) ?_
    .refine PR 3 6 ?_ ?_
     .refine tR 1 [1] λb7 _ _=>tT 5 (.bool false) (λ_=>(Ja (x:=(.tmp 49)) (y:=(.tmp 50)) b.b Bb I)) (tR 4 [13,0,0,14,16] λb8 _ _=>tD K [true,true] ⟨(),rfl,rfl,rfl⟩ (λF=>trivial))
     .refine tR 2 [0,0,7,1] λb9 _ _=>tT 5 (.bool false) (λ_=>(Ja (x:=(.tmp 49)) (y:=(.tmp 50)) b.b Bb I)) (tR 3 [14,16] λc0 _ _=>tD K [true,true] ⟨(),rfl,rfl,rfl⟩ (λF=>trivial))
    rintro _ _ _ ⟨_,rfl,rfl,rfl⟩ _ _ _;exact tX λF C=>qE3 4 5 6 49 0 (d 0) #[iv b.w.k,iv b.w.c,iv b.w.s,iv b.w.n,iv b.w.v] (.bool false) (iv 0) λ_=>Rp hK (M' I) (CgQ.af C)
   .refine KV 52 (λG E f=>∃ (_:Unit),G=[(4,pt (d 0) 0),(5,.bool true),(6,iv 0)]/\E=[⟨(d 0),.cells #[iv b.w.k,iv b.w.c,iv b.w.s,iv b.w.n,iv b.w.v] 49,.l,false⟩,⟨(o 0),.cells #[iv b.bu,iv b.b.r,iv b.b.n,iv b.w.k,iv b.w.c,iv b.w.s,iv b.w.n,iv b.w.v] 140,.l,false⟩]/\f=[]) (λJ K=>?_) ?_
    .refine PR 3 6 ?_ ?_
     .refine tR 1 [1] λc1 _ _=>tT 5 (.bool true) (λ_=>(Jd (x:=(.tmp 49)) (y:=(.tmp 50)) b.b Bb I)) (tR 4 [13,0,0,14,16] λc2 _ _=>tD K [true,true] ⟨(),rfl,rfl,rfl⟩ (λF=>trivial))
     .refine tR 2 [0,0,7,1] λc3 _ _=>tT 5 (.bool true) (λ_=>(Jd (x:=(.tmp 49)) (y:=(.tmp 50)) b.b Bb I)) (tR 3 [14,16] λc4 _ _=>tD K [true,true] ⟨(),rfl,rfl,rfl⟩ (λF=>trivial))
    rintro _ _ _ ⟨_,rfl,rfl,rfl⟩ _ _ _;exact tX λF C=>qE3 4 5 6 49 0 (d 0) #[iv b.w.k,iv b.w.c,iv b.w.s,iv b.w.n,iv b.w.v] (.bool true) (iv 0) λ_=>Rp hK (D' I) (CgQ.af C)
 .refine tC1 1 (λF C=>Eh (r:=false) (D' H)) λ_=>tR 10 [0,0] λc5 _ _=>tX λF C=>qE3 4 5 6 49 0 (d 0) #[iv 0,iv 0,iv 0,iv 0,iv 0] (.bool false) (iv 2) λ_=>by rw[(Ms H).1,(Ms H).2.1,(Ms H).2.2];exact⟨rfl,CgQ.af C⟩
def gz:Gh:=⟨λ_=>.z,λ_=>0⟩
theorem Ep:gz.t b∉([.n 60 0]:List Tg):=by simp[gz]
def QV(x:NX)(k:Nat):List Value:=(List.range k).map λj=>S3.v (x.hv j)
theorem W7(x:NX)(k:Nat):QV x (k+1)=QV x k++[S3.v (x.hv k)]:=by unfold QV;rw[o0,nE];rfl
theorem eY{τ:Tg}{e:TypeId}{y:S3}{x:NX}{r:Rnd}(h:OwnS g w τ false e 1 y (QV x 5))(z:∀ j,j<5->Sv w (x.hv j).v (r.an j).vs):Svv w y.v (r.jv.map (·.vs)):=by
 have s:=h.len;have t:y.n=5:=by simp[QV]at s;omega
 obtain⟨b,o,i,_⟩:=h.cell (j:=0) (u:=S3.v (x.hv 0)) rfl;refine⟨⟨y.a,y.c,by unfold S3.v;rw[t];rfl,.inr ⟨b,0,o,i,λj l k=>?_⟩⟩,by show 5<=5864062014634;decide⟩;have f:j<5:=by have:=(V'.1 k).1;exact this
 have m:(QV x 5)[j]?=some (S3.v (x.hv j)):=by rcases rU f with rfl|rfl|rfl|rfl|rfl<;>rfl
 obtain⟨A,d,_,q⟩:=h.cell m;rw[o]at d
 simp only[Y',Addr.mk.injEq,and_true]at d;subst d;refine⟨S3.v (x.hv j),by rw[nS];exact q,?_⟩;have p:=z j f;rcases rU f with rfl|rfl|rfl|rfl|rfl<;>(simp[Rnd.jv]at k;subst k;exact p)
theorem Wb{l:List Cmd}{f:Cmd->Bool}{j:Nat}(h:l[j]?=some c):(l.drop j).find? f=if f c then some c else(l.drop (j+1)).find? f:=by
 rw[DL h,pO];split<;>simp_all
theorem KO(h:NS i nb ob g w p ls ts)(hB:Base w0 g w)(hT:Tabs w0)(s:Nat)(hq:p.bn.fa.length<100000000)(a4:p.ae.length<100000000) :
  Calls prog 105 #[pt nb 0,iv (s:Int)] w λe w'=>e=.returned (.tuple #[.agg (cmC ((p.rQ s).getD VO)),.bool (p.rQ s).isSome])/\Bw w w':=by
 obtain⟨x,lt,tl,P,hO,hg⟩:=h;have hQ:=P.fa.rd;have hA:=P.ae.rd;have b8:=hQ.len;have hH:∀ j,j<5->Sv w (x.hv j).v (p.bn.an j).vs:=λj Q=>(P.an j Q).s;have a2:Base w0 gz w:=⟨hB.b,λ_ _=>rfl⟩;refine gI (fn:=f105) [.n 60 0] gz func105 (λ_ _=>⟨rfl,rfl⟩) (Cr ⟨nb,.cells (AG i ob p x) 97,.z,false⟩ (λ_=>⟨P.row,rfl,λh=>(by cases h),λh=>absurd rfl h⟩) (by kernel_rfl) ?_);refine qR [] 21 [1,0,0] λa g1 w1 c1=>Ce 63 [(0,pt nb 0),(1,iv (s:Int)),(4,pt (a 0) 0),(6,sn),(19,.agg #[iv ((p.bn.an 0).p.r),iv ((p.bn.an 0).p.n),S3.v (x.hv 0),iv ((p.bn.an 1).p.r),iv ((p.bn.an 1).p.n),S3.v (x.hv 1),iv ((p.bn.an 2).p.r),iv ((p.bn.an 2).p.n),S3.v (x.hv 2),iv ((p.bn.an 3).p.r),iv ((p.bn.an 3).p.n),S3.v (x.hv 3),iv ((p.bn.an 4).p.r),iv ((p.bn.an 4).p.n),S3.v (x.hv 4)]),(20,iv 0)] [true,true] [⟨nb,.cells (AG i ob p x) 97,.z,false⟩,⟨(a 0),.cells #[iv 0,iv 0,iv 0,iv 0,iv 0] 49,.l,false⟩] (λk M w' e L=>∃ (k0:Nat) (y:S3),k=5-k0/\k0<=5/\e=[(0,pt nb 0),(1,iv (s:Int)),(4,pt (a 0) 0),(6,S3.v y),(19,.agg #[iv (p.bn.an 0).p.r,iv (p.bn.an 0).p.n,S3.v (x.hv 0),iv (p.bn.an 1).p.r,iv (p.bn.an 1).p.n,S3.v (x.hv 1),iv (p.bn.an 2).p.r,iv (p.bn.an 2).p.n,S3.v (x.hv 2),iv (p.bn.an 3).p.r,iv (p.bn.an 3).p.n,S3.v (x.hv 3),iv (p.bn.an 4).p.r,iv (p.bn.an 4).p.n,S3.v (x.hv 4)]),(20,iv (k0:Int))]/\L=[⟨nb,.cells (AG i ob p x) 97,.z,false⟩,⟨(a 0),.cells #[iv 0,iv 0,iv 0,iv 0,iv 0] 49,.l,false⟩]/\OwnS M w' (.n 60 0) false 76 1 y (QV x k0)/\Cg w.heap.size [.n 60 0] gz w M w') (by kernel_rfl) (by kernel_rfl) (by kernel_rfl) (by kernel_rfl) 5 (λK=>?_) ?_
 .exact⟨0,s30,rfl,by omega,rfl,rfl,OwnS.nil _ _ _ _ _ _,(c1.nil [.n 60 0])⟩
 .rintro k gr wr _ zr _ ⟨k0,y,rfl,hk0,rfl,rfl,hy,hC⟩ J hJ;refine qR [] 5 [] λs2 g2 w2 t=>?_;by_cases h1:k0<5
  .refine qI ((decide ((k0:Int)<5))) true (M' (by omega)) (qR [] 5 [] λs3 g3 w3 c3=>?_);refine dU 0 (.agg #[iv (p.bn.an k0).p.r,iv (p.bn.an k0).p.n,S3.v (x.hv k0)]) (λK=>(by rcases rU h1 with rfl|rfl|rfl|rfl|rfl<;>kernel_rfl)) (by kernel_rfl) ?_;refine qR [] 8 [0,0,2,0,2,0,0] λs4 g4 w4 c4=>?_;have c0:y.n=k0:=by have:=hy.len;simp[QV]at this;omega
   refine KL 4 (x:=y) 217 217 76 1 24 (.slice none 0 0) ⟨(s4 1),0,none⟩ 1 1 [S3.v (x.hv k0)] (((hy.ch t).ch c3).ch c4) (by kernel_rfl) (by kernel_rfl) (by kernel_rfl) underlying217 (by kernel_rfl) (by kernel_rfl) (by decide) (by decide) rfl (by simp[Value.oneCell']) (λK=>Cz K 3 (s4 1) [S3.v (x.hv k0)] 76 .z true (by kernel_rfl)) (by unfold maxLen;omega) (by omega) ?_;intro y5 g5 w5 a5 n5 a0 G5;have c5:=a0 w.heap.size [.n 60 0] (G'.2 rfl);refine qR [] 4 [] λs6 g6 w6 c6=>qV 0 (iv ((k0:Int)+1)) (AU 20 (k0:Int) underlying3 (by omega)) (qR [] 2 [] λs7 g7 w7 c7=>qB [true,true,false,false] λz K0 K=>hJ (5-(k0+1)) _ _ _ z _ (by omega) ⟨k0+1,y5,rfl,by omega,rfl,rfl,(by rw[W7];exact((a5.ch c6).ch c7)),((((((hC.n t).n c3).n c4).trans c5).n c6).n c7)⟩ K)
  .refine qI ((decide ((k0:Int)<5))) false (D' (by omega)) ?_;obtain rfl:k0=5:=by omega
   refine qR [] 5 [] λs8 g8 w8 F=>?_;have hD:=((hC.n t).n F);have hS:=eY (r:=p.bn) ((hy.ch t).ch F) (λj Q=>(hH j Q).af (hD.af (λ_ _=>Ep)));refine qC 2 (aF _ _ (s:Int) w8 hS ((a2.ch hD).tn hT)) ?_;rintro e' w9 ⟨rfl,b9⟩;refine⟨_,rfl,b9,?_⟩;have Z:=Cg.ed (B:=w.heap.size) (T:=[]) (g:=g8) b9;refine qR [] 15 [0,0,2,0] λd0 a6 e3 o=>?_;by_cases G:(Ck (p.bn.jv.map (·.vs)) (s:Int))≠0
   .refine qI (((Ck (p.bn.jv.map (·.vs)) (s:Int)) != 0)) true (by simpa using G) (qR [] 6 [1,0] λd1 a7 e4 R=>?_);rw[show p.rQ s=none from if_pos G];exact qE2 4 5 49 1 (a 0) (cmC VO) (.bool false) λK=>⟨rfl,Cg.af (((((hC.n t).n F).n Z).n o).n R) (λ_ _=>Ep)⟩
   .refine qI (((Ck (p.bn.jv.map (·.vs)) (s:Int)) != 0)) false (by simpa using G) (qR [] 6 [] λd2 a8 e5 C=>?_);by_cases N:(DS (p.bn.jv.map (·.vs)) (s:Int))=true
    .refine qI ((DS (p.bn.jv.map (·.vs)) (s:Int))) true N (qR [] 6 [2,1,0] λd3 a9 e6 S=>?_);rw[show p.rQ s=some (H9 (p.bn.jv.map (·.vs)) (s:Int))from(if_neg G).trans (if_pos N)];exact qE2 4 5 49 1 (a 0) (cmC (H9 (p.bn.jv.map (·.vs)) (s:Int))) (.bool true) λK=>⟨rfl,Cg.af ((((((hC.n t).n F).n Z).n o).n C).n S) (λ_ _=>Ep)⟩
    .refine qI ((DS (p.bn.jv.map (·.vs)) (s:Int))) false (by simpa using N) (qR [] 14 [0] λd4 b0 e7 U=>?_);have hX:p.rQ s=p.bn.fa.find? (λc=>decide (c∉p.ae)):=(if_neg G).trans (if_neg N);refine Ce 63 [(0,pt nb 0),(4,pt (a 0) 0),(46,S3.v x.fa),(47,iv (x.fa.n:Int)),(48,iv 0)] [true,true,false] [⟨nb,.cells (AG i ob p x) 97,.z,false⟩,⟨(a 0),.cells #[iv 0,iv 0,iv 0,iv 0,iv 0] 49,.l,false⟩] (λk M w' e L=>∃ j:Nat,k=p.bn.fa.length-j/\j<=p.bn.fa.length/\e=[(0,pt nb 0),(4,pt (a 0) 0),(46,S3.v x.fa),(47,iv (x.fa.n:Int)),(48,iv (j:Int))]/\L=[⟨nb,.cells (AG i ob p x) 97,.z,false⟩,⟨(a 0),.cells #[iv 0,iv 0,iv 0,iv 0,iv 0] 49,.l,false⟩]/\(p.bn.fa.drop j).find? (λc=>decide (c∉p.ae))=p.rQ s/\Cg w.heap.size [.n 60 0] gz w M w') (by kernel_rfl) (by kernel_rfl) (by kernel_rfl) (by kernel_rfl) p.bn.fa.length (λK=>?_) ?_
     .exact⟨0,rfl,by omega,rfl,rfl,by rw[hX];rfl,((((((hC.n t).n F).n Z).n o).n C).n U)⟩
     .rintro k gr wr _ zr _ ⟨j,rfl,Q,rfl,rfl,hI,hC2⟩ J hJ;refine qR [] 5 [] λd5 b1 e8 d=>?_;by_cases h4:j<p.bn.fa.length
      .refine qI ((decide ((j:Int)<(x.fa.n:Int)))) true (M' (by omega)) ?_;obtain⟨c,H⟩:∃ c,p.bn.fa[j]?=some c:=⟨_,E' h4⟩;obtain⟨bx,ox,I⟩:=hQ.addr h4;rw[Wb H]at hI
       refine qR [] 5 [] λd6 b2 e9 m=>qV 0 (pt bx (ox+5*j)) (MA I j (by omega)) ?_;have a3:=hQ.af (((hC2.n d).n m).af (λ_ _=>Ep));refine qV 1 (.agg #[iv c.k,iv c.c,iv c.s,iv c.n,iv c.v]) (PF c λq_ u hu=>a3.cellAt I H hu) (qR [] 11 [0,0,2,0,8,0,2,4,6,8,0,10,2] λd7 a1 f0 q=>qC 6 (F8 (l:=p.ae) (hA.af ((((hC2.n d).n m).n q).af (λ_ _=>Ep))) a4 c) ?_);rintro e' f1 ⟨rfl,A⟩;refine⟨_,rfl,A,?_⟩;have D:=Cg.ed (B:=w.heap.size) (T:=[]) (g:=a1) A;refine qR [] 2 [14] λd8 b3 f2 E=>?_;by_cases O:c∈p.ae
       .refine qI ((!(decide (c∈p.ae)))) false (by simpa using O) (qR [] 3 [] λd9 b4 f3 V=>qV 0 (iv ((j:Int)+1)) (AU 48 (j:Int) underlying3 (by omega)) (qR [] 2 [] λe0 b5 f4 W=>qB [true,true,false] λz K0 K=>hJ (p.bn.fa.length-(j+1)) _ _ _ z _ (by omega) ⟨j+1,rfl,by omega,rfl,rfl,(by rw[<- hI,if_neg (by simpa using O)]),(((((((hC2.n d).n m).n q).n D).n E).n V).n W)⟩ K))
       .refine qI ((!(decide (c∈p.ae)))) true (by simpa using O) (qR [] 6 [2,1,0] λe1 b6 f5 X=>?_);rw[if_pos (by simpa using O)]at hI
        rw[<- hI];exact qE2 4 5 49 1 (a 0) (cmC c) (.bool true) λK=>⟨rfl,Cg.af ((((((hC2.n d).n m).n q).n D).n E).n X) (λ_ _=>Ep)⟩
      .refine qI ((decide ((j:Int)<(x.fa.n:Int)))) false (D' (by omega)) (qR [] 7 [1,0] λe2 b7 f6 Y=>?_);obtain rfl:j=p.bn.fa.length:=by omega
       rw[oW]at hI
       rw[<- hI];exact qE2 4 5 49 1 (a 0) (cmC VO) (.bool false) λK=>⟨rfl,Cg.af ((hC2.n d).n Y) (λ_ _=>Ep)⟩
theorem Oq(h:NS i nb ob g w p ls ts){b:Bool}(a:p.bn.rX=b) :
  Calls prog 104 #[pt nb 11] w λe w'=>e=.returned (.bool b)/\Bw w w':=by subst a;exact SK h
theorem Ra(h:NS i nb ob g w p ls ts)(b:Base w0 g w)(c:Tabs w0)(s:Nat)(f:p.bn.fa.length<100000000)(a:p.ae.length<100000000){o:Option Cmd}(d:p.rQ s=o) :
  Calls prog 105 #[pt nb 0,iv (s:Int)] w λe w'=>e=.returned (.tuple #[.agg (cmC (o.getD VO)),.bool o.isSome])/\Bw w w':=by subst d;exact KO h b c s f a
theorem cM(p:Nod)(v:Vt):(p.cn v).1.bn=p.bn:=by
 unfold Nod.cn;repeat' split
 all_goals rfl
theorem Ru(h:NS i nb ob g w p ls ts)(hB:Base w0 g w)(hT:Tabs w0)(hq:p.bn.fa.length<100000000)(R:p.ae.length<100000000)(hb:p.bw.length<100000000)(a8:p.vo.vs.length<100000000) :
  Calls prog 63 #[pt nb 0] w (NP i nb ob g w (.tuple #[]) p.cF ls ts):=by
 obtain⟨x,lt,tl,k,l,hg⟩:=h;have hn:x.ae.n=p.ae.length:=k.ae.num;refine gI (fn:=f63) (TN i) g func63 hg (qN k (qO l (qR [] 18 [0,0,2,0,2] λs1 Y w1 c1=>?_)));by_cases Z:p.leads=false
 .refine Af λK=>?_;have N3:NS i nb ob Y w1 p ls ts:=(nsC k l c1 K);refine qC 1 (Fp N3 Z) ?_;rintro N w4 ⟨rfl,b4⟩;refine⟨_,rfl,b4,?_⟩;have c4:=Cg.ed (B:=w.heap.size) (T:=[]) (g:=Y) b4;refine qR [] 21 [] λs5 g5 w5 c5=>qE (.tuple #[]) λK=>?_;rw[show p.cF=p from by unfold Nod.cF;rw[if_pos (.inl Z)]];exact⟨_,rfl,(nsC k l ((c1.n c4).n c5) K),(((c1.nil (TN i)).n c4).n c5)⟩
 .have h10:p.leads=true:=by simpa using Z
  refine Af λK=>?_;have N8:NS i nb ob Y w1 p ls ts:=(nsC k l c1 K);refine qC 1 (Fp N8 h10) ?_;rintro N w9 ⟨rfl,b9⟩;refine⟨_,rfl,b9,?_⟩;have j:=Cg.ed (B:=w.heap.size) (T:=[]) (g:=Y) b9;refine qR [] 6 [2] λc7 r W a=>?_;by_cases h2:p.bn.rX=false
  .refine Af λK=>?_;have a0:NS i nb ob r W p ls ts:=(nsC k l ((c1.n j).n a) K);refine qC 8 (Oq a0 h2) ?_;rintro N d7 ⟨rfl,z⟩;refine⟨_,rfl,z,?_⟩;have E:=Cg.ed (B:=w.heap.size) (T:=[]) (g:=r) z;refine qR [] 14 [] λc8 b3 d8 F=>qE (.tuple #[]) λK=>?_;rw[show p.cF=p from by unfold Nod.cF;rw[if_pos (.inr (.inl h2))]];exact⟨_,rfl,(nsC k l ((((c1.n j).n a).n E).n F) K),(((((c1.nil (TN i)).n j).n a).n E).n F)⟩
  .have h20:p.bn.rX=true:=by simpa using h2
   refine Af λK=>?_;have a1:NS i nb ob r W p ls ts:=(nsC k l ((c1.n j).n a) K);refine qC 8 (Oq a1 h20) ?_;rintro N d9 ⟨rfl,A⟩;refine⟨_,rfl,A,?_⟩;have b:=Cg.ed (B:=w.heap.size) (T:=[]) (g:=r) A;refine qR [] 13 [2,0] λd0 b5 e0 d=>?_;by_cases h3:(x.ae.n:Int)<(p.bn.next:Int)
   .have h30:p.ae.length<p.bn.next:=by omega
    refine qI ((decide ((x.ae.n:Int)<(p.bn.next:Int)))) true (M' (by omega)) (qE (.tuple #[]) λK=>?_);rw[show p.cF=p from by unfold Nod.cF;rw[if_pos (.inr (.inr h30))]];exact⟨_,rfl,(nsC k l ((((c1.n j).n a).n b).n d) K),(((((c1.nil (TN i)).n j).n a).n b).n d)⟩
   .refine qI ((decide ((x.ae.n:Int)<(p.bn.next:Int)))) false (D' (by omega)) ?_;have v:¬ (p.leads=false\/p.bn.rX=false\/p.ae.length<p.bn.next):=by rintro(h|h|h);exact Z h;exact h2 h;omega
    refine qR [] 5 [2] λd1 s X e=>?_;cases ho:p.rQ x.ae.n with
    | none =>
     refine Af λK=>?_;have a2:NS i nb ob s X p ls ts:=(nsC k l (((((c1.n j).n a).n b).n d).n e) K);refine qC 2 (Ra a2 (hB.ch ((((((c1.nil (TN i)).n j).n a).n b).n d).n e) (BB i)) hT x.ae.n hq R ho) ?_;rintro N e1 ⟨rfl,C⟩;refine⟨_,rfl,C,?_⟩;have G:=Cg.ed (B:=w.heap.size) (T:=[]) (g:=s) C;refine qR [] 14 [0,0,3,0] λd2 b6 e2 H=>qE (.tuple #[]) λK=>?_;rw[show p.cF=p from by unfold Nod.cF;rw[if_neg v,<- hn,ho]];exact⟨_,rfl,(nsC k l (((((((c1.n j).n a).n b).n d).n e).n G).n H) K),((((((((c1.nil (TN i)).n j).n a).n b).n d).n e).n G).n H)⟩
    | some c =>
     refine Af λK=>?_;have a3:NS i nb ob s X p ls ts:=(nsC k l (((((c1.n j).n a).n b).n d).n e) K);refine qC 2 (Ra a3 (hB.ch ((((((c1.nil (TN i)).n j).n a).n b).n d).n e) (BB i)) hT x.ae.n hq R ho) ?_;rintro N e3 ⟨rfl,D⟩;refine⟨_,rfl,D,?_⟩;have m:=Cg.ed (B:=w.heap.size) (T:=[]) (g:=s) D;refine qR [] 34 [0,0,3,0,11,0,2,2,4,6,8,10,12,0,14,3,16,19,0,0,21,4,0,2,4] λU b7 e4 o=>qS 2 [false,false,true,true,true] k l (((((((c1.n j).n a).n b).n d).n e).n m).n o) (λa4=>O8 a4 (hB.ch ((((((((c1.nil (TN i)).n j).n a).n b).n d).n e).n m).n o) (BB i)) hT (⟨(x.ae.n:Int),p.bn.gC,c⟩:Vt) a8) λb8 e5 b0 S V t u I=>qR [] 2 [] λd3 c0 e6 q=>?_;by_cases O:(p.cn (⟨(x.ae.n:Int),p.bn.gC,c⟩:Vt)).2≠0
     .refine qI (((p.cn (⟨(x.ae.n:Int),p.bn.gC,c⟩:Vt)).2 != 0)) true (by simpa using O) (qE (.tuple #[]) λK=>?_);rw[show p.cF=(p.cn (⟨(x.ae.n:Int),p.bn.gC,c⟩:Vt)).1 from by rw[V6 O];unfold Nod.cF;rw[if_neg v,<- hn,ho];exact if_pos O];exact⟨_,rfl,(nsC t u q K),((((((((((c1.nil (TN i)).n j).n a).n b).n d).n e).n m).n o).trans (I)).n q)⟩
     .refine qI (((p.cn (⟨(x.ae.n:Int),p.bn.gC,c⟩:Vt)).2 != 0)) false (by simpa using O) (qR [] 5 [0] λd4 c2 e7 J=>qV 2 (iv ((x.ae.n:Int)+1)) (AU 55 (x.ae.n:Int) underlying3 (by omega)) (qR [.n 0 i] 9 [3,1,0] λd5 a7 a9 L=>?_));rw[show p.cF=Nod.wait { (p.cn (⟨(x.ae.n:Int),p.bn.gC,c⟩:Vt)).1 with bn:={ (p.cn (⟨(x.ae.n:Int),p.bn.gC,c⟩:Vt)).1.bn with next:=x.ae.n+1 } } (.prop (⟨(x.ae.n:Int),p.bn.gC,c⟩:Vt))from by unfold Nod.cF;rw[if_neg v,<- hn,ho,cM];exact if_neg O];refine Af λK=>?_;obtain⟨z1,z2⟩:=K.sB 0 (s1 0) (.cells #[pt nb 0] 70) false (by kernel_rfl);obtain⟨z3,z4⟩:=K.sB 2 (U 1) (.cells (vtA (⟨(x.ae.n:Int),p.bn.gC,c⟩:Vt)) 140) false (by kernel_rfl);have y:=((q.nil ([.n 0 i]:List Tg)).n J).trans (L);have a5:NS i nb ob a7 a9 ({ (p.cn (⟨(x.ae.n:Int),p.bn.gC,c⟩:Vt)).1 with bn:={ (p.cn (⟨(x.ae.n:Int),p.bn.gC,c⟩:Vt)).1.bn with next:=x.ae.n+1 } }) ls ts:=⟨b0,S,V,K.tM 3 t y,u.ch y (hn:=by simp<;>omega),K.new⟩;refine qS0 2 [true,true,true,false,false] (AQ a5 (by show(p.cn (⟨(x.ae.n:Int),p.bn.gC,c⟩:Vt)).1.bw.length<_;rw[Hk];exact hb) _ _ (.prop (⟨(x.ae.n:Int),p.bn.gC,c⟩:Vt)) ⟨(s1 0),(U 1),rfl,⟨z1,z2⟩,⟨z3,z4⟩⟩) λc3 e8 f0 b1 b2 P Q a6=>qR [] 1 [] λd6 c6 e9 M=>qF P Q M ((((((((((((((c1.nil (TN i)).n j).n a).n b).n d).n e).n m).n o).trans (I)).n q).n J).trans (L.mono (by simp[TN]))).trans (a6)).n M)
end
end
end Go.Proofs.YtogibonjmbhliabGreatDoor
