/- Part 13 of the walk. -/
import Derived.Lib.AppendZeros
import Derived.Test.YthkjeoamjgnpoaaGreatDoorZ12
set_option maxRecDepth 100000
set_option maxHeartbeats 4000000
open Go.Proofs.Tryz
set_option linter.unusedVariables false
namespace Go.Proofs.YthkjeoamjgnpoaaGreatDoor
section
open Go.RowKit
section
theorem Og(a:List (List Int))(j:Nat)(h:j<a.length):(a.take (j+1)).flatten=(a.take j).flatten++a.getD j []:=by
 rw[nu h,List.flatten_append];simp[List.getD,List.getElem?_eq_getElem h]
theorem UC(a:List (List Int))(h:∀ l∈a,l.length<=1000):a.flatten.length<=1000*a.length:=by
 induction a with
 | nil=>simp
 | cons x r ih =>
  have c:=h x (by simp);have d:=ih (λl b=>h l (by simp[b]));simp only[List.flatten_cons,G',nK];omega
theorem No(n:Nat):(Builtin.zeroCells (Value.int .u8 0).cells n).size=n:=by
 simp[Builtin.zeroCells,Value.cells]
theorem YI(n:Nat)(w:World)(o:0<n)(t:n<=20000) :
  Calls prog 32 #[.slice none 0 0,.int .i64 (n:Int)] w λe w'=>∃ v',e=.returned v'/\w'.ownsRow w.heap.size 5 1 v' 0 []/\Bw w w':=by
 obtain⟨r,l,d,f,g⟩:=info_parts Ax;have i:=λs=>Lib.run_append_nil_zeros (P:=prog) w 27 3 s 5 r (.int .u8 0) .i64 .i64 underlying27 underlying3 l d n o (by rw[f];decide) (by omega) (by rw[g];omega);have c:=grownCap_ge w n 0 5;have b:=grownCap_le_maxLen w n 0 5 (by unfold maxLen;omega);have a:(Builtin.zeroCells (Value.int .u8 0).cells n++Builtin.zeroCells (Value.int .u8 0).cells (grownCap w n 0 5-n)).size=grownCap w n 0 5*1:=by rw[Array.size_append,No,No];omega
 generalize Builtin.zeroCells (Value.int .u8 0).cells n++Builtin.zeroCells (Value.int .u8 0).cells (grownCap w n 0 5-n)=Z at i a;generalize grownCap w n 0 5=cap at i a c b;have k:Bw w (w.drew.alloc (.cells Z 5)):=((Below.refl w.heap.size w).drew).alloc (by exact A' _) _;have j:(w.drew.alloc (.cells Z 5)).heap[w.heap.size]?=some (.cells Z 5):=heap_alloc_new _ _;generalize w.drew.alloc (.cells Z 5)=W at i k j;have p:W.ownsRow w.heap.size 5 1 (.slice (some ⟨w.heap.size,0,none⟩) 0 cap) 0 []:=⟨by simp,.inr ⟨w.heap.size,cap,Z,rfl,A' _,j,by omega,b,a,by simp⟩⟩;have q:∀ h,(Instr.slice 27 (.slice (some ⟨w.heap.size,0,none⟩) n cap) none (some (.int .i64 0)) none).run prog h=.ok (.slice (some ⟨w.heap.size,0,none⟩) 0 cap) h:=λh=>by
  rw[run_slice_h (P:=prog) h 27 (some ⟨w.heap.size,0,none⟩) n cap underlying27 .i64 0 (by omega) (by omega)];have e:prog.elem 27=5:=by kernel_rfl
  rw[e,GI];simp[Result.andThen,sliced,Addr.add_mid]
 have m:(0:Int)<(n:Int):=by omega
 clear j a b c l d f g;go_enter func32,ntmps32
 go_wp2_with (at_builtin;refine Lib.wpList_append_run _ rfl _ _ _ _ rfl _ _ rfl rfl _ _ (i _) ?_)
 go_ret;exact⟨_,rfl,p,k⟩
theorem L3(g n M:Nat)(K:List Value)(a:List (List Int))(w:World)(hg:g<w.heap.size)(hn:n<=10)(C:a.length=n)(R:∀ i,i<n->w.cell? ⟨g,i,none⟩=some (K.getD i undef))(U:∀ i,i<n->Sl w (K.getD i undef) (a.getD i []))(y:∀ l∈a,l.length<=1000)(T:0<a.flatten.length) :
  Calls prog 18 #[.slice (some ⟨g,0,none⟩) n M] w λe w'=>∃ v',e=.returned v'/\w'.ownsRow w.heap.size 5 1 v' a.flatten.length (a.flatten.map (Value.int .u8))/\Bw w w':=by
 have c:Hid (a.length=n):=C;have O:Hid _:=R;have P:Hid _:=U;have I:Hid _:=y;have X:Hid _:=T;clear C R U y T;go_enter func18,ntmps18
 go_wp2_with fail
 go_loopw [3,11] (λsv i wr=>∃ j:Nat,j<=n/\i=.int .i64 j/\sv=.int .i64 ((a.take j).flatten.length:Int)/\w=wr) (λ_ i _=>n-(intOf i).toNat)
 case atStart=>exact⟨0,by omega,rfl,by simp,rfl⟩
 case round =>
  obtain⟨j,hj,rfl,rfl,rfl⟩:=hrel;have d:=UC (a.take j) (λl y=>I.out l (nm y));by_cases m:j<n
  .have t:(a.take j).flatten.length<=10000:=by rw[j']at d;omega
   have r:Hid ((a.take (j+1)).flatten.length=(a.take j).flatten.length+(a.getD j []).length):=by unfold Hid;rw[Og a j (by rw[c.out];exact m),G']
   have q:=P.out j m;have J:=O.out j m;have u:(a.getD j []).length<=1000:=by
    have f:j<a.length:=by rw[c.out];exact m
    have:a.getD j []=a[j]:=by simp[List.getD,List.getElem?_eq_getElem f]
    rw[this];exact I.out _ (nJ f)
   generalize K.getD j undef=vj at q J;generalize a.getD j []=lj at q r u;generalize (a.take j).flatten.length=pre at r t;clear d;obtain⟨⟨aj,kj,rfl,_,_,_⟩,_,_⟩:=q;generalize lj.length=nj at *;go_wp2
   go_roundw
   case rel=>exact⟨j+1,by omega,by go_num,by rw[r.out];go_num,by simp⟩
   case measure=>simp[intOf];omega
  .obtain rfl:j=n:=by omega
   have Q:Hid (a.take j=a):=nf (by rw[c.out];exact A' _);have V:a.flatten.length<=10000:=by rw[Q.out,c.out]at d;omega
   rw[Q.out];clear d;have L:=X.out;generalize G:a.flatten.length=Z at V L;have Y:Hid (a.flatten.length=Z):=G;clear G;go_wp2_with fail
   refine(YI Z w L (by omega)).mono ?_;rintro e w1 ⟨v1,rfl,x,A⟩;clear L V;obtain⟨g1,c1,rfl⟩:=CA x;have z:Hid (w1.ownsRow w.heap.size 5 1 (.slice g1 0 c1) (a.take 0).flatten.length ((a.take 0).flatten.map (Value.int .u8))):=by unfold Hid;simpa using x
   clear x;go_wp2_with fail
   go_loopw [6,27] (λv i wr=>∃ k:Nat,k<=j/\i=.int .i64 k/\Hid (wr.ownsRow w.heap.size 5 1 v (a.take k).flatten.length ((a.take k).flatten.map (Value.int .u8)))/\Bw w wr) (λ_ i _=>j-(intOf i).toNat)
   case atStart=>exact⟨0,by omega,rfl,z,A⟩
   case round =>
    obtain⟨k,S,rfl,h,s⟩:=hrel;have b:=h.out;clear h z A;have D:=b.lt;by_cases o:k<j
    .have d:=UC (a.take k) (λl y=>I.out l (nm y));have t:(a.take k).flatten.length<=10000:=by rw[j']at d;omega
     have r:Hid ((a.take (k+1)).flatten=(a.take k).flatten++a.getD k []):=Og a k (by rw[c.out];exact o);have q:=(P.out k o).af s;have J:=(s.cell (p:=⟨g,k,none⟩) hg).trans (O.out k o);have u:(a.getD k []).length<=1000:=by
      have f:k<a.length:=by rw[c.out];exact o
      have:a.getD k []=a[k]:=by simp[List.getD,List.getElem?_eq_getElem f]
      rw[this];exact I.out _ (nJ f)
     generalize K.getD k undef=vj at q J;generalize a.getD k []=lj at q r u;generalize (a.take k).flatten=pre at b r t;clear d;have H:=q;obtain⟨⟨aj,kj,rfl,_,_,_⟩,_,_⟩:=q;go_wp2_with (at_builtin;refine Aa _ rfl _ _ 27 rfl w.heap.size 5 underlying27 Ax _ _ rfl rfl pre lj b H (by omega) s.size ?_)
     intro v2 W E B;have F:W.ownsRow w.heap.size 5 1 v2 (pre++lj).length ((pre++lj).map (Value.int .u8)):=by simpa using E
     have N:Bw w W:=s.grown B s.size (λk S=>(D k S).1);clear E B b D s H J;go_wp2
     go_roundw
     case rel=>exact⟨k+1,by omega,by go_num,by rw[r.out];exact F,N⟩
     case measure=>simp[intOf];omega
    .have HJ:Hid (a.take k=a):=by unfold Hid;exact nf (by rw[c.out];omega)
     go_wp2
     go_ret;refine⟨u6,rfl,?_,s⟩;rw[HJ.out]at b
     exact b
theorem cV(f h a:Value)(b c d:List Int)(w:World)(e:TypeId)(g:Nat)(o:g=w.heap.size)(k:Sl w f b)(m:Sl w h c)(n:Sl w a d)(p:b.length<=1000)(q:c.length<=1000)(r:d.length<=1000)(s:0<b.length) :
  Calls prog 18 #[.slice (some ⟨g,0,none⟩) 3 3] (w.alloc (.cells #[f,h,a] e)) λe w'=>∃ v',e=.returned v'/\w'.ownsRow w.heap.size 5 1 v' (b++(c++d)).length ((b++(c++d)).map (Value.int .u8))/\Bw w w':=by
 subst o;have j:Bw w (w.alloc (.cells #[f,h,a] e)):=(Below.refl _ _).alloc (A' _) _;refine(L3 w.heap.size 3 3 [f,h,a] [b,c,d] (w.alloc (.cells #[f,h,a] e)) (by simp) (by omega) rfl ?_ ?_ ?_ ?_).mono ?_
 .intro i hi;rw[cell_of_row _ _ i _ _ _ (heap_alloc_new w _)];obtain rfl|rfl|rfl:i=0\/i=1\/i=2:=by omega
  all_goals rfl
 .intro i hi;obtain rfl|rfl|rfl:i=0\/i=1\/i=2:=by omega
  .exact k.af j
  .exact m.af j
  .exact n.af j
 .intro l hl;simp only[mZ,Q',or_false]at hl;rcases hl with rfl|rfl|rfl
  .exact p
  .exact q
  .exact r
 .simp;omega
 .rintro e w2 ⟨a,rfl,ho,hb⟩;exact⟨a,rfl,BL (by simpa using ho) (by simp),j.trans (hb.mono (by simp))⟩
variable{P:Program}{W w:World}{c k n s tc tr tu v:Int}{e:TypeId}{g:Nat}{x:S3}{y:Operand}
theorem cU{c d:Value}{a b:List Int}(f:w.heap[g]?=some (.cells #[c,d] e))(h:Sl w c a)(j:Sl w d b)(k:a.length<=1000)(m:b.length<=1000)(n:0<a.length) :
  Calls prog 18 #[.slice (some ⟨g,0,none⟩) 2 2] w λe w'=>∃ v',e=.returned v'/\w'.ownsRow w.heap.size 5 1 v' (a++b).length ((a++b).map (Value.int .u8))/\Bw w w':=by
 refine(L3 g 2 2 [c,d] [a,b] w (U'.1 f).1 (by omega) rfl ?_ ?_ ?_ ?_).mono ?_
 .intro i hi;rw[cell_of_row _ _ i _ _ _ f];obtain rfl|rfl:i=0\/i=1:=by omega
  all_goals rfl
 .intro i hi;obtain rfl|rfl:i=0\/i=1:=by omega
  .exact h
  .exact j
 .intro l hl;simp only[mZ,Q',or_false]at hl;rcases hl with rfl|rfl
  .exact k
  .exact m
 .simp;omega
 .rintro e w2 ⟨v2,rfl,ho,hb⟩;exact⟨v2,rfl,by simpa using ho,hb⟩
theorem YH(d:Sl w x.v Fo)(f:AD w)(h:Du tc tr tu) :
  Calls prog 13 #[x.v,.agg #[iv tc,iv tr,iv tu]] w λe w'=>∃ y:S3,e=.returned (.tuple #[y.v,iv 0])/\Sl w' y.v (EL Fo tc tr tu)/\Bw w w':=by
 refine(Wb x.v Fo tc tr tu w d f).mono ?_;have a:Nv Fo tc tr tu=0:=by rw[Q7 G0];exact Jl h
 rintro e w' ⟨v,rfl,b,c⟩;rw[show Q8 Fo tc tr tu=EL Fo tc tr tu from if_pos a]at b
 rw[a];obtain⟨y,rfl,g⟩:=Py b (by rw[BH];decide) (ON _ h);exact⟨y,rfl,g,c⟩
theorem XO{y:S3}{l m:List Int}(j:w.heap[g]?=some (.cells #[x.v,y.v] e))(b:Sl w x.v l)(c:Sl w y.v m)(n:l.length<=1000)(o:m.length<=1000)(p:0<l.length) :
  Calls prog 18 #[.slice (some ⟨g,0,none⟩) 2 2] w λe w'=>∃ z:S3,e=.returned z.v/\Sl w' z.v (l++m)/\Nb w.heap.size z (l++m)/\Bw w w':=by
 refine(cU j b c n o p).mono ?_;rintro e w' ⟨v,rfl,i,f⟩;obtain⟨z,rfl,k,h⟩:=JE i (by rw[G'];omega) (λa d=>(P'.1 d).elim (b.byte a) (c.byte a));exact⟨z,rfl,k,h,f⟩
theorem UY{m:Int}(h:paE n tc tr tu k c s m v=0)(o:Tabs w) :
  Calls prog 6 #[iv n,.agg #[iv tc,iv tr,iv tu],.agg #[iv k,iv c,iv s,iv m,iv v]] w λe w'=>∃ y:S3,e=.returned (.tuple #[y.v,iv 0])/\Sl w' y.v (paL n tc tr tu k c s m v)/\Nb w.heap.size y (paL n tc tr tu k c s m v)/\Bw w w':=by
 obtain⟨Y,hB,X⟩:=IN h;have hc:=(Dg X).2;unfold InC at hc;rw[Pz h];refine kIn func6 (kR 11 [0,0,0,0] λb4 w1 b1=>kV 1 (.bool false) (rLt (x:=(.tmp 14)) (y:=(.const (iv 0))) (t:=3) (m:=n) (n:=0) (H' (by omega))) (kR 2 [] λb6 w2 b2=>kV 4 (.bool false) (rGe (x:=(.tmp 17)) (y:=(.const (iv 1073741824))) (t:=3) (m:=n) (n:=1073741824) (H' (by omega))) (kR 7 [8,2,0] λb7 w3 b3=>?_)));have S:=(btr (btr b1 b2) b3);refine kC 0 (J7 (o.t.af S)) ?_;rintro _ w5 ⟨yi,rfl,M,_,U⟩;refine⟨_,rfl,U,?_⟩;have T:=(btr S U);refine kC 2 (YH M (o.t.af T) hB) ?_;rintro _ w8 ⟨yt,rfl,Q,V⟩;refine⟨_,rfl,V,?_⟩;refine kR 17 [6,8,10,12,14,1] λc0 w9 W=>?_;have p:=(btr (btr T V) W);refine kC 1 (Y0 (m:=⟨k,c,s,m,v⟩) (o.n.af p) X) ?_;rintro _ a2 ⟨yc,rfl,L,g⟩;refine⟨_,rfl,g,?_⟩;refine kR 18 [1] λZ a3 i=>?_;have r:=(btr (btr p g) i);refine kC 2 (YW (c:=c) (by omega) (by omega) (o.t.af r)) ?_;rintro _ a4 ⟨yk,rfl,N,_,d⟩;refine⟨_,rfl,d,?_⟩;refine kR 22 [0,0] λH a5 f=>Af λK=>kC 6 (XO (K.uG 2 (H 0) _ 27 .z true (by kernel_rfl)) (((((Q.af W).af g).af i).af d).af f) (((L.af i).af d).af f) (by rw[BH];decide) (by rw[BE];decide) (by rw[BH];decide)) ?_;rintro _ a6 ⟨yp,rfl,O,_,j⟩;refine⟨_,rfl,j,?_⟩;have A:=(btr (btr (btr r d) f) j);refine kC 7 (fd ((N.af f).af j) (Cw c) O (mS (Nat.le_of_eq (DE tc tr tu k c s m v)) (by decide)) ⟨Y.1,Y.2⟩ (o.q.af o.q.pos A)) ?_;rintro _ a7 ⟨u,z,rfl,hz,_,C⟩;refine⟨_,rfl,C,?_⟩;refine kR 21 [0,0,3,0,1] λa0 a8 D=>kV 2 (.int .u8 c) (gk (P:=prog) (src:=3) (dst:=5) (k:=.i64) (n:=c) (by kernel_rfl) underlying5 (by kernel_rfl) (by rw[IntKind.wrap_u8];omega)) (kR 3 [0,0,0,0] λb R E=>Af λK=>?_);have J:Sl R (S3.v ⟨some ⟨(b 0),0,none⟩,1,1⟩) [c]:=Sl.ofRow (l:=[c]) (K.uG 4 (b 0) _ 5 .z true (by kernel_rfl)) (by show 1<=_;decide) (λa ha=>by rw[D'.1 ha];omega);have B:=(btr (btr (btr A C) D) E);refine kC 6 (XO (x:=⟨some ⟨(b 0),0,none⟩,1,1⟩) (K.uG 5 (b 1) _ 27 .z true (by kernel_rfl)) J ((hz.af D).af E) (by show 1<=1000;decide) (by rw[Dn];show(paP tc tr tu k c s m v).length+20<=1000;rw[DE];decide) (by show 0<1;decide)) ?_;rintro _ a9 ⟨y,rfl,hy,hw,F⟩;refine⟨_,rfl,F,?_⟩;refine kR 3 [] λa1 b0 G=>?_;have I:=(btr (btr B F) G);exact kE (.tuple #[S3.v y,iv 0]) ⟨y,rfl,(hy.af G),hw.mono B.size,I⟩
theorem lD(a:Int)(h:-9223372036854775808<=-a/\-a<=9223372036854775807):(Op.unary .neg (iv a)).run P W=.ok (iv (-a)) W:=by
 simp[go_sem];rw[IntKind.wrap_i64];omega
theorem Rm{x:Operand}(a b:Int)(i:P.underlying 3=some (.int .i64))(f:0<=a)(g:a<=9223372036854775807)(j:0<b)(h:b<=9223372036854775807):(do Go.eqGuard .rem 3 x y (iv a) (iv b);Go.binOp .rem 3 (iv a) (iv b):Sem Value).run P W=.ok (iv (a%b)) W:=by
 have e:=lE (P:=P) (W:=W) (x:=x) (y:=y) a.toNat b.toNat i (by omega) (by omega) (by omega);have c:((a.toNat:Nat):Int)=a:=pH f;have d:((b.toNat:Nat):Int)=b:=pH (by omega);rw[c,d]at e
 rw[e,rL,c,d]
theorem gu{x:Operand}(a:Int)(e:P.underlying 3=some (.int .i64))(b:0<=a)(c:a<=1000):(do Go.eqGuard .quo 3 x y (iv a) (iv 2);Go.binOp .quo 3 (iv a) (iv 2):Sem Value).run P W=.ok (iv (a/2)) W:=by
 have d:a.tdiv 2=a/2:=ry b;simp only[Go.eqGuard,go_sem,Op.intDiv];simp[d];rw[IntKind.wrap_i64];omega
theorem AZ(h:I64 n)(a:Int)(d:0<a:=by decide)(b:a<=9223372036854775807:=by decide) :
  Calls prog 12 #[iv n,iv a] w λe w'=>e=.returned (iv (pick n a))/\Bw w w':=by
 unfold I64 at h;refine tIn [] func12 trivial (tR 10 [] λf _ _=>?_);by_cases c:n<0
 .refine tI ((decide (n<0))) true (O' c) (tR 2 [] λg _ _=>tV 1 (iv (n+1)) (λF C=>(AX 7 n underlying3 (by omega))) (tV 2 (iv (-(n+1))) (λF C=>(lD (n+1) (by omega))) (tR 6 [] λi _ _=>tV 2 (iv (-(n+1)%a)) (λF C=>(Rm (x:=(.tmp 10)) (y:=(.tmp 11)) (-(n+1)) a underlying3 (by omega) (by omega) d b)) (tR 2 [] λj _ _=>tE (iv (-(n+1)%a)) λ_ B=>⟨by rw[show pick n a=_ from if_pos c],B⟩))))
 .refine tI ((decide (n<0))) false (H' c) (tR 5 [] λk _ _=>tV 2 (iv (n%a)) (λF C=>(Rm (x:=(.tmp 10)) (y:=(.tmp 11)) n a underlying3 (by omega) (by omega) d b)) (tR 2 [] λl _ _=>tE (iv (n%a)) λ_ B=>⟨by rw[show pick n a=_ from if_neg c],B⟩))
theorem V5(h:I64 n)(a:Int)(c:0<a:=by decide)(b:a<=9223372036854775807:=by decide) :
  Calls prog 5 #[iv n,iv a] w λe w'=>e=.returned (iv (pick n a))/\Bw w w':=by
 refine tIn [] func5 trivial (tR 8 [] λd _ _=>tC1 2 (λF C=>AZ h a c b) λ_=>tR 2 [] λf _ _=>tE (iv (pick n a)) λ_ B=>⟨rfl,B⟩)
theorem RN(t:I64 k)(r:I64 c)(q:I64 s)(f:I64 n)(M:I64 v) :
  Calls prog 4 #[.agg #[iv k,iv c,iv s,iv n,iv v]] w λe w'=>e=.returned (.agg #[iv (wK k),iv (pick c 4),iv (pick s 6),iv (pick n 4),iv (wV k v)])/\Bw w w':=by
 have O:=Cj k 5 (by omega);refine tIn [] func4 trivial (tR 15 [0,0,1,0,17,0,2,0,10,12,0,16,18,0,22,24,0] λa _ _=>Je 27 (λL K g=>∃ (b:Nat),L=[(1,pt (a 0) 0),(2,pt (a 1) 0),(3,pt b 0)]/\K=[⟨(a 0),.cells #[iv k,iv c,iv s,iv n,iv v] 23,.z,false⟩,⟨(a 1),.cells #[iv 0,iv 0,iv 0,iv 0,iv 0] 24,.l,false⟩,⟨b,.cells #[iv (wK k),iv (pick c 4),iv (pick s 6),iv (pick n 4),iv 0] 24,.l,false⟩]/\g=[]) (λJ d=>?_) ?_)
 .refine Hr 2 15 ?_ ?_
  .refine tC 2 (λF C=>AZ t 5) λN=>?_;rintro _ _ ⟨rfl,b⟩;refine⟨_,_,rfl,b,id,?_⟩;refine tT 3 (iv (pick k 5/2)) (λ_=>(gu (x:=(.tmp 6)) (y:=(.const (iv 2))) (pick k 5) underlying3 (by omega) (by omega))) (tT 4 (iv (wK k)) (λ_=>(JG (x:=(.const (iv 1))) (y:=(.tmp 7)) 1 (pick k 5/2) underlying3 (by omega))) (Hr 7 15 ?_ ?_))
   .refine tC1 7 (λF C=>AZ r 4) λ_=>Hr 10 15 ?_ ?_
    .refine tC1 10 (λF C=>AZ q 6) λ_=>Hr 13 15 ?_ ?_
     .refine tC1 13 (λF C=>AZ f 4) λ_=>tR 4 [28,31,1,0,33,2,0] λh _ _=>tD d [true,true,true] ⟨(h 0),rfl,rfl,rfl⟩ (λF=>trivial)
     .refine tR 1 [1,0] λi _ _=>tC1 13 (λF C=>AZ f 4) λ_=>tR 3 [28,33,2,0] λu _ _=>tD d [true,true,true] ⟨(i 0),rfl,rfl,rfl⟩ (λF=>trivial)
    .refine tR 1 [1,0] λj _ _=>tC1 10 (λF C=>AZ q 6) λ_=>tC1 13 (λF C=>AZ f 4) λ_=>tR 3 [28,33,2,0] λA _ _=>tD d [true,true,true] ⟨(j 0),rfl,rfl,rfl⟩ (λF=>trivial)
   .refine tR 1 [1,0] λm _ _=>tC1 7 (λF C=>AZ r 4) λ_=>tC1 10 (λF C=>AZ q 6) λ_=>tC1 13 (λF C=>AZ f 4) λ_=>tR 3 [28,33,2,0] λB _ _=>tD d [true,true,true] ⟨(m 0),rfl,rfl,rfl⟩ (λF=>trivial)
  .refine tR 1 [1,0] λo _ _=>tC1 2 (λF C=>AZ t 5) λ_=>tT 3 (iv (pick k 5/2)) (λ_=>(gu (x:=(.tmp 6)) (y:=(.const (iv 2))) (pick k 5) underlying3 (by omega) (by omega))) (tT 4 (iv (wK k)) (λ_=>(JG (x:=(.const (iv 1))) (y:=(.tmp 7)) 1 (pick k 5/2) underlying3 (by omega))) (tC1 7 (λF C=>AZ r 4) λ_=>tC1 10 (λF C=>AZ q 6) λ_=>tC1 13 (λF C=>AZ f 4) λ_=>tR 3 [28,33,2,0] λD _ _=>tD d [true,true,true] ⟨(o 0),rfl,rfl,rfl⟩ (λF=>trivial)))
 rintro _ _ _ ⟨b,rfl,rfl,rfl⟩ _ _ _;refine tR 7 [2] λE _ _=>?_;by_cases p:wK k=1
 .refine tI (((wK k)==1)) true (by simpa using p) (tR 3 [0] λG _ _=>tC1 2 (λF C=>AZ M 1000) λ_=>tR 8 [2,0,2,1,0] λH _ _=>tX λF C=>qE1 2 24 1 (a 1) #[iv (wK k),iv (pick c 4),iv (pick s 6),iv (pick n 4),iv (pick v 1000)] λ_=>⟨by rw[show wV k v=_ from if_pos p],CgQ.af C⟩)
 .refine tI (((wK k)==1)) false (by simpa using p) (tR 6 [2,1,0] λI _ _=>tX λF C=>qE1 2 24 1 (a 1) #[iv (wK k),iv (pick c 4),iv (pick s 6),iv (pick n 4),iv 0] λ_=>⟨by rw[show wV k v=_ from if_neg p],CgQ.af C⟩)
theorem YL{a:List Cmd}{c:Cmd}(h:RdV w x 5 (cmL a))(R:a.length<1000000){r:Bool}(l:decide (c∈a)=r) :
  Calls prog 11 #[x.v,.agg #[iv c.k,iv c.c,iv c.s,iv c.n,iv c.v]] w λe w'=>e=.returned (.bool r)/\Bw w w':=by
 have T:=cR h;refine tIn [Fa.zv x 5 (cmL a)] func11 ⟨h.fz,trivial⟩ (tR 11 [0,0] λb _ _=>Ek 18 [(0,S3.v x),(3,pt (b 0) 0),(5,iv 0)] [true] [⟨(b 0),.cells #[iv c.k,iv c.c,iv c.s,iv c.n,iv c.v] 24,.z,false⟩] [Fa.zv x 5 (cmL a)] (λG A t g=>∃ (i:Nat),G=a.length-i/\A=[(0,S3.v x),(3,pt (b 0) 0),(5,iv (i:Int))]/\t=[⟨(b 0),.cells #[iv c.k,iv c.c,iv c.s,iv c.n,iv c.v] 24,.z,false⟩]/\g=[Fa.zv x 5 (cmL a)]/\i<=a.length/\c∉a.take i) (a.length) ⟨0,rfl,rfl,rfl,rfl,by omega,by simp⟩ (λF=>F) ?_);rintro k _ _ _ ⟨i,rfl,rfl,rfl,rfl,S,m⟩ _ _ _ J D;refine tR 8 [] λI _ _=>?_;by_cases Q:i<a.length
 .refine tI ((decide ((i:Int)<(x.n:Int)))) true (O' (by omega)) ?_;obtain⟨d,o⟩:∃ d,a[i]?=some d:=⟨_,E' (by omega)⟩;refine tF λF _=>?_;obtain⟨bx,H,f⟩:=F.1.rd.rc.addr (k:=i) (by omega);refine tR 7 [6,0,2] λK _ _=>tT 2 (pt bx (H+5*i)) (λ_=>(Ms f i (by omega))) (tR 1 [8,0] λL _ _=>tV 3 (.agg #[iv d.k,iv d.c,iv d.s,iv d.n,iv d.v]) (λF C=>(TG d λU u E=>F.1.rd.rc.cellAt f o E)) (tT 5 (.bool (decide (d=c))) (λ_=>(lh (x:=(.tmp 15)) (y:=(.tmp 16)) d c)) (tR 1 [] λM _ _=>?_)));by_cases j:d=c
  .refine tI ((decide (d=c))) true (O' j) (tR 4 [] λN _ _=>?_);rw[O' (j▸np o)]at l
   subst l;exact tE (.bool true) λ_ B=>⟨rfl,B⟩
  .refine tI ((decide (d=c))) false (H' j) (tR 4 [] λO _ _=>tV 1 (iv ((i:Int)+1)) (λF C=>(AX 10 (i:Int) underlying3 (by omega))) (tR 2 [] λP _ _=>tB D (a.length-(i+1)) (by omega) [true] ⟨i+1,rfl,rfl,rfl,rfl,by omega,λp=>by rw[oF,o]at p;rcases P'.1 p with h|h;exact m h;exact j (by simp at h;exact h.symm)⟩ (λF=>F)))
 .refine tI ((decide ((i:Int)<(x.n:Int)))) false (H' (by omega)) (tR 5 [] λq _ _=>?_);rw[nf (by omega)]at m
  rw[H' m]at l
  subst l;exact tE (.bool false) λ_ B=>⟨rfl,B⟩
end
end
section
structure Alw where
 ca:Bool
 ld:Bool
 cr:Bool
 st:Bool
structure NInv(A:Alw)(i:Nat)(D:List Int->Prop)(Q:Let->Prop)(P:Nod->Prop):Prop where
 take:A.ca=true->∀ p l,P p->Q l->l.dst=i->p.up=true->P (p.take l)
 one:∀ p c,P p->p.up=true->p.ae[p.done]?=some c->doE p.ni c=0->P (Nod.fv { p with ni:=doS p.ni c,done:=p.done+1 } c)
 ask:∀ p,P p->p.up=true->P (p.jv i).1/\∀ l∈(p.jv i).2,Q l
 prop:∀ p,P p->p.up=true->P p.cx
 so:∀ p,P p->p.up=true->P p.so
 run:∀ p q l,P p->p.up=true->p.bu=q::l->¬ p.sy<(p.d.length:Int)->P { p.ln i q with bu:=l }/\∀ m∈p.sc i q,Q m
 sg:∀ p,P p->p.up=true->p.leads=true->P (EI p i 5)/\∀ l∈Dt p i 5,Q l
 lead:A.ld=true->∀ p,P p->p.up=true->P (p.lead i)
 sub:∀ p d ts,P p->D d->p.up=true->P (p.sj i d ts).1
 lp:A.cr=true->∀ p k,P p->0<=k->p.up=true->P (p.lp k)
 start:A.st=true->∀ p,P p->p.up=false->P p.start
theorem OE(p:Nod)(i:Nat)(q:Pend)(x:List Pend):({ p with bu:=x }:Nod).ln i q={ p.ln i q with bu:=x }:=by
 cases q with
 | began b vs=>unfold Nod.ln;simp only;split<;>rfl
 | prop v =>
  unfold Nod.ln Nod.count;simp only;split
  .rfl
  .split<;>rfl
 | _=>rfl
theorem DG(p:Nod)(i:Nat)(q:Pend):(p.ln i q).bu=p.bu/\(p.ln i q).up=p.up/\(p.ln i q).d=p.d/\(p.ln i q).sy=p.sy:=by
 cases q with
 | began b vs=>unfold Nod.ln;simp only;split<;>exact⟨rfl,rfl,rfl,rfl⟩
 | prop v =>
  unfold Nod.ln Nod.count;simp only;split
  .exact⟨rfl,rfl,rfl,rfl⟩
  .split<;>exact⟨rfl,rfl,rfl,rfl⟩
 | _=>exact⟨rfl,rfl,rfl,rfl⟩
theorem MB(p:Nod)(i:Nat)(q:Pend)(x:List Pend):({ p with bu:=x }:Nod).sc i q=p.sc i q:=by cases q<;>rfl
theorem DY(p:Nod)(c:Cmd):(p.fv c).up=p.up/\(p.fv c).ae=p.ae/\(p.fv c).done=p.done/\(p.fv c).ni=p.ni:=by unfold Nod.fv;split<;>exact⟨rfl,rfl,rfl,rfl⟩
theorem S7(p:Nod)(l:List Cmd):(p.dT l).up=p.up:=by unfold Nod.dT;split<;>rfl
theorem Ix(p:Nod)(i:Nat):(p.jv i).1.up=p.up:=by
 unfold Nod.jv;split
 .rfl
 .split
  .exact S7 _ _
  .rfl
theorem fO(p:Nod)(v:Vt):(p.cl v).1.up=p.up:=by
 unfold Nod.cl;split
 .rfl
 .split
  .rfl
  .split<;>rfl
theorem EE(p:Nod):p.cx.up=p.up:=by
 unfold Nod.cx;split
 .rfl
 .split
  .rfl
  .split
   .rfl
   .exact fO p _
theorem j5(p:Nod):p.so.up=p.up:=by unfold Nod.so;split<;>rfl
section
variable{A:Alw}{i:Nat}{D:List Int->Prop}{Q:Let->Prop}{P:Nod->Prop}
theorem NInv.sq(h:NInv A i D Q P)(l:List Cmd)(p:Nod)(e:List Tol)(d:P p)(a:p.up=true)(f:p.ae.drop p.done=l):P (sq i l p e).1/\(Go.Proofs.YthkjeoamjgnpoaaGreatDoor.sq i l p e).1.up=true:=by
 induction l generalizing p e with
 | nil=>exact⟨d,a⟩
 | cons c l ih =>
  rw[Go.Proofs.YthkjeoamjgnpoaaGreatDoor.sq];split
  .exact⟨d,a⟩
  .rename_i he
   have g:p.ae[p.done]?=some c:=by
    have:=congrArg (·[0]?) f;simpa using this
   have b:=DY { p with ni:=doS p.ni c,done:=p.done+1 } c;refine ih _ _ (h.one p c d a g (mX.1 he)) (b.1.trans a) ?_;rw[b.2.1,b.2.2.1];show p.ae.drop (p.done+1)=l;rw[<- pK,f];rfl
theorem NInv.qv(h:NInv A i D Q P)(l:List Pend)(p:Nod)(ls:List Let)(b:P { p with bu:=l })(c:p.up=true)(k:p.bu=[])(j:¬ p.sy<(p.d.length:Int))(g:∀ m∈ls,Q m):P (qv i l p ls).1/\(∀ m∈(Go.Proofs.YthkjeoamjgnpoaaGreatDoor.qv i l p ls).2,Q m)/\(Go.Proofs.YthkjeoamjgnpoaaGreatDoor.qv i l p ls).1.up=true:=by
 induction l generalizing p ls with
 | nil =>
  refine⟨?_,g,c⟩;have:({ p with bu:=[] }:Nod)=p:=by cases p;simp_all
  rw[this]at b;exact b
 | cons q l ih =>
  have a:=DG p i q;obtain⟨e,f⟩:=h.run { p with bu:=q::l } q l b c rfl j;rw[OE]at e
  rw[MB]at f
  exact ih (p.ln i q) (ls++p.sc i q) e (a.2.1.trans c) (a.1.trans k) (by rw[a.2.2.1,a.2.2.2];exact j) λm n=>(P'.1 n).elim (g m) (f m)
theorem NInv.piece(h:NInv A i D Q P)(p:Nod)(ls:List Let)(ts:List Tol)(y:P p)(z:p.up=true)(x:∀ m∈ls,Q m):P (p.piece i ls ts).1/\∀ m∈(p.piece i ls ts).2.1,Q m:=by
 obtain⟨s,n⟩:=h.sq _ p ts y z rfl;unfold Nod.piece;simp only;obtain⟨t,u⟩:=h.ask _ s n;have o:=(Ix (Go.Proofs.YthkjeoamjgnpoaaGreatDoor.sq i (p.ae.drop p.done) p ts).1 i).trans n;have f:=h.prop _ t o;have c:=(EE ((Go.Proofs.YthkjeoamjgnpoaaGreatDoor.sq i (p.ae.drop p.done) p ts).1.jv i).1).trans o;have a:∀ m∈ls++((Go.Proofs.YthkjeoamjgnpoaaGreatDoor.sq i (p.ae.drop p.done) p ts).1.jv i).2,Q m:=λm g=>(P'.1 g).elim (x m) (u m);generalize ls++((Go.Proofs.YthkjeoamjgnpoaaGreatDoor.sq i (p.ae.drop p.done) p ts).1.jv i).2=k at a ⊢;generalize ((Go.Proofs.YthkjeoamjgnpoaaGreatDoor.sq i (p.ae.drop p.done) p ts).1.jv i).1.cx=r at f c ⊢;have b:P (r.qk i k).1/\(∀ m∈(r.qk i k).2,Q m)/\(r.qk i k).1.up=true:=by
  unfold Nod.qk;split
  .exact⟨f,a,c⟩
  .rename_i hn
   have j:=h.so r f c;have l:r.so.bu=r.bu:=by unfold Nod.so;split<;>rfl
   refine h.qv r.bu { r.so with bu:=[] } k (by rw[<- l];exact j) ((j5 r).trans c) rfl ?_ a;show ¬ r.so.sy<(r.so.d.length:Int);unfold Nod.so;split
   .rename_i h1
    have:Db r.d r.sy=0:=mX.1 λe=>hn ⟨h1,e⟩;have q:AV r.d r.sy:=by
     unfold Db at this;split at this
     .assumption
     .cases this
    show ¬ Io r.d r.sy<((Hq r.d r.sy).length:Int);unfold Io Hq;rw[if_pos q,if_pos q];exact rJ _
   .rename_i h1;exact h1
 unfold Nod.bw;split
 .rename_i hL
  obtain⟨v,w⟩:=h.sg _ b.1 b.2.2 hL;exact⟨v,λm g=>(P'.1 g).elim (b.2.1 m) (w m)⟩
 .exact⟨b.1,b.2.1⟩
end
section
structure GInv(Q:Let->Prop)(P:Nat->Nod->Prop)(M:Meet):Prop where
 ab:∀ i,i<5->P i (M.ab i)
 br:∀ l∈M.br,Q l
variable{A:Alw}{D:Nat->List Int->Prop}{M:Meet}{P:Nat->Nod->Prop}{Q:Let->Prop}{R:List Tol->Prop}{i:Nat}
theorem GInv.set(h:GInv Q P M){i:Nat}{p:Nod}{ls:List Let}{ts:List Tol}(c:P i p)(b:∀ l∈ls,Q l):GInv Q P (M.set i p ls ts) :=
 ⟨λj a=>by
  show P j (upN M.ab i p j);unfold upN;split
  .rename_i e;rw[e];exact c
  .exact h.ab j a,b⟩
theorem GInv.pd(b:∀ i,i<5->NInv A i (D i) Q (P i))(c:A.ca=true){M:Meet}(h:GInv Q P M){l:Let}(d:Q l)(a:l.dst<5):GInv Q P (M.pd l):=by
 unfold Meet.pd;split
 .rename_i hu
  exact h.set (ls:=M.br) (ts:=M.ed) ((b _ a).take c _ l (h.ab _ a) d rfl hu) h.br
 .exact h
theorem GInv.comes(b:∀ i,i<5->NInv A i (D i) Q (P i))(c:A.ca=true)(l:List Let){M:Meet}(h:GInv Q P M)(a:∀ m∈l,Q m/\m.dst<5):GInv Q P (l.foldl (λM l=>M.pd l) M):=by
 induction l generalizing M with
 | nil=>exact h
 | cons x l ih=>exact ih (h.pd b c (a x M').1 (a x M').2) λm d=>a m (I' _ d)
structure Alw.Ok(A:Alw)(x:Lac):Prop where
 ca:x.k=4\/x.k=6\/x.k=7->A.ca=true
 ld:x.k=2->A.ld=true
 cr:x.k=8->A.cr=true
 st:x.k=9->A.st=true
theorem GInv.act(g:∀ i,i<5->NInv A i (D i) Q (P i)){n:Nat}{M:Meet}(h:GInv Q P M)(B:MOk n M){x:Lac}(C:LacOk x)(q:A.Ok x)(F:x.k=1->D x.n.toNat x.d):GInv Q P (M.act x):=by
 have b:∀ {k:Int},x.k=k->Gj k=true->x.n.toNat<5:=λ{k} e E=>by have:=C.n (by rw[e];exact E);omega
 unfold Meet.act;simp only;by_cases r:x.k=1
 .rw[if_pos r];have c:=b r rfl;refine h.set ?_ h.br;unfold Nod.sj;by_cases f:(M.ab x.n.toNat).up=true
  .exact(g _ c).sub _ x.d M.ed (h.ab _ c) (F r) f
  .unfold Nod.ss;rw[if_pos (by simpa using f)];exact h.ab _ c
 .rw[if_neg r];by_cases s:x.k=2
  .rw[if_pos s];have c:=b s rfl;refine h.set ?_ h.br;split
   .rename_i f;exact(g _ c).lead (q.ld s) _ (h.ab _ c) f
   .exact h.ab _ c
  .rw[if_neg s];by_cases u:x.k=3
   .rw[if_pos u];have c:=b u rfl;by_cases f:(M.ab x.n.toNat).up=true
    .have:=(g _ c).piece _ M.br M.ed (h.ab _ c) f h.br;rw[if_pos f,if_pos f,if_pos f];exact h.set this.1 this.2
    .rw[if_neg f,if_neg f,if_neg f];exact h.set (h.ab _ c) h.br
   .rw[if_neg u];by_cases w:x.k=4\/x.k=5\/x.k=6
    .rw[if_pos w];unfold Meet.move;split
     .exact h
     .rename_i l v
      have j:=np v;have z:GInv Q P (if x.k≠6 then{ M with br:=M.br.eraseIdx (x.a.toNat%M.br.length) }else M):=by
       split
       .exact⟨h.ab,λm j=>h.br m (qb j)⟩
       .exact h
      simp only;split
      .rename_i h5
       exact z.pd g (q.ca (by omega)) (h.br l j) (B.br l j).dst
      .exact z
    .rw[if_neg w];by_cases y:x.k=7
     .rw[if_pos y];unfold Meet.si;exact GInv.comes g (q.ca (by omega)) _ ⟨h.ab,λl v=>by cases v⟩ λm j=>⟨h.br m j,(B.br m j).dst⟩
     .rw[if_neg y];by_cases o:x.k=8
      .rw[if_pos o];have c:=b o rfl;refine h.set ?_ h.br;split
       .rename_i f;exact(g _ c).lp (q.cr o) _ x.p (h.ab _ c) (C.p (by rw[o];rfl)).1 f
       .exact h.ab _ c
      .rw[if_neg o];by_cases t:x.k=9
       .rw[if_pos t];have c:=b t rfl;refine h.set ?_ h.br;split
        .exact h.ab _ c
        .rename_i f;exact(g _ c).start (q.st t) _ (h.ab _ c) (by simpa using f)
       .rw[if_neg t];exact h
structure TInv(i:Nat)(D:List Int->Prop)(P:Nod->Prop)(R:List Tol->Prop):Prop where
 one:∀ p c ts,P p->p.up=true->p.ae[p.done]?=some c->doE p.ni c=0->(p.bN c).isSome=true->R ts->R (ts++[⟨i,c.c,c.s,doC p.ni c,doA p.ni c⟩])
 sub:∀ p d ts,P p->D d->p.up=true->opE d (p.done:Int)=0->Eb d (p.done:Int)∈p.ae.take p.done->R ts->R (ts++[⟨i,(Eb d (p.done:Int)).c,(Eb d (p.done:Int)).s,doC p.ni (Eb d (p.done:Int)),doA p.ni (Eb d (p.done:Int))⟩])
theorem TInv.sq{D:List Int->Prop}{P:Nod->Prop}(h:NInv A i D Q P)(t:TInv i D P R)(l:List Cmd)(p:Nod)(b:List Tol)(j:P p)(e:p.up=true)(g:p.ae.drop p.done=l)(a:R b):R (sq i l p b).2:=by
 induction l generalizing p b with
 | nil=>exact a
 | cons c l ih =>
  rw[Go.Proofs.YthkjeoamjgnpoaaGreatDoor.sq];split
  .exact a
  .rename_i he
   have f:p.ae[p.done]?=some c:=by
    have:=congrArg (·[0]?) g;simpa using this
   have d:=DY { p with ni:=doS p.ni c,done:=p.done+1 } c;refine ih _ _ (h.one p c j e f (mX.1 he)) (d.1.trans e) ?_ ?_
   .rw[d.2.1,d.2.2.1];show p.ae.drop (p.done+1)=l;rw[<- pK,g];rfl
   .split
    .rename_i ha;exact t.one p c b j e f (mX.1 he) ha a
    .exact a
theorem NY(M:Meet)(l:Let):(M.pd l).ed=M.ed:=by unfold Meet.pd;split<;>rfl
theorem Sn(l:List Let)(M:Meet):(l.foldl (λM l=>M.pd l) M).ed=M.ed:=by
 induction l generalizing M with
 | nil=>rfl
 | cons x l ih=>exact(ih _).trans (NY M x)
theorem W6(M:Meet)(k:Int)(a:Nat):(M.move k a).ed=M.ed:=by
 unfold Meet.move;split
 .rfl
 .simp only;split
  .rw[NY];split<;>rfl
  .split<;>rfl
theorem X7(M:Meet){x:Lac}(a:x.k≠1)(b:x.k≠3):(M.act x).ed=M.ed:=by
 unfold Meet.act;simp only;rw[if_neg a];split
 .rfl
 .split
  .exact W6 _ _ _
  .split
   .exact Sn _ _
   .split
    .rfl
    .split<;>rfl
theorem GInv.ed(g:∀ i,i<5->NInv A i (D i) Q (P i))(c:∀ i,i<5->TInv i (D i) (P i) R){M:Meet}(h:GInv Q P M)(a:R M.ed){x:Lac}(e:LacOk x)(f:x.k=1->D x.n.toNat x.d):R (M.act x).ed:=by
 by_cases b:x.k=1
 .have hi:x.n.toNat<5:=by have:=e.n (by rw[b];rfl);omega
  unfold Meet.act;simp only;rw[if_pos b];show R (Nod.sj _ _ _ _).2;unfold Nod.sj Nod.ss;split
  .exact a
  .rename_i hu
   split
   .exact a
   .rename_i he
    split
    .rename_i hm
     exact(c _ hi).sub _ _ _ (h.ab _ hi) (f b) (by simpa using hu) (mX.1 he) hm a
    .exact a
 .by_cases h3:x.k=3
  .have hi:x.n.toNat<5:=by have:=e.n (by rw[h3];rfl);omega
   unfold Meet.act;simp only;rw[if_neg b,if_neg (by omega),if_pos h3];show R (if _ then _ else _);split
   .rename_i hu
    exact TInv.sq (g _ hi) (c _ hi) _ _ _ (h.ab _ hi) hu rfl a
   .exact a
  .rw[X7 M b h3];exact a
theorem GInv.dc(c:∀ i,i<5->NInv A i (D i) Q (P i))(g:∀ i,i<5->TInv i (D i) (P i) R)(L:List Lac){n:Nat}{M:Meet}(b:MOk n M)(j:n+L.length<=1000000)(h:GInv Q P M)(e:R M.ed)(f:∀ x∈L,LacOk x/\A.Ok x/\(x.k=1->D x.n.toNat x.d)):GInv Q P (M.dc L)/\R (M.dc L).ed/\MOk (n+L.length) (M.dc L):=by
 induction L generalizing n M with
 | nil=>exact⟨h,e,b⟩
 | cons x L ih =>
  have a:=f x M';rw[nK]at j
  have:=ih (b.act (by omega) a.1) (by omega) (h.act c b a.1 a.2.1 a.2.2) (h.ed c g e a.1 a.2.2) λy l=>f y (I' _ l);rw[nK,show n+(L.length+1)=n+1+L.length by omega];exact this
theorem TInv.all(i:Nat)(D:List Int->Prop)(P:Nod->Prop):TInv i D P λ_=>True:=⟨λ_ _ _ _ _ _ _ _ _=>trivial,λ_ _ _ _ _ _ _ _ _=>trivial⟩
structure Wh where
 d:Nat->List Int->Prop
 ld:Prop
 cr:Prop
 dr:Prop
 tk:Prop
 st:Prop
def Wh.may(D:Wh)(x:Lac):Prop:=(x.k=1->D.d x.n.toNat x.d)/\(x.k=2->D.ld)/\(x.k=8->D.cr)/\(x.k=4\/x.k=5\/x.k=6\/x.k=7->D.dr/\D.tk)/\(x.k=9->D.st)
inductive Stp (D:Wh):Nat->Meet->Meet->Prop
 | take (M:Meet) (l:Let) (hl:l∈M.br) (hd:l.src<5/\l.dst<5) (hu:(M.ab l.dst).up=true) (ht:D.tk):Stp D 0 M (M.set l.dst ((M.ab l.dst).take l) M.br M.ed)
 | br (M:Meet) (ls:List Let) (h:∀ l∈ls,l∈M.br) (hd:D.dr):Stp D 0 M { M with br:=ls }
 | one (M:Meet) (i:Nat) (c:Cmd) (hi:i<5) (hu:(M.ab i).up=true) (hc:(M.ab i).ae[(M.ab i).done]?=some c) (he:doE (M.ab i).ni c=0) :
   Stp D 0 M (M.set i (Nod.fv { M.ab i with ni:=doS (M.ab i).ni c,done:=(M.ab i).done+1 } c) M.br (if((M.ab i).bN c).isSome=true then M.ed++[⟨i,c.c,c.s,doC (M.ab i).ni c,doA (M.ab i).ni c⟩]else M.ed))
 | ask (M:Meet) (i:Nat) (hi:i<5) (hu:(M.ab i).up=true):Stp D 0 M (M.set i ((M.ab i).jv i).1 (M.br++((M.ab i).jv i).2) M.ed)
 | prop (M:Meet) (i:Nat) (hi:i<5) (hu:(M.ab i).up=true):Stp D 1 M (M.set i (M.ab i).cx M.br M.ed)
 | so (M:Meet) (i:Nat) (hi:i<5) (hu:(M.ab i).up=true) (h:(M.ab i).sy<((M.ab i).d.length:Int)) (hT:AV (M.ab i).d (M.ab i).sy):Stp D 0 M (M.set i { M.ab i with sy:=((M.ab i).d.length:Int) } M.br M.ed)
 | run (M:Meet) (i:Nat) (hi:i<5) (hu:(M.ab i).up=true) (q:Pend) (l:List Pend) (hp:(M.ab i).bu=q::l) (hs:¬ (M.ab i).sy<((M.ab i).d.length:Int)):Stp D 0 M (M.set i { (M.ab i).ln i q with bu:=l } (M.br++(M.ab i).sc i q) M.ed)
 | sg (M:Meet) (i:Nat) (hi:i<5) (hu:(M.ab i).up=true) (hL:(M.ab i).leads=true):Stp D 0 M (M.set i (EI (M.ab i) i 5) (M.br++Dt (M.ab i) i 5) M.ed)
 | lead (M:Meet) (i:Nat) (hi:i<5) (hu:(M.ab i).up=true) (hL:D.ld):Stp D 0 M (M.set i ((M.ab i).lead i) M.br M.ed)
 | sub (M:Meet) (i:Nat) (d:List Int) (hi:i<5) (hu:(M.ab i).up=true) (hD:D.d i d):Stp D 0 M (M.set i ((M.ab i).sj i d M.ed).1 M.br ((M.ab i).sj i d M.ed).2)
 | lp (M:Meet) (i:Nat) (k:Int) (hi:i<5) (hu:(M.ab i).up=true) (hk:0<=k) (hC:D.cr):Stp D 0 M (M.set i ((M.ab i).lp k) M.br M.ed)
 | start (M:Meet) (i:Nat) (hi:i<5) (hu:(M.ab i).up=false) (hs:D.st):Stp D 0 M (M.set i (M.ab i).start M.br M.ed)
inductive Sts (D:Wh):Nat->Meet->Meet->Prop
 | nil (n:Nat) (M:Meet):Sts D n M M
 | snoc {n c m:Nat} {M N K:Meet} (h:Sts D n M N) (s:Stp D c N K) (hm:n+c<=m):Sts D m M K
end
section
variable{D:Wh}
section
variable{K M N:Meet}{i m n:Nat}{α:Type}
theorem Sts.mono(h:Sts D n M N)(a:n<=m):Sts D m M N:=by
 cases h with
 | nil=>exact .nil m M
 | snoc h s hm=>exact .snoc h s (by omega)
theorem Sts.trans(h:Sts D n M N)(k:Sts D m N K):Sts D (n+m) M K:=by
 induction k with
 | nil=>exact h.mono (by omega)
 | snoc _ s hm ih=>exact(ih h).snoc s (by omega)
theorem Sts.s0(h:Sts D n M N)(s:Stp D 0 N K):Sts D n M K:=h.snoc s (A' _)
theorem Stp.s(h:Stp D 0 M N):Sts D n M N:=(Sts.nil n M).s0 h
theorem Sts.inv{I:Meet->Prop}(b:∀ c M N,Stp D c M N->I M->I N){n:Nat}{M N:Meet}(h:Sts D n M N)(a:I M):I N:=by
 induction h with
 | nil=>exact a
 | snoc _ s _ ih=>exact b _ _ _ s (ih a)
theorem MX(f:Nat->α)(i:Nat):upN f i (f i)=f:=by funext j;unfold upN;split<;>simp_all
theorem Vq(f:Nat->α)(i:Nat)(x y:α):upN (upN f i x) i y=upN f i y:=by funext j;unfold upN;split<;>rfl
theorem Ck(M:Meet)(i:Nat)(p q:Nod)(c a:List Let)(d b:List Tol):(M.set i p c d).set i q a b=M.set i q a b:=by unfold Meet.set;simp only[Vq]
theorem Bp(M:Meet)(i:Nat)(p:Nod)(a:List Let)(b:List Tol):(M.set i p a b).ab i=p:=Dd M.ab i p
theorem Ew(M:Meet)(l:Let):(M.pd l).br=M.br:=by unfold Meet.pd;split<;>rfl
theorem NZ(M:Meet)(l:Let)(a:List Let):({ M with br:=a }:Meet).pd l={ M.pd l with br:=a }:=by
 unfold Meet.pd;show(if(M.ab l.dst).up=true then _ else _)=_;split<;>rfl
theorem H9(l:List Let)(M:Meet)(a:List Let):l.foldl (λM l=>M.pd l) ({ M with br:=a }:Meet)={ l.foldl (λM l=>M.pd l) M with br:=a }:=by
 induction l generalizing M with
 | nil=>rfl
 | cons x l ih=>rw[rY,NZ,ih];rfl
theorem Sts.pd(c:D.tk){n:Nat}{M N:Meet}(h:Sts D n M N){l:Let}(b:l∈N.br)(a:l.src<5/\l.dst<5):Sts D n M (N.pd l):=by
 unfold Meet.pd;split
 .rename_i hu;exact h.s0 (.take N l b a hu c)
 .exact h
theorem Sts.comes(c:D.tk)(l:List Let){n:Nat}{M N:Meet}(h:Sts D n M N)(a:∀ m∈l,m∈N.br/\m.src<5/\m.dst<5):Sts D n M (l.foldl (λM l=>M.pd l) N):=by
 induction l generalizing N with
 | nil=>exact h
 | cons x l ih=>exact ih (h.pd c (a x M').1 (a x M').2) λm b=>by rw[Ew];exact a m (I' _ b)
theorem Sts.sq(k:i<5)(l:List Cmd)(p:Nod){M:Meet}{d:List Let}{a:List Tol}(h:Sts D n M (M.set i p d a))(b:p.up=true)(g:p.ae.drop p.done=l) :
  Sts D n M (M.set i (sq i l p a).1 d (Go.Proofs.YthkjeoamjgnpoaaGreatDoor.sq i l p a).2)/\(Go.Proofs.YthkjeoamjgnpoaaGreatDoor.sq i l p a).1.up=true:=by
 induction l generalizing p a with
 | nil=>exact⟨h,b⟩
 | cons c l ih =>
  rw[Go.Proofs.YthkjeoamjgnpoaaGreatDoor.sq];split
  .exact⟨h,b⟩
  .rename_i he
   have j:p.ae[p.done]?=some c:=by have:=congrArg (·[0]?) g;simpa using this
   have f:=DY { p with ni:=doS p.ni c,done:=p.done+1 } c;have e:=Bp M i p d a;have s:=Stp.one (D:=D) (M.set i p d a) i c k (by rw[e];exact b) (by rw[e];exact j) (by rw[e];exact mX.1 he);rw[e,Ck]at s
   refine ih _ (h.s0 s) (f.1.trans b) ?_;rw[f.2.1,f.2.2.1];show p.ae.drop (p.done+1)=l;rw[<- pK,g];rfl
theorem Sts.qv(g:i<5)(l:List Pend)(p:Nod){M:Meet}{ls:List Let}{ts:List Tol}(h:Sts D n M (M.set i { p with bu:=l } ls ts))(b:p.up=true)(f:p.bu=[])(c:¬ p.sy<(p.d.length:Int)) :
  Sts D n M (M.set i (qv i l p ls).1 (Go.Proofs.YthkjeoamjgnpoaaGreatDoor.qv i l p ls).2 ts)/\(Go.Proofs.YthkjeoamjgnpoaaGreatDoor.qv i l p ls).1.up=true:=by
 induction l generalizing p ls with
 | nil =>
  have:({ p with bu:=[] }:Nod)=p:=by cases p;simp_all
  rw[this]at h;exact⟨h,b⟩
 | cons q l ih =>
  have a:=DG p i q;have e:=Bp M i { p with bu:=q::l } ls ts;have s:=Stp.run (D:=D) (M.set i { p with bu:=q::l } ls ts) i g (by rw[e];exact b) q l (by rw[e]) (by rw[e];exact c);rw[e,Ck,OE,MB]at s
  exact ih (p.ln i q) (h.s0 s) (a.2.1.trans b) (a.1.trans f) (by rw[a.2.2.1,a.2.2.2];exact c)
theorem Sts.piece(c:i<5)(M:Meet)(x:(M.ab i).up=true):Sts D 1 M (M.set i ((M.ab i).piece i M.br M.ed).1 ((M.ab i).piece i M.br M.ed).2.1 ((M.ab i).piece i M.br M.ed).2.2):=by
 have w:Sts D 0 M (M.set i (M.ab i) M.br M.ed):=by rw[show M.set i (M.ab i) M.br M.ed=M by unfold Meet.set;rw[MX]];exact .nil 0 M
 obtain⟨q,l⟩:=Sts.sq c _ (M.ab i) w x rfl;unfold Nod.piece;simp only;generalize Go.Proofs.YthkjeoamjgnpoaaGreatDoor.sq i ((M.ab i).ae.drop (M.ab i).done) (M.ab i) M.ed=a at q l ⊢;have e:=Bp M i a.1 M.br a.2;have s:=Stp.ask (D:=D) (M.set i a.1 M.br a.2) i c (by rw[e];exact l);rw[e,Ck]at s
 have t:=q.s0 s;have n:=(Ix a.1 i).trans l;clear e s q;generalize (a.1.jv i)=b at t n ⊢;have e:=Bp M i b.1 (M.br++b.2) a.2;have s:=Stp.prop (D:=D) (M.set i b.1 (M.br++b.2) a.2) i c (by rw[e];exact n);rw[e,Ck]at s
 have g:=t.snoc s (m:=1) (by omega);have h:=(EE b.1).trans n;clear e s t;change Sts D 1 M (M.set i b.1.cx (M.br++b.2) a.2)at g;generalize b.1.cx=r at g h ⊢;generalize M.br++b.2=k at g ⊢;have j:Sts D 1 M (M.set i (r.qk i k).1 (r.qk i k).2 a.2)/\(r.qk i k).1.up=true:=by
  unfold Nod.qk;split
  .exact⟨g,h⟩
  .rename_i hn
   have e:=Bp M i r k a.2;unfold Nod.so;split
   .rename_i h1
    have o:Db r.d r.sy=0:=mX.1 λe=>hn ⟨h1,e⟩;have p:AV r.d r.sy:=by
     unfold Db at o;split at o
     .assumption
     .cases o
    have s:=Stp.so (D:=D) (M.set i r k a.2) i c (by rw[e];exact h) (by rw[e];exact h1) (by rw[e];exact p);rw[e,Ck]at s
    have u:Hq r.d r.sy=r.d:=if_pos p;have v:Io r.d r.sy=(r.d.length:Int):=if_pos p;rw[u,v];exact Sts.qv c r.bu { r with sy:=(r.d.length:Int),bu:=[] } (g.s0 s) h rfl (rJ _)
   .rename_i h1
    exact Sts.qv c r.bu { r with bu:=[] } g h rfl h1
 generalize r.qk i k=f at j ⊢;unfold Nod.bw;split
 .rename_i hL
  have e:=Bp M i f.1 f.2 a.2;have s:=Stp.sg (D:=D) (M.set i f.1 f.2 a.2) i c (by rw[e];exact j.2) (by rw[e];exact hL);rw[e,Ck]at s
  exact j.1.s0 s
 .exact j.1
theorem EW(M:Meet)(i:Nat):M.set i (M.ab i) M.br M.ed=M:=by unfold Meet.set;rw[MX]
theorem OX(g:MOk n M){x:Lac}(v:LacOk x)(j:D.may x):Sts D 1 M (M.act x):=by
 obtain⟨j,y,z,i,A⟩:=j;have b:∀ {k:Int},x.k=k->Gj k=true->x.n.toNat<5:=λ{k} e w=>by have:=v.n (by rw[e];exact w);omega
 unfold Meet.act;simp only;split
 .rename_i h1
  by_cases c:(M.ab x.n.toNat).up=true
  .exact(Stp.sub M _ x.d (b h1 rfl) c (j h1)).s
  .unfold Nod.sj Nod.ss;rw[if_pos (by simpa using c)];rw[EW];exact .nil 1 M
 .split
  .rename_i hk
   split
   .rename_i c;exact(Stp.lead M _ (b hk rfl) c (y hk)).s
   .rw[EW];exact .nil 1 M
  .split
   .rename_i h3
    by_cases c:(M.ab x.n.toNat).up=true
    .rw[if_pos c,if_pos c,if_pos c];exact Sts.piece (b h3 rfl) M c
    .rw[if_neg c,if_neg c,if_neg c,EW];exact .nil 1 M
   .split
    .rename_i hk4
     obtain⟨o,r⟩:=i (by omega);unfold Meet.move;split
     .exact .nil 1 M
     .rename_i l q
      have f:=np q;have B:=And.intro (g.br l f).src (g.br l f).dst;have u:∀ N:Meet,Sts D 1 M N->N.br=M.br->Sts D 1 M (if x.k≠6 then{ N with br:=M.br.eraseIdx (x.a.toNat%M.br.length) }else N):=λN h e=>by
       split
       .exact h.s0 (.br N _ (λm f=>by rw[e];exact qb f) o)
       .exact h
      simp only;split
      .have:=u (M.pd l) ((Sts.nil 1 M).pd r f B) (Ew M l);by_cases t:x.k≠6
       .rw[if_pos t]at this ⊢;rw[NZ];exact this
       .rw[if_neg t]at this ⊢;exact this
      .exact u M (.nil 1 M) rfl
    .split
     .rename_i hk7
      unfold Meet.si;rw[H9];exact(Sts.comes (i (by omega)).2 M.br (.nil 1 M) λm f=>⟨f,(g.br m f).src,(g.br m f).dst⟩).s0 (.br _ [] (λl q=>by cases q) (i (by omega)).1)
     .split
      .rename_i hk
       split
       .rename_i c;exact(Stp.lp M _ x.p (b hk rfl) c (v.p (by rw[hk];rfl)).1 (z hk)).s
       .rw[EW];exact .nil 1 M
      .split
       .rename_i h9
        split
        .rw[EW];exact .nil 1 M
        .rename_i c;exact(Stp.start M _ (b h9 rfl) (by simpa using c) (A h9)).s
       .exact .nil 1 M
theorem Gl(L:List Lac){n:Nat}{M:Meet}(b:MOk n M)(d:n+L.length<=1000000)(c:∀ x∈L,LacOk x/\D.may x):Sts D L.length M (M.dc L):=by
 induction L generalizing n M with
 | nil=>exact .nil _ M
 | cons x L ih =>
  have a:=c x M';rw[nK]at d
  rw[nK,Nat.add_comm];exact(OX b a.1 a.2).trans (ih (b.act (by omega) a.1) (by omega) λy e=>c y (I' _ e))
end
end
section
def whT:Wh:=⟨λ_ _=>True,True,True,True,True,True⟩
theorem V0(x:Lac):whT.may x:=⟨λ_=>trivial,λ_=>trivial,λ_=>trivial,λ_=>⟨trivial,trivial⟩,λ_=>trivial⟩
inductive Rk where
 | pr (b:Bal)
 | vt (v:Vt)
def Rk.body:Rk->List Int
 | .pr b=>Bu b
 | .vt v=>Bj v
def Rk.ap(a:Acc):Rk->Acc
 | .pr b=>⟨b,a.vs⟩
 | .vt v=>⟨v.b,Bn a.vs v⟩
def Rk.err(a:Acc):Rk->Int
 | .pr b=>Cn a b
 | .vt v=>Bb a v
def Rk.ok(a:Acc):Rk->Prop
 | .pr b=>Cn a b=0/\a.p≠b
 | .vt v=>Bb a v=0/\v∉a.vs
variable{a:Acc}{b:Bal}{dr qs rs:List Rk}{i j n:Nat}{l:List Cmd}{p:Nod}{r:Rk}{v:Vt}{vs:List Vt}
theorem Rk.ok.err(h:Rk.ok a r):Rk.err a r=0:=by cases r<;>exact h.1
def By(rs:List Rk):Acc:=rs.foldl Rk.ap a0
theorem BT(a:List Rk)(r:Rk):By (a++[r])=Rk.ap (By a) r:=by unfold By;rw[pT];rfl
def AU(rs:List Rk):Prop:=∀ i r,rs[i]?=some r->Rk.ok (By (rs.take i)) r
theorem AU.nil:AU []:=λi r h=>by simp at h
theorem AU.left(h:AU (rs++qs)):AU rs:=λi r e=>by
 have a:=(V'.1 e).1;have:=h i r (by rw[nk a];exact e)
 rwa [nv (by omega)]at this
theorem AU.pre(h:AU qs)(a:rs <+: qs):AU rs:=by obtain⟨x,rfl⟩:=a;exact h.left
theorem AU.snoc(h:AU rs)(a:Rk.ok (By rs) r):AU (rs++[r]):=λi q e=>by
 rcases nU i rs.length with hi|hi
 .rw[nk hi]at e
  rw[nv (by omega)];exact h i q e
 .have:=(V'.1 e).1;rw[G',nN]at this
  obtain rfl:i=rs.length:=by omega
  rw[nr (A' _)]at e
  simp at e;subst e;rw[nv (A' _),ou];exact a
theorem AU.last(h:AU (rs++[r])):Rk.ok (By rs) r:=by
 have:=h rs.length r (by simp)
 rwa [nv (A' _),ou]at this
theorem AU.ind{P:List Rk->Prop}(b:P [])(c:∀ a r,AU a->Rk.ok (By a) r->P a->P (a++[r])){a:List Rk}(h:AU a):P a:=by
 have:∀ k,k<=a.length->P (a.take k):=by
  intro k;induction k with
  | zero=>intro _;exact b
  | succ k ih =>
   intro d;have e:a.take (k+1)=a.take k++[a[k]]:=by rw[nu (by omega)]
   rw[e];exact c _ _ (h.pre (pJ _ _)) (h k _ (E' (by omega))) (ih (by omega))
 have:=this a.length (A' _)
 rwa [ou]at this
theorem Ag.uN(h:Ag a)(c:Ac b)(i:¬ b.lt a.p):Ag ⟨b,a.vs⟩:=by
 refine⟨.inl c,λv d=>⟨(h.2.1 v d).1,λg=>?_⟩,h.2.2⟩;have e:=(h.2.1 v d).1.2.1;have f:=(h.2.1 v d).2;rw[Fc c.pr e.pr]at g
 rw[Fc h.1 e.pr]at f
 rw[Fc c.pr h.1]at i
 omega
theorem Ag.uj(h:Ag a)(d:Ah v)(e:¬ v.b.lt a.p):Ag ⟨v.b,Bn a.vs v⟩:=by
 refine⟨.inl d.2.1,λu c=>?_,J6 v h.2.2⟩;rcases(BA h.2.2).1 c with rfl|⟨c,_⟩
 .refine⟨d,λg=>?_⟩;change u.b.lt u.b at g;unfold Bal.lt at g;omega
 .exact(h.uN d.2.1 e).2.1 u c
theorem KV:Ag a0:=⟨.inr ⟨rfl,rfl⟩,λv a=>(Q' a).elim,trivial⟩
theorem Rk.may(h:Ag a){r:Rk}(c:Rk.err a r=0):Ag (Rk.ap a r):=by
 cases r with
 | pr b=>have:=Co c;exact h.uN this.2.1 this.2.2
 | vt v=>have:=Aq c;exact h.uj this.2.1 this.2.2
theorem AU.acc(h:AU rs):Ag (By rs):=h.ind (P:=λrs=>Ag (By rs)) KV λrs r _ a b=>by rw[BT];exact Rk.may b a.err
theorem Bo{a:Bal}(c:Ap a)(d:Ap b)(h:¬ a.lt b):b.key<=a.key:=by rw[Fc c d]at h;omega
theorem Rk.tf(h:Ag a){r:Rk}(c:Rk.err a r=0):a.p.key<=(Rk.ap a r).p.key:=by
 cases r with
 | pr b=>have:=Co c;exact Bo this.2.1.pr h.1 this.2.2
 | vt v=>have:=Aq c;exact Bo this.2.1.2.1.pr h.1 this.2.2
theorem IX(h:AU rs):∀ v∈(By rs).vs,Rk.vt v∈rs:=h.ind (P:=λrs=>∀ v∈(By rs).vs,Rk.vt v∈rs) (λv a=>by cases a) λrs r d e c v a=>by
 rw[BT]at a
 cases r with
 | pr b=>exact mV _ (c v a)
 | vt u =>
  rcases(BA d.acc.2.2).1 a with rfl|⟨a,_⟩
  .exact mU _ M'
  .exact mV _ (c v a)
theorem Ag.le(h:Ag a){v:Vt}(c:v∈a.vs):v.b.key<=a.p.key:=Bo h.1 (h.2.1 v c).1.2.1.pr (h.2.1 v c).2
theorem LX(h:Ag a){v:Vt}(f:Bb a v=0){u:Vt}(c:u∈a.vs):∃ x∈Bn a.vs v,x.bt=u.bt/\u.b.key<=x.b.key:=by
 have d:=Aq f;by_cases e:u.bt=v.bt
 .exact⟨v,(BA h.2.2).2 (.inl rfl),e.symm,ny (h.le c) (Bo d.2.1.2.1.pr h.1 d.2.2)⟩
 .exact⟨u,(BA h.2.2).2 (.inr ⟨c,e⟩),rfl,mT _⟩
theorem Rr(h:AU rs):∀ v,Rk.vt v∈rs->v.b.key<=(By rs).p.key/\∃ u∈(By rs).vs,u.bt=v.bt/\v.b.key<=u.b.key:=h.ind (P:=λrs=>∀ v,Rk.vt v∈rs->v.b.key<=(By rs).p.key/\∃ u∈(By rs).vs,u.bt=v.bt/\v.b.key<=u.b.key) (λv hv=>by cases hv) λrs r c a e v hv=>by
 have d:=Rk.tf c.acc a.err;rw[BT];rcases P'.1 hv with hv|hv
 .obtain⟨h1,u,h2,h3,h4⟩:=e v hv;refine⟨ny h1 d,?_⟩;cases r with
  | pr b=>exact⟨u,h2,h3,h4⟩
  | vt w =>
   obtain⟨x,f,g,i⟩:=LX c.acc a.err h2;exact⟨x,f,g.trans h3,ny h4 i⟩
 .rw[<- D'.1 hv]at a ⊢
  exact⟨mT _,v,(BA c.acc.2.2).2 (.inl rfl),rfl,mT _⟩
theorem DF(h:AU (rs++qs)):(By rs).p.key<=(By (rs++qs)).p.key/\∀ v,Rk.vt v∈qs->(By rs).p.key<=v.b.key:=by
 have:∀ k,k<=qs.length->(By rs).p.key<=(By (rs++qs.take k)).p.key/\∀ v,Rk.vt v∈qs.take k->(By rs).p.key<=v.b.key:=by
  intro k;induction k with
  | zero=>intro _;rw[oI,nB];exact⟨mT _,λv hv=>by cases hv⟩
  | succ k ih =>
   intro i;obtain⟨c,g⟩:=ih (by omega);have e:qs.take (k+1)=qs.take k++[qs[k]]:=by rw[nu (by omega)]
   have a:AU (rs++qs.take k++[qs[k]]):=h.pre (by rw[mY,<- e];exact List.prefix_append_right_inj rs |>.2 (pJ _ _));have d:=Rk.tf a.left.acc a.last.err;rw[<- BT]at d
   rw[e,<- mY];refine⟨ny c d,λv hv=>?_⟩;rcases P'.1 hv with hv|hv
   .exact g v hv
   .have hl:=a.last;rw[<- D'.1 hv]at hl
    have f:=Aq hl.err;exact ny c (Bo f.2.1.2.1.pr a.left.acc.1 f.2.2)
 have:=this qs.length (A' _)
 rwa [ou]at this
def fl(rs:List Rk):List Int:=AH (rs.map Rk.body)
theorem dp(a:List Rk)(r:Rk):fl (a++[r])=fl a++AP r.body:=by unfold fl;rw[nG,CD];simp[AH]
theorem SE(b a:List Rk):fl (b++a)=fl b++fl a:=by unfold fl;rw[nG,CD]
theorem Y8(h:rs <+: qs):(fl rs).length<=(fl qs).length:=by obtain⟨x,rfl⟩:=h;rw[SE,G'];omega
theorem kn(h:rs <+: qs)(a:(fl qs).length<=(fl rs).length):rs=qs:=by
 obtain⟨x,rfl⟩:=h;rw[SE,G']at a
 have:=Qz (x.map Rk.body);rw[nA]at this
 unfold fl at a;obtain rfl:x=[]:=Y' (by omega);rw[nB]
theorem AU.uP(h:AU rs):Chn ((List.range (rs.length+1)).map λj=>By (rs.take j)) (rs.map Rk.body):=by
 refine⟨by simp,by simp[By],λi b a c g f l=>?_⟩;simp only[nS,oQ]at g f l;obtain⟨r,e,rfl⟩:=g;obtain⟨j,n,rfl⟩:=f;obtain⟨k,o,rfl⟩:=l;have m:=(V'.1 e).1;rw[pc (by omega)]at n o
 cases n;cases o;have d:=(h i r e).err;have p:rs[i]=r:=by rw[E' m]at e;exact nP e
 rw[nu m,BT,p];generalize By (rs.take i)=a at d ⊢;cases r with
 | pr b=>show DR a (Bu b)=_;rw[Yv a (Co d).2.1];exact if_pos d
 | vt v=>show DR a (Bj v)=_;rw[Yw a (Aq d).2.1];exact if_pos d
structure TpU(p:Nod)(dr rs:List Rk):Prop where
 ok:AU rs
 pre:dr <+: rs
 d:p.d=fl rs
 sy:p.sy=((fl dr).length:Int)
 vo:p.vo=By rs
 len:p.d.length<=100000
structure TpD(p:Nod)(dr:List Rk):Prop where
 ok:AU dr
 tN:Eu p.d=((fl dr).length,By dr)
 tk:p.d.take (fl dr).length=fl dr
 sy:p.sy=(p.d.length:Int)
 len:p.d.length<=100000
theorem TpU.sT(h:TpU p dr rs):AV p.d p.sy:=by
 have:=Y8 h.pre;have:=h.d;refine⟨h.len,by rw[h.sy];omega,?_⟩;rw[h.sy,h.d];omega
theorem TpU.zero:TpU CY [] []:=⟨AU.nil,mW _,rfl,rfl,rfl,by decide⟩
theorem TpU.all(h:TpU p dr rs)(a:¬ p.sy<(p.d.length:Int)):dr=rs:=kn h.pre (by rw[h.sy,h.d]at a;omega)
theorem TpU.lp(h:TpU p dr rs){k:Int}(u:0<=k):∃ dr',dr <+: dr'/\dr' <+: rs/\TpD (p.lp k) dr':=by
 have o:=h.sT;have b:Gt p.d p.sy k=0:=by unfold Gt;rw[if_neg (λe=>e o),if_neg (by omega)]
 have f:=o;unfold AV at f;have t:p.sy<=Gu p.d p.sy k/\Gu p.d p.sy k<=(p.d.length:Int):=by unfold Gu;split<;>omega
 obtain⟨j,a,r,l,m,n,h5⟩:=h.ok.uP.uI (Gu p.d p.sy k).toNat;rw[nA]at r h5
 rw[nS,pc (by omega)]at l
 obtain rfl:By (rs.take j)=a:=by simpa using l
 have i:AH ((rs.map Rk.body).take j)=fl (rs.take j):=by unfold fl;rw[q']
 rw[i]at m n
 have c:(p.lp k).d=(fl rs).take (Gu p.d p.sy k).toNat:=by
  unfold Nod.lp;rw[if_neg (λe=>e b)];show KA p.d p.sy k=_;unfold KA;rw[if_pos b,h.d]
 have s:(p.lp k).sy=Gu p.d p.sy k:=by
  unfold Nod.lp;rw[if_neg (λe=>e b)];show KB p.d p.sy k=_;unfold KB;rw[if_pos b]
 have q:((fl rs).take (Gu p.d p.sy k).toNat).length=(Gu p.d p.sy k).toNat:=by rw[j',<- h.d];omega
 refine⟨rs.take j,?_,pJ _ _,h.ok.pre (pJ _ _),by rw[c];exact m,?_,?_,?_⟩
 .obtain⟨x,hx⟩:=h.pre;rcases nU j dr.length with g|g
  .exfalso;rcases h5 with h5|h5
   .rw[<- hx,G']at h5;omega
   .have hp:rs.take (j+1) <+: dr:=by rw[<- hx,nv (by omega)];exact pJ _ _
    have:=Y8 hp;rw[show AH ((rs.map Rk.body).take (j+1))=fl (rs.take (j+1))by unfold fl;rw[q']]at h5
    have:=h.sy;omega
  .rw[<- hx,List.take_append];rw[nf g];exact oH _ _
 .rw[c,pL,oC n];have e:fl rs=fl (rs.take j)++fl (rs.drop j):=by rw[<- SE,oq]
  rw[show(fl rs).take (fl (rs.take j)).length=(fl (rs.take j)++fl (rs.drop j)).take (fl (rs.take j)).length by rw[<- e],nv (A' _),ou]
 .rw[s,c,q];omega
 .rw[c,q];have:=h.len;omega
theorem TpD.start(h:TpD p dr):TpU p.start dr dr:=by
 have c:AV p.d p.sy:=⟨h.len,by rw[h.sy];omega,by rw[h.sy];omega⟩;have g:Db p.d p.sy=0:=if_pos c;have i:NE p.d p.sy=((fl dr).length:Int):=by unfold NE;rw[if_pos c,h.tN]
 have j:GB p.d p.sy=By dr:=by unfold GB;rw[if_pos c,h.tN]
 have a:=Vb p.d;rw[h.tN]at a
 have a:(fl dr).length<=p.d.length:=a;have f:=h.len;unfold Nod.start;rw[if_neg (λe=>e g),i,j];split
 .rename_i hlt
  have b:JI p.d p.sy=fl dr:=by unfold JI;rw[if_pos c,h.tN];exact h.tk
  have k:Mw p.d p.sy=((fl dr).length:Int):=by unfold Mw;rw[if_pos c,h.tN];exact if_pos (by rw[h.sy];exact hlt)
  exact⟨h.ok,mW _,b,k,rfl,by show(JI p.d p.sy).length<=_;rw[b];omega⟩
 .rename_i hge
  have b:p.d=fl dr:=by have:=h.tk;rwa [nf (by omega)]at this
  exact⟨h.ok,mW _,b,by show p.sy=_;rw[h.sy,<- b],rfl,f⟩
theorem TpU.so(h:TpU p dr rs):TpU { p with sy:=(p.d.length:Int) } rs rs:=⟨h.ok,mW _,h.d,by show(p.d.length:Int)=_;rw[h.d],h.vo,h.len⟩
def Nod.tv(p:Nod)(d:List Int)(s:Int)(a:Acc):Nod:={ p with d:=d,sy:=s,vo:=a }
theorem TpU.write(h:TpU p dr rs){r:Rk}(a:Rk.ok p.vo r)(b:p.d.length+(r.body.length+5)<=100000):TpU (p.tv (p.d++AP r.body) p.sy (Rk.ap p.vo r)) dr (rs++[r]):=by
 rw[h.vo]at a
 refine⟨h.ok.snoc a,h.pre.trans (oH _ _),?_,h.sy,?_,?_⟩
 .show p.d++_=_;rw[h.d,dp]
 .show Rk.ap p.vo r=_;rw[h.vo,BT]
 .show(p.d++AP r.body).length<=_;rw[G',Bh];omega
theorem TpU.au(h:TpU p dr rs)(b:Bal):((p.au b).2.2≠0/\(p.au b).1=p) \/
  ((p.au b).2.2=0/\Cn p.vo b=0/\(p.au b).2.1=p.vo.vs/\∃ rs',rs <+: rs'/\TpU (p.au b).1 dr rs'/\(∀ v,Rk.vt v∈rs'↔Rk.vt v∈rs)/\(By rs').p=b/\(By rs').vs=p.vo.vs/\∃ d a,(p.au b).1=p.tv d p.sy a):=by
 unfold Nod.au;split
 .rename_i c;exact .inl ⟨c,rfl⟩
 .rename_i c
  have c:=mX.1 c;split
  .rename_i h2
   refine .inr ⟨rfl,c,rfl,rs,mW _,?_,λ_=>Iff.rfl,?_,?_,p.d,p.vo,?_⟩
   .rw[h2];exact h
   .rw[<- h.vo];exact h2.symm
   .rw[<- h.vo]
   .rw[h2];rfl
  .rename_i h2
   split
   .rename_i f;exact .inl ⟨f,rfl⟩
   .rename_i f
    have f:=mX.1 f;have j:=JZ f;have g:FZ p.d p.sy (Ac b) (Bu b)=p.d++AP (Bu b):=if_pos f;have i:GV p.d p.sy (Ac b) (Bu b)=p.sy:=if_pos f;rw[g,i];refine .inr ⟨rfl,c,rfl,rs++[Rk.pr b],oH _ _,(h.write (r:=.pr b) ⟨c,λe=>h2 e.symm⟩ j.2.1),λv=>by simp,?_,?_,_,_,rfl⟩
    .rw[BT];rfl
    .rw[BT,h.vo];rfl
theorem Wi{l:List Vt}(h:BM l){v:Vt}(hv:v∈l):Bn l v=l:=by
 induction l with
 | nil=>cases hv
 | cons u us ih =>
  rw[Bn];rcases mZ.1 hv with rfl|hv
  .rw[if_neg (rJ _),if_pos rfl]
  .rw[if_pos (h.1 v hv),ih h.2 hv]
theorem TpU.cl(h:TpU p dr rs)(v:Vt):((p.cl v).2≠0/\(p.cl v).1=p) \/
  ((p.cl v).2=0/\Bb p.vo v=0/\∃ rs',rs <+: rs'/\TpU (p.cl v).1 dr rs'/\(∀ u,Rk.vt u∈rs'↔u=v\/Rk.vt u∈rs)/\(By rs').p=v.b/\∃ d a,(p.cl v).1=p.tv d p.sy a):=by
 unfold Nod.cl;split
 .rename_i c;exact .inl ⟨c,rfl⟩
 .rename_i c
  have c:=mX.1 c;have i:=Aq c;split
  .rename_i h2
   have m:=i.1.le h2;have l:=Bo i.2.1.2.1.pr i.1.1 i.2.2;have e:v.b=p.vo.p:=DL i.2.1.2.1.pr i.1.1 (by omega);have j:(⟨v.b,Bn p.vo.vs v⟩:Acc)=p.vo:=by rw[Wi i.1.2.2 h2,e]
   rw[j];refine .inr ⟨rfl,c,rs,mW _,h,λu=>⟨.inr,λhu=>?_⟩,by rw[<- h.vo];exact e.symm,p.d,p.vo,rfl⟩;rcases hu with rfl|hu
   .exact IX h.ok u (by rw[<- h.vo];exact h2)
   .exact hu
  .rename_i h2
   split
   .rename_i f;exact .inl ⟨f,rfl⟩
   .rename_i f
    have f:=mX.1 f;have n:=JZ f;have k:FZ p.d p.sy (Ah v) (Bj v)=p.d++AP (Bj v):=if_pos f;have j:GV p.d p.sy (Ah v) (Bj v)=p.sy:=if_pos f;rw[k,j];refine .inr ⟨rfl,c,rs++[Rk.vt v],oH _ _,h.write (r:=.vt v) ⟨c,h2⟩ n.2.1,λu=>?_,by rw[BT];rfl,_,_,rfl⟩;rw[P',D'];exact⟨λg=>g.elim .inr λe=>.inl (Rk.vt.inj e),λg=>g.elim (λe=>.inr (by rw[e])) .inl⟩
structure Gs where
 dr:Nat->List Rk
 W:Bal->Nat->Cmd->Prop
def Gs.held(σ:Gs)(n:Nat)(v:Vt):Prop:=Rk.vt v∈σ.dr n
def Gs.H(σ:Gs)(n s:Nat)(b:Int)(c:Cmd):Prop:=∃ v,σ.held n v/\v.bt=(s:Int)/\v.b.key=b/\v.w=c
def Gs.P(σ:Gs)(n:Nat):Int:=(By (σ.dr n)).p.key
def Gs.sG(σ:Gs)(v:Vt):Prop:=Ah v/\σ.W v.b v.bt.toNat v.w
def Gs.tK(σ:Gs)(s:Nat)(c:Cmd):Prop:=∃ b,Ch σ.H s b c
structure GsI(σ:Gs):Prop where
 ok:∀ n,AU (σ.dr n)
 tH:PInv σ.H σ.P
 w1:∀ b s c c',σ.W b s c->σ.W b s c'->c=c'
 w2:∀ b s c,σ.W b s c->Ac b/\E3 σ.H σ.P s b.key c
 w3:∀ b s c,σ.W b s c->b.key<=σ.P b.n.toNat
 hv:∀ n v,σ.held n v->σ.sG v
structure Gs.le(σ τ:Gs):Prop where
 pre:∀ n,σ.dr n <+: τ.dr n
 W:∀ b s c,σ.W b s c->τ.W b s c
theorem Gs.le.refl(σ:Gs):σ.le σ:=⟨λ_=>mW _,λ_ _ _ h=>h⟩
variable{σ τ:Gs}
theorem Gs.le.trans{υ:Gs}(h:σ.le τ)(k:τ.le υ):σ.le υ:=⟨λn=>(h.pre n).trans (k.pre n),λb s c g=>k.W b s c (h.W b s c g)⟩
theorem Gs.le.held(h:σ.le τ){n:Nat}{v:Vt}(g:σ.held n v):τ.held n v:=(h.pre n).subset g
theorem Gs.le.H(h:σ.le τ){n s:Nat}{b:Int}{c:Cmd}(g:σ.H n s b c):τ.H n s b c:=by obtain⟨v,a,d⟩:=g;exact⟨v,h.held a,d⟩
theorem Gs.le.sG(h:σ.le τ){v:Vt}(g:σ.sG v):τ.sG v:=⟨g.1,h.W _ _ _ g.2⟩
theorem Gs.le.tK(h:σ.le τ){s:Nat}{c:Cmd}(g:σ.tK s c):τ.tK s c:=by obtain⟨b,Q,a,d⟩:=g;exact⟨b,Q,a,λq f e=>h.H (d q f e)⟩
theorem Gs.le.P(h:σ.le τ)(a:GsI τ)(n:Nat):σ.P n<=τ.P n:=by
 obtain⟨x,b⟩:=h.pre n;have:=a.ok n;unfold Gs.P;rw[<- b]at this ⊢
 exact(DF this).1
structure Gs.tO(i:Nat)(σ τ:Gs):Prop where
 le:σ.le τ
 new:∀ b s c,τ.W b s c->σ.W b s c\/b.n=(i:Int)
 uS:∀ n,n≠i->τ.dr n=σ.dr n
theorem Gs.tO.refl(i:Nat)(σ:Gs):Gs.tO i σ σ:=⟨.refl σ,λ_ _ _ h=>.inl h,λ_ _=>rfl⟩
def Gs.ext(σ:Gs)(i:Nat)(qs:List Rk):Gs:=⟨upN σ.dr i (σ.dr i++qs),σ.W⟩
theorem Ic(σ:Gs)(i:Nat)(a:List Rk):(σ.ext i a).dr i=σ.dr i++a:=Dd _ _ _
theorem LH(σ:Gs){i n:Nat}(a:List Rk)(h:n≠i):(σ.ext i a).dr n=σ.dr n:=D2 _ _ h
theorem Pl(σ:Gs)(i:Nat)(a:List Rk):Gs.tO i σ (σ.ext i a):=⟨⟨λn=>by
 by_cases e:n=i
 .subst e;rw[Ic];exact oH _ _
 .rw[LH σ a e];exact mW _,λ_ _ _ h=>h⟩,λ_ _ _ h=>.inl h,λn h=>LH σ a h⟩
theorem Qw(σ:Gs)(i:Nat)(r:Rk):(σ.ext i [r]).P=upP σ.P i (Rk.ap (By (σ.dr i)) r).p.key:=by
 funext n
 unfold Gs.P upP;split
 .rename_i e;subst e;rw[Ic,BT]
 .rename_i e;rw[LH σ _ e]
theorem IA:(σ.ext i qs).held n v↔σ.held n v\/(n=i/\Rk.vt v∈qs):=by
 unfold Gs.held;by_cases e:n=i
 .subst e;rw[Ic,P'];simp
 .rw[LH σ qs e];simp[e]
theorem GsI.uH(h:GsI σ){i:Nat}{r:Rk}(D:Rk.ok (By (σ.dr i)) r)(F:∀ v,r=.vt v->σ.sG v):GsI (σ.ext i [r]):=by
 have l:=(h.ok i).acc;have t:=Rk.tf l D.err;have f:=(Pl σ i [r]).le;have q:∀ n,AU ((σ.ext i [r]).dr n):=λn=>by
  by_cases e:n=i
  .subst e;rw[Ic];exact(h.ok n).snoc D
  .rw[LH σ _ e];exact h.ok n
 have d:σ.P i<=(Rk.ap (By (σ.dr i)) r).p.key:=t;have B:∀ n,σ.P n<=(σ.ext i [r]).P n:=λn=>by rw[Qw];exact MY d n
 have o:∀ n v,(σ.ext i [r]).held n v->(σ.ext i [r]).sG v:=λn v g=>by
  rcases IA.1 g with g|⟨_,g⟩
  .exact f.sG (h.hv n v g)
  .exact f.sG (F v (D'.1 g).symm)
 cases r with
 | pr b =>
  have j:(σ.ext i [.pr b]).H=σ.H:=by
   funext n s a c
   exact propext ⟨λ⟨v,g,k⟩=>⟨v,(IA.1 g).resolve_right λe=>by simp at e,k⟩,λ⟨v,g,k⟩=>⟨v,f.held g,k⟩⟩
  refine⟨q,?_,h.w1,λa s c g=>⟨(h.w2 a s c g).1,?_⟩,λa s c g=>ny (h.w3 a s c g) (B _),o⟩
  .rw[j,Qw];exact h.tH.au d
  .rw[j,Qw];exact(h.w2 a s c g).2.up d
 | vt v =>
  obtain⟨z,C⟩:=F v rfl;have I:v.bt=(v.bt.toNat:Int):=by have:=z.1;omega
  have j:(σ.ext i [.vt v]).H=gM σ.H i v.bt.toNat v.b.key v.w:=by
   funext n s a c
   refine propext ⟨λ⟨u,g,G,x,y⟩=>?_,λg=>?_⟩
   .rcases IA.1 g with g|⟨g1,g2⟩
    .exact .inl ⟨u,g,G,x,y⟩
    .have e:u=v:=Rk.vt.inj (D'.1 g2);subst e;exact .inr ⟨g1,by omega,x.symm,y.symm⟩
   .rcases g with⟨u,g,k⟩|⟨rfl,rfl,rfl,rfl⟩
    .exact⟨u,f.held g,k⟩
    .exact⟨v,IA.2 (.inr ⟨rfl,D'.2 rfl⟩),I,rfl,rfl⟩
  refine⟨q,?_,h.w1,λa s c g=>⟨(h.w2 a s c g).1,?_⟩,λa s c g=>ny (h.w3 a s c g) (B _),o⟩
  .rw[j,Qw];refine h.tH.cl d (by have:=z.2.1.pos;show 0<v.b.key;omega) (h.w2 _ _ _ C).2 λm J ⟨u,g,G,x,y⟩=>?_;have E:=h.hv m u g;have e:u.b=v.b:=DL E.1.2.1.pr z.2.1.pr x;have A:=E.2;rw[e,show u.bt.toNat=v.bt.toNat by omega,y]at A
   exact h.w1 _ _ _ _ A C
  .rw[j,Qw];exact(h.w2 a s c g).2.cl d
theorem dj(σ:Gs)(i:Nat)(r:Rk)(a:List Rk):(σ.ext i [r]).ext i a=σ.ext i (r::a):=by unfold Gs.ext;simp only[Dd,Vq,mY,List.singleton_append]
theorem GsI.ext(h:GsI σ){i:Nat}(a:List Rk)(b:AU (σ.dr i++a))(c:∀ v,Rk.vt v∈a->σ.sG v):GsI (σ.ext i a):=by
 induction a generalizing σ with
 | nil =>
  have:σ.ext i []=σ:=by unfold Gs.ext;rw[nB,MX]
  rw[this];exact h
 | cons r a ih =>
  rw[<- dj];have d:AU (σ.dr i++[r]):=b.pre ⟨a,by simp⟩;refine ih (h.uH d.last λv e=>c v (by rw[e];exact M')) ?_ λv g=>(Pl σ i [r]).le.sG (c v (I' _ g));rw[Ic,mY];exact b
structure PrmOk(dr:List Rk)(b:Bal)(vs:List Vt):Prop where
 le:b.key<=(By dr).p.key
 sub:∀ v∈vs,Rk.vt v∈dr/\v.b.key<=b.key
 uL:∀ v,Rk.vt v∈dr->v.b.key<b.key->∃ u∈vs,u.bt=v.bt/\v.b.key<=u.b.key
 acc:Ag ⟨b,vs⟩
theorem PrmOk.mono(h:PrmOk dr b vs)(e:dr <+: rs)(d:AU rs):PrmOk rs b vs:=by
 obtain⟨x,rfl⟩:=e;have c:=DF d;refine⟨ny h.le c.1,λv hv=>⟨mV _ (h.sub v hv).1,(h.sub v hv).2⟩,λv hv a=>?_,h.acc⟩;rcases P'.1 hv with hv|hv
 .exact h.uL v hv a
 .have:=c.2 v hv;have:=h.le;omega
theorem PrmOk.of(c:AU rs){b:Bal}{d:List Vt}(e:(By rs).p=b)(a:(By rs).vs=d):PrmOk rs b d:=by
 subst e a;exact⟨mT _,λv a=>⟨IX c v a,c.acc.le a⟩,λv a _=>(Rr c v a).2,c.acc⟩
structure RdI(σ:Gs)(i:Nat)(r:Rnd):Prop where
 hU:r.hU=Bf\/(Ac r.hU/\r.hU.n=(i:Int))
 next:∀ s c,σ.W r.hU s c->s<r.next
 own:∀ j,j<5->r.rN j=true->r.hU.key<=σ.P i
 an:∀ j,j<5->∀ v∈(r.an j).vs,σ.held j v/\v.b.key<=r.hU.key/\(r.rN j=false->v.b=r.hU)
 prom:∀ j,j<5->r.rN j=true->r.hU.key<=σ.P j/\∀ v,σ.held j v->v.b.key<r.hU.key->∃ u∈(r.an j).vs,u.bt=v.bt/\v.b.key<=u.b.key
 acc:∀ j,j<5->Ag (r.an j)/\(r.rN j=true->(r.an j).p=r.hU)
def PnI(σ:Gs)(rs:List Rk)(r:Rnd):Pend->Prop
 | .began b vs=>PrmOk rs b vs/\b.key<=r.hU.key
 | .prom _ b vs=>PrmOk rs b vs/\b.key<=σ.P b.n.toNat
 | .voted _ v=>Rk.vt v∈rs
 | .prop v=>Rk.vt v∈rs
 | .ew _ b=>Ap b/\b.key<=(By rs).p.key
 | _=>True
structure UpI(σ:Gs)(i:Nat)(p:Nod)(rs:List Rk):Prop where
 tp:TpU p (σ.dr i) rs
 sG:∀ v,Rk.vt v∈rs->σ.sG v
 rd:RdI σ i p.bn
 bp:p.bn.hU.key<=p.vo.p.key
 pe:∀ q∈p.bu,PnI σ rs p.bn q
def AgL(σ:Gs)(l:List Cmd)(k:Nat):Prop:=∀ s c,l[s]?=some c->σ.tK (k+s) c
structure NdI(σ:Gs)(i:Nat)(p:Nod):Prop where
 up:p.up=true->∃ rs,UpI σ i p rs
 dn:p.up=false->TpD p (σ.dr i)
 ag:AgL σ p.ae 0
structure LtI(σ:Gs)(l:Let):Prop where
 k0:l.kind=0->l.hU.key<=σ.P l.hU.n.toNat
 k1:l.kind=1->PrmOk (σ.dr l.src) l.hU l.mv/\l.hU.key<=σ.P l.hU.n.toNat/\AgL σ l.gC 0
 k2:l.kind=2->Ap l.hU/\l.hU.key<=σ.P l.src
 k3:l.kind=3->σ.sG l.cl
 k4:l.kind=4->σ.held l.src l.cl
 k5:l.kind=5->AgL σ l.gC l.bt
structure AgI(σ:Gs)(M:Meet):Prop where
 gs:GsI σ
 nd:∀ i,i<5->NdI σ i (M.ab i)
 lt:∀ l∈M.br,LtI σ l
theorem AgL.mono(h:σ.le τ){l:List Cmd}{k:Nat}(g:AgL σ l k):AgL τ l k:=λs c e=>h.tK (g s c e)
theorem RdI.mono(h:σ.le τ)(f:GsI τ){i:Nat}{r:Rnd}(g:RdI σ i r)(m:∀ s c,τ.W r.hU s c->s<r.next):RdI τ i r:=by
 refine⟨g.hU,m,λj a d=>ny (g.own j a d) (h.P f i),λj a v e=>⟨h.held (g.an j a v e).1,(g.an j a v e).2⟩,λj a d=>⟨ny (g.prom j a d).1 (h.P f j),λv e k=>?_⟩,g.acc⟩;obtain⟨x,n⟩:=h.pre j;have l:=f.ok j;have hv':Rk.vt v∈τ.dr j:=e;rw[<- n]at l hv'
 rcases P'.1 hv' with hv'|hv'
 .exact(g.prom j a d).2 v hv' k
 .have h1:=(DF l).2 v hv';have o:=(g.prom j a d).1;have p:σ.P j<=v.b.key:=h1;omega
theorem PnI.mono(h:σ.le τ)(f:GsI τ){e a:List Rk}(c:e <+: a)(d:AU a){r r':Rnd}(i:r.hU.key<=r'.hU.key){q:Pend}(g:PnI σ e r q):PnI τ a r' q:=by
 cases q with
 | began b vs=>exact⟨g.1.mono c d,ny g.2 i⟩
 | prom to b vs=>exact⟨g.1.mono c d,ny g.2 (h.P f _)⟩
 | voted to v=>exact c.subset g
 | prop v=>exact c.subset g
 | ew to b=>obtain⟨x,rfl⟩:=c;exact⟨g.1,ny g.2 (DF d).1⟩
 | _=>trivial
theorem NdI.mono(h:Gs.tO i σ τ)(a:GsI τ)(n:GsI σ)(d:j≠i){p:Nod}(g:NdI σ j p):NdI τ j p:=by
 have e:=h.uS j d;refine⟨λl=>?_,λb=>by rw[e];exact g.dn b,g.ag.mono h.le⟩;obtain⟨o,k⟩:=g.up l;refine⟨o,by rw[e];exact k.tp,λv m=>h.le.sG (k.sG v m),k.rd.mono h.le a λs c hW=>?_,k.bp,λq f=>(k.pe q f).mono h.le a (mW _) k.tp.ok (mT _)⟩;rcases h.new _ _ _ hW with hW|hW
 .exact k.rd.next s c hW
 .rcases k.rd.hU with hb|⟨_,hb⟩
  .have:=(a.w2 _ _ _ ‹_›).1;rw[hb]at this
   exact absurd this (by decide)
  .rw[hb]at hW;omega
theorem LtI.mono(h:σ.le τ)(a:GsI τ){l:Let}(g:LtI σ l):LtI τ l :=
 ⟨λe=>ny (g.k0 e) (h.P a _),λe=>⟨(g.k1 e).1.mono (h.pre _) (a.ok _),ny (g.k1 e).2.1 (h.P a _),(g.k1 e).2.2.mono h⟩,λe=>⟨(g.k2 e).1,ny (g.k2 e).2 (h.P a _)⟩,λe=>h.sG (g.k3 e),λe=>h.held (g.k4 e),λe=>(g.k5 e).mono h⟩
theorem AgI.set{M:Meet}(h:AgI σ M){i:Nat}(b:Gs.tO i σ τ)(a:GsI τ){p:Nod}(g:NdI τ i p){ls:List Let}(d:∀ l∈ls,l∈M.br\/LtI τ l)(ts:List Tol):AgI τ (M.set i p ls ts) :=
 ⟨a,λj c=>by
  show NdI τ j (upN M.ab i p j);unfold upN;split
  .rename_i e;rw[e];exact g
  .rename_i e;exact(h.nd j c).mono b a h.gs e,λl f=>(d l f).elim (λk=>(h.lt l k).mono b.le a) id⟩
theorem Up{r:Rnd}(h:∀ j,j<5->∀ v∈(r.an j).vs,σ.held j v){s:Nat}(a:CX r.hZ (s:Int)=0):σ.tK s (CQ r.hZ (s:Int)):=by
 have k:CQ r.hZ (s:Int)=((Ho (D5 r.hZ (s:Int)) r.hZ.length).map (·.w)).getD ⟨0,0,0,0,0⟩:=if_pos a;unfold CX at a;split at a
 .cases a
 .split at a
  .cases a
  .rename_i d
   have d:=mX.1 d;split at a
   .rename_i hO
    obtain⟨v,g⟩:=oA.1 hO;rw[k,g];have m:=rX g;have i:5<2*BK (D5 r.hZ (s:Int)) v:=nL m;have e:D5 r.hZ (s:Int)=Ae (r.an 0).vs (s:Int)++(Ae (r.an 1).vs (s:Int)++(Ae (r.an 2).vs (s:Int)++(Ae (r.an 3).vs (s:Int)++Ae (r.an 4).vs (s:Int)))):=by
     unfold D5 Rnd.hZ Ae;simp[List.filter_append]
    rw[e,Cx,Cx,Cx,Cx]at i
    have c:∀ j,j<5->BM (r.an j).vs:=λj l=>(d (r.an j) (by unfold Rnd.hZ;rcases se l with rfl|rfl|rfl|rfl|rfl<;>simp)).2.2;have o:=IL (c 0 (by omega)) (s:Int) v;have p:=IL (c 1 (by omega)) (s:Int) v;have t:=IL (c 2 (by omega)) (s:Int) v;have u:=IL (c 3 (by omega)) (s:Int) v;have x:=IL (c 4 (by omega)) (s:Int) v;refine⟨v.b.key,λq=>decide (v∈(r.an q).vs/\v.bt=(s:Int)),?_,λq n f=>?_⟩
    .show 3<=(decide (v∈(r.an 0).vs/\v.bt=(s:Int))).toNat+(decide (v∈(r.an 1).vs/\v.bt=(s:Int))).toNat+(decide (v∈(r.an 2).vs/\v.bt=(s:Int))).toNat+(decide (v∈(r.an 3).vs/\v.bt=(s:Int))).toNat+(decide (v∈(r.an 4).vs/\v.bt=(s:Int))).toNat;omega
    .obtain⟨h1,h2⟩:=nL f;exact⟨v,h q n v h1,h2,rfl,rfl⟩
   .cases a
theorem AgL.snoc(h:AgL σ l 0){c:Cmd}(a:σ.tK l.length c):AgL σ (l++[c]) 0:=λs d e=>by
 rcases nU s l.length with g|g
 .rw[nk g]at e;exact h s d e
 .have:=(V'.1 e).1;rw[G',nN]at this
  obtain rfl:s=l.length:=by omega
  rw[nr (A' _)]at e
  simp at e;subst e;rw[nM];exact a
theorem UN{r:Rnd}(h:∀ j,j<5->∀ v∈(r.an j).vs,σ.held j v)(k:Nat){l:List Cmd}(a:AgL σ l 0):AgL σ (FG k r l) 0:=by
 induction k generalizing l with
 | zero=>exact a
 | succ k ih =>
  rw[FG];split
  .rename_i he;exact ih (a.snoc (Up h he))
  .exact a
theorem QF{b:List Cmd}{a:Nat}(d:AgL σ l 0)(f:AgL σ b a)(h:a<=l.length):AgL σ (l++b.drop (l.length-a)) 0:=λs c e=>by
 rcases nU s l.length with g|g
 .rw[nk g]at e;exact d s c e
 .rw[nr g,om]at e
  have:=f _ c e
  rwa [show a+(l.length-a+(s-l.length))=0+s by omega]at this
theorem Wf(a:Acc)(l:List Vt):∀ v∈(Dh a l).vs,v∈a.vs\/v∈l:=by
 induction l generalizing a with
 | nil=>exact λv b=>.inl b
 | cons u l ih =>
  intro v b;rw[Dh]at b
  rcases ih _ v b with h|h
  .by_cases he:Bb a u=0
   .rw[if_pos he]at h
    have h:v∈Br a u:=h;rw[(DK he).2]at h
    rcases(BA (Aq he).1.2.2).1 h with rfl|⟨h,_⟩
    .exact .inr M'
    .exact .inl h
   .rw[if_neg he]at h;exact .inl h
  .exact .inr (I' _ h)
theorem We(a:Acc)(l:List Vt):∀ u∈a.vs,∃ x∈(Dh a l).vs,x.bt=u.bt/\u.b.key<=x.b.key:=by
 induction l generalizing a with
 | nil=>exact λu d=>⟨u,d,rfl,mT _⟩
 | cons w l ih =>
  intro u d;rw[Dh];by_cases c:Bb a w=0
  .rw[if_pos c];obtain⟨x,e,f,g⟩:=LX (Aq c).1 c d;obtain⟨y,h,i,j⟩:=ih ⟨BI a w,Br a w⟩ x (by show x∈Br a w;rw[(DK c).2];exact e);exact⟨y,h,i.trans f,ny g j⟩
  .rw[if_neg c];exact ih a u d
theorem Wd(a:Acc)(l:List Vt)(c:Ag a)(g:a.p=b)(h:∀ v∈l,v.b.key<=b.key):Ag (Dh a l)/\(Dh a l).p=b:=by
 induction l generalizing a with
 | nil=>exact⟨c,g⟩
 | cons u l ih =>
  rw[Dh];by_cases d:Bb a u=0
  .rw[if_pos d];have f:=Aq d;have e:u.b=b:=by
    have k:=Bo f.2.1.2.1.pr c.1 f.2.2;have m:=h u M';rw[g]at k
    exact DL f.2.1.2.1.pr (g▸c.1) (by omega)
   have j:(⟨BI a u,Br a u⟩:Acc)=⟨u.b,Bn a.vs u⟩:=by rw[(DK d).1,(DK d).2]
   rw[j];exact ih _ (c.uj f.2.1 f.2.2) e λv i=>h v (I' _ i)
  .rw[if_neg d];exact ih a c g λv i=>h v (I' _ i)
theorem RdI.sw{r:Rnd}(h:RdI σ i r){j:Nat}{vs:List Vt}(f:PrmOk (σ.dr j) r.hU vs)(s:r.hU.key<=σ.P i):RdI σ i (r.sw j vs):=by
 refine⟨h.hU,h.next,λ_ _ _=>s,λk c v a=>?_,λk c n=>?_,λk c=>?_⟩
 rotate_right
 .show Ag (upN r.an j (Dh ⟨r.hU,vs⟩ (r.an j).vs) k)/\(upN r.rN j true k=true->(upN r.an j (Dh ⟨r.hU,vs⟩ (r.an j).vs) k).p=r.hU);unfold upN;split
  .rename_i e;subst e
   have:=Wd (b:=r.hU) ⟨r.hU,vs⟩ (r.an k).vs f.acc rfl λv a=>(h.an k c v a).2.1;exact⟨this.1,λ_=>this.2⟩
  .exact h.acc k c
 .have a:v∈(upN r.an j (Dh ⟨r.hU,vs⟩ (r.an j).vs) k).vs:=a;by_cases e:k=j
  .subst e;rw[Dd]at a
   rcases Wf _ _ v a with g|g
   .exact⟨(f.sub v g).1,(f.sub v g).2,λe=>by rw[show(r.sw k vs).rN k=true from Dd _ _ _]at e;cases e⟩
   .have:=h.an k c v g;exact⟨this.1,this.2.1,λe=>by rw[show(r.sw k vs).rN k=true from Dd _ _ _]at e;cases e⟩
  .rw[D2 _ _ e]at a
   have:=h.an k c v a;exact⟨this.1,this.2.1,λo=>this.2.2 (by rwa [show(r.sw j vs).rN k=r.rN k from D2 _ _ e]at o)⟩
 .by_cases e:k=j
  .subst e;refine⟨f.le,λv a d=>?_⟩;obtain⟨u,l,m,q⟩:=f.uL v a d;obtain⟨x,t,w,y⟩:=We ⟨r.hU,vs⟩ (r.an k).vs u l;exact⟨x,by show x∈(upN r.an k _ k).vs;rw[Dd];exact t,w.trans m,ny q y⟩
  .rw[show(r.sw j vs).rN k=r.rN k from D2 _ _ e]at n
   have:=h.prom k c n;exact⟨this.1,λv a d=>by
    obtain⟨u,l,m⟩:=this.2 v a d;exact⟨u,by show u∈(upN r.an j _ k).vs;rw[D2 _ _ e];exact l,m⟩⟩
theorem RdI.count{r:Rnd}(h:RdI σ i r){j:Nat}{v:Vt}(l:v.b=r.hU)(f:Bb (r.an j) v=0)(o:σ.held j v):RdI σ i { r with an:=upN r.an j ⟨BI (r.an j) v,Br (r.an j) v⟩ }:=by
 have d:=Aq f;have g:Br (r.an j) v=Bn (r.an j).vs v:=(DK f).2;refine⟨h.hU,h.next,h.own,λk c u a=>?_,λk c n=>⟨(h.prom k c n).1,λu a m=>?_⟩,λk c=>?_⟩
 rotate_right
 .show Ag (upN r.an j ⟨BI (r.an j) v,Br (r.an j) v⟩ k)/\(r.rN k=true->(upN r.an j ⟨BI (r.an j) v,Br (r.an j) v⟩ k).p=r.hU);unfold upN;split
  .rw[(DK f).1,g];exact⟨d.1.uj d.2.1 d.2.2,λ_=>l⟩
  .exact h.acc k c
 .have a:u∈(upN r.an j ⟨BI (r.an j) v,Br (r.an j) v⟩ k).vs:=a;by_cases e:k=j
  .subst e;rw[Dd]at a
   have a:u∈Br (r.an k) v:=a;rw[g]at a
   rcases(BA d.1.2.2).1 a with rfl|⟨a,_⟩
   .exact⟨o,by rw[l];exact mT _,λ_=>l⟩
   .exact h.an k c u a
  .rw[D2 _ _ e]at a;exact h.an k c u a
 .obtain⟨x,h1,h2,h3⟩:=(h.prom k c n).2 u a m;by_cases e:k=j
  .subst e;obtain⟨y,q,s,t⟩:=LX d.1 f h1;exact⟨y,by show y∈(upN r.an k _ k).vs;rw[Dd];show y∈Br (r.an k) v;rw[g];exact q,s.trans h2,ny h3 t⟩
  .exact⟨x,by show x∈(upN r.an j _ k).vs;rw[D2 _ _ e];exact h1,h2,h3⟩
theorem UpI.nn{q:Nod}(h:UpI σ i p rs)(b:q.d=p.d)(j:q.sy=p.sy)(c:q.vo=p.vo)(f:RdI σ i q.bn)(a:q.bn.hU=p.bn.hU)(e:∀ x∈q.bu,x∈p.bu\/PnI σ rs q.bn x):UpI σ i q rs :=
 ⟨⟨h.tp.ok,h.tp.pre,b.trans h.tp.d,j.trans h.tp.sy,c.trans h.tp.vo,by rw[b];exact h.tp.len⟩,h.sG,f,by rw[a,c];exact h.bp,λx k=>(e x k).elim (λg=>by
  have:=h.pe x g;cases x<;>first|exact this|exact trivial|(refine⟨this.1,?_⟩;first|exact this.2|(rw[a];exact this.2))) id⟩
theorem UpI.count(h:UpI σ i p rs)(a:AgL σ p.ae 0){j:Nat}{v:Vt}(d:σ.held j v):UpI σ i (p.count j v) rs/\AgL σ (p.count j v).ae 0:=by
 unfold Nod.count;split
 .exact⟨h,a⟩
 .rename_i b
  have b:=mX.1 b;split
  .exact⟨h,a⟩
  .rename_i he
   have c:=h.rd.count b (mX.1 he) d;exact⟨h.nn rfl rfl rfl c rfl λx g=>.inl g,UN (λj e v f=>(c.an j e v f).1) 41 a⟩
end
end
section
open Go.RowKit
section
variable{K key p:List Int}{c n s t:Int}{l:List Bool}
theorem bI{r u:Int}(i:key.length=32)(h:Du c r u):Er key (EL key c r u)=0/\Mq key (EL key c r u)=tkA c r u:=by
 have f:(EL key c r u).take 6=Iq c r u:=by unfold EL;rw[nv (by rw[Cb];omega),nf (by rw[Cb];omega)]
 have g:(EL key c r u).drop 6=(EA key (Iq c r u)).take 16:=by unfold EL;rw[oZ (by rw[Cb];omega),oS (by rw[Cb];omega),oJ]
 have a:(EL key c r u).getD 0 0=c:=rfl;have b:(EL key c r u).getD 1 0=r:=rfl;have d:Ad (EL key c r u) 2=u:=O3 c r u _ h.2.2.1 (by have:=h.2.2.2;omega);have e:Er key (EL key c r u)=0:=by
  rw[Rg i (BH key c r u) (by rw[f,g]),a,b,d,Jl h]
 exact⟨e,by rw[P5 e,a,b,d]⟩
theorem Ya{k v:Int}(h:Bi k c s n v=0):Cl (CO k c s n v)=0/\I3 (CO k c s n v)=cmA k c s n v:=by
 obtain⟨b,a⟩:=Dg h;unfold InC at a;have e:Cl (CO k c s n v)=0:=by
  unfold Cl;rw[if_neg (λg=>g (BE k c s n v)),Hg k c s n v (by omega) (by omega),Hh k c s n v (by omega) (by omega),Hi k c s n v (by omega) (by omega),FL k c s n v (by omega) (by omega),FM k c s n v (by omega) (by omega)];exact h
 refine⟨e,?_⟩;unfold I3;rw[if_pos e,Hg k c s n v (by omega) (by omega),Hh k c s n v (by omega) (by omega),Hi k c s n v (by omega) (by omega),FL k c s n v (by omega) (by omega),FM k c s n v (by omega) (by omega)]
theorem bv{r:List Int}(a:OkC key s t l)(c:r.length<=2020)(d:20<=r.length)(e:IK (r.take 4)<1073741824)(b:ZI t l (IK (r.take 4))=false):GM key s t l r=Eg key (Cf (r.take 4)) (r.take 4) (r.drop 4):=by
 unfold GM;rw[if_neg (λh=>h a),if_neg (by omega),if_neg (by omega),if_neg (by omega),b,if_neg (by simp)]
theorem Om{h:List Int}(a:K.length=32)(b:h.length=4):FE K (Cf h) h=true:=UA a (Fd b) (by omega)
theorem US(K:List Int)(n:Int)(p:List Int)(a:0<=n)(b:n<1073741824):IK ((Gf K n p).take 4)=n:=by rw[JH,W7 n a (by omega)]
theorem bC(a:OkC K s t l)(d:0<=n)(c:n<1073741824)(e:p.length<=2000)(f:∀ x∈p,0<=x/\x<256)(b:ZI t l n=false):GM K s t l (Gf K n p)=0:=by
 rw[bv a (by rw[Dn];omega) (by rw[Dn];omega) (by rw[US K n p d c];exact c) (by rw[US K n p d c];exact b),JH,O7];exact Km (Om a.key rfl) e
theorem Ue(a:K.length=32)(c:p.length<=2000)(b:∀ x∈p,0<=x/\x<256):Jh K (Gf K n p)=p:=by
 unfold Jh;rw[JH,O7];exact Tr (Om a rfl) c b
end
section
variable{n tc tr tu k c s m v:Int}(h:paE n tc tr tu k c s m v=0)
include h
theorem ZQ:KK (paL n tc tr tu k c s m v)=0/\Px (paL n tc tr tu k c s m v)=paP tc tr tu k c s m v:=by
 obtain⟨a,b,d⟩:=IN h;have f:=(Dg d).2;have e:KK (c::Gf (IB c) n (paP tc tr tu k c s m v))=0:=by
  unfold KK;rw[if_neg (by simp),nz,if_neg (by have:=f.2.1;omega),List.drop_one,List.tail_cons];exact bC (OkC.new (Cw c) 0 (by omega) (by omega)) a.1 a.2 (by rw[DE];omega) (QZ b) (UT a.1)
 rw[Pz h];refine⟨e,?_⟩;unfold Px;rw[if_pos e,nz,List.drop_one,List.tail_cons];exact Ue (Cw c) (by rw[DE];omega) (QZ b)
theorem gi:unT (paL n tc tr tu k c s m v)=EL Fo tc tr tu/\unQ (paL n tc tr tu k c s m v)=CO k c s m v:=by
 unfold unT unQ;rw[(ZQ h).2];unfold paP;exact⟨by rw[nv (by rw[BH];omega),nf (by rw[BH];omega)],by rw[oZ (by rw[BH];omega),oS (by rw[BH];omega),oJ]⟩
theorem iW:unE (paL n tc tr tu k c s m v)=0:=by
 obtain⟨j,f,i⟩:=IN h;obtain⟨a,b⟩:=ZQ h;obtain⟨d,e⟩:=gi h;unfold unE;rw[if_neg (λg=>g a),if_neg (by rw[b,DE];simp),d,if_neg (λg=>g (bI G0 f).1),e];exact(Ya i).1
theorem T2:(unT (paL n tc tr tu k c s m v)).getD 0 0=tc/\(unT (paL n tc tr tu k c s m v)).getD 1 0=tr/\Ad (unT (paL n tc tr tu k c s m v)) 2=tu/\Ad (unQ (paL n tc tr tu k c s m v)) 0=k/\Ad (unQ (paL n tc tr tu k c s m v)) 4=c/\Ad (unQ (paL n tc tr tu k c s m v)) 8=s/\Ad (unQ (paL n tc tr tu k c s m v)) 12=m/\Ad (unQ (paL n tc tr tu k c s m v)) 16=v:=by
 obtain⟨i,a,e⟩:=IN h;obtain⟨b,d⟩:=gi h;rw[b,d];obtain⟨g,f⟩:=Dg e;unfold InC at f;exact⟨rfl,rfl,O3 tc tr tu _ a.2.2.1 (by have:=a.2.2.2;omega),Hg k c s m v (by omega) (by omega),Hh k c s m v (by omega) (by omega),Hi k c s m v (by omega) (by omega),FL k c s m v (by omega) (by omega),FM k c s m v (by omega) (by omega)⟩
theorem ez(a:Int):opE (paL n tc tr tu k c s m v) a=EM tc tr tu k c s m v a/\opA (paL n tc tr tu k c s m v) a=if EM tc tr tu k c s m v a=0 then cmA k c s m v else cmA 0 0 0 0 0:=by
 obtain⟨o,p,q,b,d,e,f,i⟩:=T2 h;have l:opE (paL n tc tr tu k c s m v) a=EM tc tr tu k c s m v a:=by
  unfold opE;rw[if_neg (λg=>g (iW h)),o,p,q,b,d,e,f,i,if_neg];rintro⟨_,j⟩;rw[Pz h,nz]at j
  exact j rfl
 refine⟨l,?_⟩;unfold opA;rw[l,b,d,e,f,i]
end
theorem Mj{n a b d k c s m v:Int}(h:paE n a b d k c s m v=0):(paL n a b d k c s m v).length=63:=by
 rw[Pz h,nK,Dn,DE]
end
section
section
def Nod.ub(p:Nod):Bool × Nat:=(p.up,p.bad)
theorem Mo(p:Nod)(b:Bal):(p.au b).1.ub=p.ub:=by
 unfold Nod.au;split
 .rfl
 .split
  .rfl
  .split<;>rfl
theorem Vw(p:Nod)(v:Vt):(p.cl v).1.ub=p.ub:=by
 unfold Nod.cl;split
 .rfl
 .split
  .rfl
  .split<;>rfl
theorem L9(p:Nod)(j:Nat)(v:Vt):(p.count j v).ub=p.ub:=by
 unfold Nod.count;split
 .rfl
 .split<;>rfl
theorem OA(p:Nod)(to:Nat)(e:Int):(p.ew to e).ub=p.ub:=by unfold Nod.ew;split<;>rfl
theorem LG(p:Nod)(l:List Cmd):(p.dT l).ub=p.ub:=by unfold Nod.dT;split<;>rfl
theorem PM(p:Nod)(l:Let):(p.take l).ub=p.ub:=by
 unfold Nod.take;split
 .split
  .exact OA _ _ _
  .exact Mo p l.hU
 .simp only;split<;>rfl
 .rfl
 .split
  .exact OA _ _ _
  .exact Vw p l.cl
 .exact L9 p _ _
 .split<;>rfl
 .simp only;split<;>exact LG p l.gC
 .rfl
theorem eV(p:Nod)(i:Nat)(q:Pend):(p.ln i q).ub=p.ub:=by
 cases q with
 | began b vs=>unfold Nod.ln;simp only;split<;>rfl
 | prop v=>exact L9 p i v
 | _=>rfl
theorem Yt(i:Nat)(l:List Pend)(p:Nod)(a:List Let):(qv i l p a).1.ub=p.ub:=by
 induction l generalizing p a with
 | nil=>rfl
 | cons q l ih=>exact(ih _ _).trans (eV p i q)
theorem OO(p:Nod)(c:Cmd):(p.fv c).ub=p.ub:=by unfold Nod.fv;split<;>rfl
theorem ip(i:Nat)(l:List Cmd)(p:Nod)(a:List Tol):(sq i l p a).1.ub=p.ub:=by
 induction l generalizing p a with
 | nil=>rfl
 | cons c l ih =>
  rw[sq];split
  .rfl
  .exact(ih _ _).trans (OO _ _)
theorem cJ(p:Nod)(i:Nat):(p.jv i).1.ub=p.ub:=by
 unfold Nod.jv;split
 .rfl
 .split
  .exact LG _ _
  .rfl
theorem TF(p:Nod):p.cx.ub=p.ub:=by
 unfold Nod.cx;split
 .rfl
 .split
  .rfl
  .split
   .rfl
   .exact Vw p _
theorem bg(p:Nod)(i:Nat)(a:List Let):(p.qk i a).1.ub=p.ub:=by
 unfold Nod.qk;split
 .rfl
 .rw[Yt];unfold Nod.so;split<;>rfl
theorem Xo(p:Nod)(i:Nat)(a:List Let):(p.bw i a).1.ub=p.ub:=by unfold Nod.bw;split<;>rfl
theorem ZV(p:Nod)(i:Nat)(a:List Let)(b:List Tol):(p.piece i a b).1.ub=p.ub:=by
 unfold Nod.piece;simp only;rw[Xo,bg,TF,cJ,ip]
theorem Pr(p:Nod)(i:Nat):(p.lead i).ub=p.ub:=by
 unfold Nod.lead;simp only;split
 .rfl
 .exact Mo p _
theorem Uz(M:Meet)(l:Let)(j:Nat):((M.pd l).ab j).ub=(M.ab j).ub:=by
 unfold Meet.pd;split
 .show(upN M.ab l.dst _ j).ub=_;unfold upN;split
  .rename_i h;rw[h];exact PM _ _
  .rfl
 .rfl
theorem Yb(l:List Let)(M:Meet)(j:Nat):((l.foldl (λM l=>M.pd l) M).ab j).ub=(M.ab j).ub:=by
 induction l generalizing M with
 | nil=>rfl
 | cons x l ih=>exact(ih _).trans (Uz M x j)
theorem dZ(M:Meet)(k:Int)(a:Nat)(j:Nat):((M.move k a).ab j).ub=(M.ab j).ub:=by
 unfold Meet.move;split
 .rfl
 .simp only;split
  .rw[Uz];split<;>rfl
  .split<;>rfl
theorem IZ(M:Meet)(i:Nat)(p:Nod)(a:List Let)(b:List Tol)(j:Nat):(M.set i p a b).ab j=if j=i then p else M.ab j:=rfl
variable{D:Wh}{M N:Meet}{P:Lac->Prop}{i n:Nat}{k:Int}{l:Let}{p:Nod}{rs:List Rk}{x:Lac}{σ:Gs}
theorem gJ(M:Meet){x:Lac}(f:x.k≠1)(g:x.k≠8)(h:x.k≠9)(j:Nat):((M.act x).ab j).ub=(M.ab j).ub:=by
 unfold Meet.act;simp only;rw[if_neg f];by_cases a:x.k=2
 .rw[if_pos a,IZ];split
  .rename_i e
   rw[e];split
   .exact Pr _ _
   .rfl
  .rfl
 .rw[if_neg a];by_cases b:x.k=3
  .rw[if_pos b,IZ];split
   .rename_i e
    rw[e];split
    .exact ZV _ _ _ _
    .rfl
   .rfl
  .rw[if_neg b];by_cases c:x.k=4\/x.k=5\/x.k=6
   .rw[if_pos c];exact dZ _ _ _ _
   .rw[if_neg c];by_cases d:x.k=7
    .rw[if_pos d];exact Yb _ _ _
    .rw[if_neg d,if_neg g,if_neg h]
theorem j2(M:Meet){x:Lac}(h:x.k=1)(j:Nat):((M.act x).ab j).ub=if j=x.n.toNat/\(M.ab j).up=true/\opE x.d ((M.ab j).done:Int)≠0 then((M.ab j).up,(M.ab j).bad+1)else(M.ab j).ub:=by
 unfold Meet.act;simp only;rw[if_pos h,IZ];by_cases f:j=x.n.toNat
 .subst f;rw[if_pos rfl];unfold Nod.sj Nod.ss;by_cases b:(M.ab x.n.toNat).up=false
  .rw[if_pos b,if_neg (by rw[b];simp)]
  .rw[if_neg b];have g:(M.ab x.n.toNat).up=true:=by simpa using b
   by_cases a:opE x.d ((M.ab x.n.toNat).done:Int)≠0
   .rw[if_pos a,if_pos ⟨rfl,g,a⟩];rfl
   .rw[if_neg a,if_neg (c:=_/\_) (λe=>a e.2.2)];split
    .rfl
    .show(Nod.want _ _).ub=_;unfold Nod.want;split<;>rfl
 .rw[if_neg f,if_neg (λe=>f e.1)]
theorem AL(M:Meet)(L:List Lac)(x:Lac):M.dc (L++[x])=(M.dc L).act x:=by unfold Meet.dc;rw[pT];rfl
theorem V8{L:List Lac}(h:L[i]?=some x):M.dc (L.take (i+1))=(M.dc (L.take i)).act x:=by rw[oF,h];exact AL M (L.take i) x
theorem Lm(L:List Lac)(h:∀ x∈L,LacOk x)(d:L.length<=100000):MOk L.length (Ao.dc L):=by
 suffices ∀ i,i<=L.length->MOk i (Ao.dc (L.take i))by have a:=this L.length (A' _);rwa [ou]at a
 intro i;induction i with
 | zero=>intro _;exact MOk.zero
 | succ i ih =>
  intro c;have b:L[i]?=some L[i]:=E' (by omega);rw[V8 b];exact(ih (by omega)).act (by omega) (h _ (nJ _))
def Nod.tp(p:Nod):Prop:=AV p.d p.sy
theorem V4{d:List Int}{s:Int}{may:Prop}[Decidable may]{b:List Int}(h:CH d s may b=0):AV (FZ d s may b) (GV d s may b):=by
 obtain⟨a,c,_⟩:=JZ h;unfold FZ GV;rw[if_pos h,if_pos h];unfold AV at *;rw[G',Bh];omega
theorem Mn(h:p.tp)(b:Bal):(p.au b).1.tp:=by
 unfold Nod.au;split
 .exact h
 .split
  .exact h
  .split
   .exact h
   .rename_i hw;exact V4 (mX.1 hw)
theorem PR(h:p.tp)(v:Vt):(p.cl v).1.tp:=by
 unfold Nod.cl;split
 .exact h
 .split
  .exact h
  .split
   .exact h
   .rename_i hw;exact V4 (mX.1 hw)
theorem O9(h:p.tp)(to:Nat)(e:Int):(p.ew to e).tp:=by unfold Nod.ew;split<;>exact h
theorem Yc(h:p.tp)(j:Nat)(v:Vt):(p.count j v).tp:=by
 unfold Nod.count;split
 .exact h
 .split<;>exact h
theorem S6(h:p.tp)(l:List Cmd):(p.dT l).tp:=by unfold Nod.dT;split<;>exact h
theorem I2(h:p.tp){k:Int}(c:0<=k):(p.lp k).tp/\(p.lp k).up=false/\(p.lp k).done=0/\(p.lp k).ae=[]:=by
 have a:Gt p.d p.sy k=0:=by unfold Gt;rw[if_neg (λe=>e h),if_neg (by omega)]
 unfold Nod.lp;rw[if_neg (λe=>e a)];refine⟨?_,rfl,rfl,rfl⟩;show AV (KA p.d p.sy k) (KB p.d p.sy k);unfold KA KB;rw[if_pos a,if_pos a];unfold Nod.tp AV at h;have b:0<=Gu p.d p.sy k/\Gu p.d p.sy k<=(p.d.length:Int):=by unfold Gu;split<;>omega
 unfold AV;rw[j'];omega
theorem GJ(h:p.tp):p.start.tp/\p.start.up=true/\p.start.done=0/\p.start.ae=[]:=by
 have b:Db p.d p.sy=0:=if_pos h;have c:=YT p.d p.d.length;unfold Nod.start;rw[if_neg (λe=>e b)];split
 .refine⟨?_,rfl,rfl,rfl⟩;show AV (JI p.d p.sy) (Mw p.d p.sy);unfold JI Mw;have a:AV p.d p.sy:=h;rw[if_pos a,if_pos a];unfold Nod.tp AV at h;unfold AV;rw[j'];unfold Eu;split<;>omega
 .exact⟨h,rfl,rfl,rfl⟩
theorem j9(A:Alw)(i:Nat):NInv A i (λ_=>True) (λ_=>True) Nod.tp where
 take:=λ_ p l h _ _ _=>by
  unfold Nod.take;split
  .split
   .exact O9 h _ _
   .exact Mn h l.hU
  .simp only;split<;>exact h
  .exact h
  .split
   .exact O9 h _ _
   .exact PR h l.cl
  .exact Yc h _ _
  .split<;>exact h
  .simp only;split<;>exact S6 h l.gC
  .exact h
 one:=λp c h _ _ _=>by unfold Nod.fv;split<;>exact h
 ask:=λp h _=>⟨by
  unfold Nod.jv;split
  .exact h
  .split
   .unfold Nod.dT;split<;>exact h
   .exact h,λ_ _=>trivial⟩
 prop:=λp h _=>by
  unfold Nod.cx;split
  .exact h
  .split
   .exact h
   .split
    .exact h
    .exact PR h _
 so:=λp h _=>by
  unfold Nod.so;split
  .show AV (Hq p.d p.sy) (Io p.d p.sy);unfold Hq Io;have b:AV p.d p.sy:=h;rw[if_pos b,if_pos b];unfold Nod.tp AV at h;unfold AV;omega
  .exact h
 run:=λp q l h _ _ _=>⟨by
  have a:=DG p i q;show AV (p.ln i q).d (p.ln i q).sy;rw[a.2.2.1,a.2.2.2];exact h,λ_ _=>trivial⟩
 sg:=λp h _ _=>⟨h,λ_ _=>trivial⟩
 lead:=λ_ p h _=>by
  unfold Nod.lead;simp only;split
  .exact h
  .exact Mn h _
 sub:=λp d e h _ _=>by
  unfold Nod.sj Nod.ss;split
  .exact h
  .split
   .exact h
   .split
    .exact h
    .show(Nod.want _ _).tp;unfold Nod.want;split<;>exact h
 lp:=λ_ p k h a _=>(I2 h a).1
 start:=λ_ p h _=>(GJ h).1
def jS:Alw:=⟨true,true,true,true⟩
theorem cD(x:Lac):jS.Ok x:=⟨λ_=>rfl,λ_=>rfl,λ_=>rfl,λ_=>rfl⟩
theorem cB(L:List Lac)(h:∀ x∈L,LacOk x)(c:L.length<=100000){i:Nat}(a:i<5):((Ao.dc L).ab i).tp :=
 (GInv.dc (R:=λ_=>True) (D:=λ_ _=>True) (Q:=λ_=>True) (P:=λ_=>Nod.tp) (λi _=>j9 jS i) (λi _=>TInv.all i _ _) L MOk.zero (by omega) ⟨λ_ _=>(by show AV [] 0;decide),λ_ _=>trivial⟩ trivial λx b=>⟨h x b,cD x,λ_=>trivial⟩).1.ab i a
theorem V7(M:Meet){i:Nat}(b:i<5)(a:(M.ab i).tp)(j:Nat):((M.act (acN 9 (i:Int))).ab j).up=if j=i then true else(M.ab j).up:=by
 show(upN M.ab (i:Int).toNat _ j).up=_;unfold upN;rw[nE];split
 .split
  .assumption
  .exact(GJ a).2.1
 .rfl
theorem X8(M:Meet){x:Lac}(c:x.k≠8){j:Nat}(a:(M.ab j).up=true):((M.act x).ab j).up=true:=by
 by_cases b:x.k=1
 .have:=congrArg Prod.fst (j2 M b j);split at this
  .exact this.trans a
  .exact this.trans a
 .by_cases h9:x.k=9
  .unfold Meet.act;simp only;rw[if_neg b,if_neg (by omega),if_neg (by omega),if_neg (by omega),if_neg (by omega),if_neg (by omega),if_pos h9,IZ];split
   .rename_i e;rw[<- e,if_pos a];exact a
   .exact a
  .exact(congrArg Prod.fst (gJ M b c h9 j)).trans a
theorem cC(L:List Lac)(a:∀ x∈L,x.k≠8)(M:Meet){j:Nat}(b:(M.ab j).up=true):((M.dc L).ab j).up=true:=by
 induction L generalizing M with
 | nil=>exact b
 | cons x L ih=>exact ih (λy c=>a y (I' _ c)) _ (X8 M (a x M') b)
theorem AE(M:Meet)(L K:List Lac):M.dc (L++K)=(M.dc L).dc K:=pT
theorem D8{n:Int}(h:(k=2\/k=3\/k=9)/\0<=n/\n<=4):LacOk (acN k n):=by
 rw[<- DM];rcases h with⟨rfl|rfl|rfl,h1,h2⟩<;>simp[dQ,acN,Gj,Ir,Is]<;>omega
theorem LY(h:∀ n:Nat,n<5->P (acN k (n:Int))){j:Nat}(c:j<=5):∀ x∈AG k j,P x:=by
 intro x b;obtain⟨n,a,rfl⟩:=nw.1 b;exact h n (by have:=pM.1 a;omega)
theorem LI(b:∀ n:Nat,n<5->P (acN 3 (n:Int)))(c:P (acN 7 0))(m:Nat):∀ x∈Al m,P x:=by
 induction m with
 | zero=>intro x a;cases a
 | succ m ih =>
  intro x a;rcases P'.1 a with h|h
  .exact ih x h
  .rcases P'.1 h with h|h
   .exact LY b (A' _) x h
   .rw[D'.1 h];exact c
theorem Mz(c:∀ n:Nat,n<5->P (acN 9 (n:Int)))(a:∀ n:Nat,n<5->P (acN 3 (n:Int)))(b:P (acN 7 0))(m:Nat):∀ x∈Dr m,P x:=by
 intro x d;rcases P'.1 d with h|h
 .exact LY c (A' _) x h
 .exact LI a b m x h
theorem PC(m:Nat):∀ x∈Dr m,LacOk x:=Mz (λn a=>D8 ⟨.inr (.inr rfl),by omega,by omega⟩) (λn a=>D8 ⟨.inr (.inl rfl),by omega,by omega⟩) (by rw[<- DM];decide) m
theorem jq(L:List Lac)(h:∀ x∈L,LacOk x)(m:Nat)(o:L.length+6*m+5<=100000){j:Nat}(b:j<5):((Ao.dc (L++Dr m)).ab j).up=true:=by
 unfold Dr;rw[<- mY,AE];refine cC _ (LI (λ_ _=>by show(3:Int)≠8;decide) (by decide) m) _ ?_;have d:∀ k,k<=5->j<k->((Ao.dc (L++AG 9 k)).ab j).up=true:=by
  intro k;induction k with
  | zero=>intro _ h;omega
  | succ k ih =>
   intro l c;have a:∀ x∈L++AG 9 k,LacOk x:=λx g=>(P'.1 g).elim (h x) λe=>LY (λn p=>D8 ⟨.inr (.inr rfl),by omega,by omega⟩) (by omega) x e;have f:=cB (L++AG 9 k) a (by rw[G',YZ];omega) (i:=k) (by omega);rw[BS,<- mY,AL,V7 _ (by omega) f];split
   .rfl
   .exact ih (by omega) (by omega)
 exact d 5 (A' _) b
theorem NdI.mk'(b:p.up=true)(h:UpI σ i p rs)(a:AgL σ p.ae 0):NdI σ i p:=⟨λ_=>⟨rs,h⟩,λe=>(by rw[b]at e;cases e),a⟩
theorem AgL.nil(σ:Gs)(k:Nat):AgL σ [] k:=λs c e=>by simp at e
theorem AgL.drop{l:List Cmd}(h:AgL σ l 0)(k:Nat):AgL σ (l.drop k) k:=λs c e=>by
 rw[om]at e
 have:=h _ c e
 rwa [nM]at this
theorem UpI.wait(h:UpI σ i p rs){x:Pend}(a:PnI σ rs p.bn x):UpI σ i (p.wait x) rs :=
 h.nn rfl rfl rfl h.rd rfl λy b=>(P'.1 b).imp id λe=>by rw[D'.1 e];exact a
theorem UpI.ew(h:UpI σ i p rs)(to:Nat)(e:Int):UpI σ i (p.ew to e) rs:=by
 unfold Nod.ew;split
 .exact h.wait (by show Ap p.vo.p/\p.vo.p.key<=_;rw[h.tp.vo];exact⟨h.tp.ok.acc.1,mT _⟩)
 .exact h
theorem O8(p:Nod)(to:Nat)(e:Int):(p.ew to e).ae=p.ae:=by unfold Nod.ew;split<;>rfl
theorem UpI.wrote{τ:Gs}{q:Nod}{a:List Rk}(h:UpI σ i p rs)(j:σ.le τ)(l:GsI τ)(f:τ.dr i=σ.dr i)(b:TpU q (σ.dr i) a)(m:rs <+: a)(o:∀ v,Rk.vt v∈a->τ.sG v){r:Rnd}(n:RdI τ i r)(c:p.bn.hU.key<=r.hU.key)(e:r.hU.key<=q.vo.p.key){x:Pend}(s:PnI τ a r x)(k:q.bu=p.bu):UpI τ i (Nod.wait { q with bn:=r } x) a :=
 ⟨by rw[f];exact⟨b.ok,b.pre,b.d,b.sy,b.vo,b.len⟩,o,n,e,λy t=>by
  rcases P'.1 t with g|g
  .have g:y∈q.bu:=g;rw[k]at g
   exact(h.pe y g).mono j l m b.ok c
  .rw[D'.1 g];exact s⟩
theorem FC(h:UpI σ i p rs)(l:List Cmd):UpI σ i (p.dT l) rs/\(p.dT l).ae=p.ae:=by
 unfold Nod.dT;split
 .exact⟨h.nn rfl rfl rfl ⟨h.rd.hU,h.rd.next,h.rd.own,h.rd.an,h.rd.prom,h.rd.acc⟩ rfl λx a=>.inl a,rfl⟩
 .exact⟨h,rfl⟩
theorem QE(h:UpI σ i p rs)(a:AgL σ p.ae 0):UpI σ i p.sf rs/\AgL σ p.sf.ae 0:=⟨h.nn rfl rfl rfl h.rd rfl λx d=>.inl d,UN (λj b v c=>(h.rd.an j b v c).1) 41 a⟩
theorem NdI.take(C:GsI σ){i:Nat}{p:Nod}(h:NdI σ i p)(D:p.up=true){l:Let}(u:LtI σ l)(G:l.src<5):NdI σ i (p.take l):=by
 obtain⟨f,k⟩:=h.up D;have c:=h.ag
 suffices g:∃ b,UpI σ i (p.take l) b/\AgL σ (p.take l).ae 0 by
  obtain⟨b,w,o⟩:=g;exact NdI.mk' ((congrArg Prod.fst (PM p l)).trans D) w o
 unfold Nod.take;split
 .rename_i hk
  rcases k.tp.au l.hU with⟨e,he⟩|⟨e,he,hvs,b,hp,ht,hm,hpb,hpv,d,a,hq⟩
  .rw[if_pos e];exact⟨f,k.ew _ _,by rw[O8];exact c⟩
  .rw[if_neg (λg=>g e)];have m:=Co he;refine⟨b,?_,?_⟩
   .refine k.wrote (q:=(p.au l.hU).1) (r:=(p.au l.hU).1.bn) (.refl σ) C rfl ht hp (λv B=>k.sG v ((hm v).1 B)) ?_ ?_ ?_ ⟨PrmOk.of ht.ok hpb (hpv.trans hvs.symm),u.k0 hk⟩ (by rw[hq];rfl)
    .rw[hq];exact k.rd
    .rw[hq];exact mT _
    .rw[ht.vo,hpb,hq];exact ny k.bp (Bo m.2.1.pr m.1.1 m.2.2)
   .show AgL σ (p.au l.hU).1.ae 0;rw[hq];exact c
 .rename_i hk
  obtain⟨w,o,E⟩:=u.k1 hk;have y:AgL σ (p.lr 0 l.gC).ae 0:=QF c E (nH _);have s:UpI σ i (p.lr 0 l.gC) f:=k.nn rfl rfl rfl k.rd rfl λx j=>.inl j;generalize p.lr 0 l.gC=K at y s ⊢;simp only;split
  .exact⟨f,s,y⟩
  .rename_i hc
   have A:K.leads=true:=by cases hh:K.leads with|true=>rfl|false=>exact absurd (.inl hh) hc
   have t:l.hU=K.bn.hU:=mX.1 λe=>hc (.inr (.inl e));have z:K.bn.hU≠Bf:=(nL A).1;rw[t]at w o
   have F:=(s.rd.hU.resolve_left z).2;rw[F,nE]at o
   have n:=s.rd.sw w o;exact⟨f,QE (p:={ K with bn:={ K.bn.sw l.src l.mv with bw:=upN K.bn.bw l.src l.gC.length } }) (s.nn rfl rfl rfl ⟨n.hU,n.next,n.own,n.an,n.prom,n.acc⟩ rfl λx j=>.inl j) y⟩
 .exact⟨f,k.nn rfl rfl rfl k.rd rfl λx j=>.inl j,c⟩
 .rename_i hk
  rcases k.tp.cl l.cl with⟨e,he⟩|⟨e,he,b,hp,ht,hm,hpb,d,a,hq⟩
  .rw[if_pos e];exact⟨f,k.ew _ _,by rw[O8];exact c⟩
  .rw[if_neg (λg=>g e)];have m:=Aq he;refine⟨b,?_,?_⟩
   .refine k.wrote (q:=(p.cl l.cl).1) (r:=(p.cl l.cl).1.bn) (.refl σ) C rfl ht hp (λv B=>((hm v).1 B).elim (λe=>by rw[e];exact u.k3 hk) (k.sG v)) ?_ ?_ ?_ ((hm _).2 (.inl rfl)) (by rw[hq];rfl)
    .rw[hq];exact k.rd
    .rw[hq];exact mT _
    .rw[ht.vo,hpb,hq];exact ny k.bp (Bo m.2.1.2.1.pr m.1.1 m.2.2)
   .show AgL σ (p.cl l.cl).1.ae 0;rw[hq];exact c
 .rename_i hk
  exact⟨f,k.count c (u.k4 hk)⟩
 .rename_i hk
  split
  .exact⟨f,k.wait trivial,c⟩
  .rename_i hlt;exact⟨f,k.nn rfl rfl rfl k.rd rfl λx j=>.inl j,QF c (u.k5 hk) (by omega)⟩
 .have:=FC k l.gC;simp only;split
  .exact⟨f,this.1.wait trivial,by show AgL σ (p.dT l.gC).ae 0;rw[this.2];exact c⟩
  .exact⟨f,this.1,by rw[this.2];exact c⟩
 .exact⟨f,k,c⟩
theorem WL(W:GsI σ){i:Nat}{p:Nod}(h:RdI σ i p.bn)(X:Ac p.bn.hU)(Y:p.bn.sh=true){s:Nat}(hs:p.bn.next<=s){c:Cmd}(t:p.rk s=some c):E3 σ.H σ.P s p.bn.hU.key c:=by
 have h5:5<2*Jy p.bn.rN:=nL Y;have m:∀ j,j<5->∀ v∈(p.bn.an j).vs,v.bt=(s:Int)->v∈Ae (p.bn.hZ.map (·.vs)).flatten (s:Int):=λj F v M e=>by
  refine AM.2 ⟨pa.2 ⟨(p.bn.an j).vs,nw.2 ⟨p.bn.an j,?_,rfl⟩,M⟩,e⟩;unfold Rnd.hZ;rcases se F with rfl|rfl|rfl|rfl|rfl<;>simp
 refine⟨p.bn.rN,by omega,λq n o=>(h.prom q n o).1,?_⟩;unfold Nod.rk at t;split at t
 .cases t
 .rename_i d
  have d:=mX.1 d;have D:DV (p.bn.hZ.map (·.vs)) (s:Int)=(Eh (p.bn.hZ.map (·.vs)) (s:Int)).isSome:=if_pos d;have S:G8 (p.bn.hZ.map (·.vs)) (s:Int)=((Eh (p.bn.hZ.map (·.vs)) (s:Int)).map (·.w)).getD ⟨0,0,0,0,0⟩:=if_pos d;have r:∀ l∈p.bn.hZ.map (·.vs),∀ v∈l,Ah v:=by
   unfold BZ at d;split at d
   .cases d
   .split at d
    .assumption
    .cases d
  have L:∀ v∈Ae (p.bn.hZ.map (·.vs)).flatten (s:Int),Ap v.b:=λv M=>by
   obtain⟨l,k,f⟩:=pa.1 (AM.1 M).1;exact(r l k v f).2.1.pr
  rcases Lr _ L with⟨h0,E⟩|⟨x,E,hx,hmax⟩
  .left;intro q n o U V ⟨v,g,R,Z,k3⟩;refine Int.not_lt.1 λz=>?_;obtain⟨u,k,f,_⟩:=(h.prom q n o).2 v g (by omega);have:=m q n u k (f.trans R);rw[h0]at this;cases this
  .right;have E:Eh (p.bn.hZ.map (·.vs)) (s:Int)=some x:=E;rw[E]at D S
   have D:DV (p.bn.hZ.map (·.vs)) (s:Int)=true:=D;rw[if_pos D]at t
   have G:c=x.w:=(nP t).symm.trans S;obtain⟨O,Q⟩:=AM.1 hx;obtain⟨j,F,N⟩:∃ j,j<5/\x∈(p.bn.an j).vs:=by
    obtain⟨l,k,f⟩:=pa.1 O;obtain⟨a,C,rfl⟩:=nw.1 k;unfold Rnd.hZ at C;simp only[mZ,Q',or_false]at C;rcases C with rfl|rfl|rfl|rfl|rfl
    .exact⟨0,by omega,f⟩
    .exact⟨1,by omega,f⟩
    .exact⟨2,by omega,f⟩
    .exact⟨3,by omega,f⟩
    .exact⟨4,by omega,f⟩
   obtain⟨y,I,J⟩:=h.an j F x N;have B:=W.hv j x y;have A:x.b≠p.bn.hU:=λe=>by
    have k:=B.2;rw[e]at k
    have:=h.next _ _ k;omega
   have z:x.b.key<p.bn.hU.key:=by
    rcases Int.lt_or_eq_of_le I with g|g
    .exact g
    .exact absurd (DL B.1.2.1.pr X.pr g) A
   have K:p.bn.rN j=true:=by
    cases hh:p.bn.rN j with
    | true=>rfl
    | false=>exact absurd (J hh) A
   refine⟨x.b.key,z,⟨j,F,K,x,y,Q,rfl,G.symm⟩,λq n o U V ⟨v,g,R,Z,k3⟩ T=>?_⟩;obtain⟨u,k,f,C⟩:=(h.prom q n o).2 v g (by omega);have:=hmax u (m q n u k (f.trans R));omega
def Gs.prop(σ:Gs)(b:Bal)(s:Nat)(c:Cmd):Gs:=⟨σ.dr,λb' s' c'=>σ.W b' s' c'\/(b'=b/\s'=s/\c'=c)⟩
theorem GsI.prop(h:GsI σ){b:Bal}{s:Nat}{c:Cmd}(e:Ac b)(d:E3 σ.H σ.P s b.key c)(f:b.key<=σ.P b.n.toNat)(a:∀ c',¬ σ.W b s c'):GsI (σ.prop b s c):=by
 refine⟨h.ok,h.tH,?_,?_,?_,λn v g=>⟨(h.hv n v g).1,.inl (h.hv n v g).2⟩⟩
 .rintro b' s' c1 c2 (g|⟨rfl,rfl,rfl⟩) (k|⟨e1,e2,e3⟩)
  .exact h.w1 _ _ _ _ g k
  .subst e1 e2;exact absurd g (a _)
  .exact absurd k (a _)
  .exact e3.symm
 .rintro b' s' c' (g|⟨rfl,rfl,rfl⟩)
  .exact h.w2 _ _ _ g
  .exact⟨e,d⟩
 .rintro b' s' c' (g|⟨rfl,rfl,rfl⟩)
  .exact h.w3 _ _ _ g
  .exact f
theorem NdI.cx(x:GsI σ){i:Nat}{p:Nod}(h:NdI σ i p)(E:p.up=true):∃ τ ex,Gs.tO i σ τ/\GsI τ/\NdI τ i p.cx/\(∀ b s c,τ.W b s c->σ.W b s c\/ex=some (b,s))/\∀ b s,ex=some (b,s)->s<40/\b=p.bn.hU/\s=p.ae.length/\∀ c,τ.W b s c->p.rk s=some c:=by
 obtain⟨rs,k⟩:=h.up E;have f:∃ τ ex,Gs.tO i σ τ/\GsI τ/\NdI τ i p/\(∀ b s c,τ.W b s c->σ.W b s c\/ex=some (b,s))/\∀ b s,ex=some (b,s)->s<40/\b=p.bn.hU/\s=p.ae.length/\∀ c,τ.W b s c->p.rk s=some c:=⟨σ,none,.refl i σ,x,h,λ_ _ _ h=>.inl h,λ_ _ e=>by cases e⟩;have o:=(EE p).trans E
 revert o
 unfold Nod.cx;split
 .exact λ_=>f
 .rename_i hc
  have z:p.leads=true:=by cases hh:p.leads with|true=>rfl|false=>exact absurd (.inl hh) hc
  have n:p.bn.sh=true:=by cases hh:p.bn.sh with|true=>rfl|false=>exact absurd (.inr (.inl hh)) hc
  have A:p.bn.next<=p.ae.length:=Nat.not_lt.1 λe=>hc (.inr (.inr e));cases hn:p.rk p.ae.length with
  | none=>exact λ_=>f
  | some c =>
   simp only;rcases k.tp.cl ⟨(p.ae.length:Int),p.bn.hU,c⟩with⟨e,he⟩|⟨e,he,rs',hp,ht,hm,hpb,d,a,w⟩
   .rw[if_pos e];exact λ_=>f
   .rw[if_neg (λg=>g e)];intro o;have F:=Aq he;have y:p.bn.hU≠Bf:=(nL z).1;obtain⟨D,t⟩:=k.rd.hU.resolve_left y;have H:=WL x k.rd D n A hn;have C:∀ l,¬ σ.W p.bn.hU p.ae.length l:=λl g=>by have:=k.rd.next _ _ g;omega
    have I:p.bn.hU.key<=σ.P i:=by
     obtain⟨q,w,G,_⟩:=G3 p.bn.rN p.bn.rN (by have:5<2*Jy p.bn.rN:=nL n;omega) (by have:5<2*Jy p.bn.rN:=nL n;omega);exact k.rd.own q w G
    have m:=x.prop D H (by rw[t,nE];exact I) C;have j:Gs.tO i σ (σ.prop p.bn.hU p.ae.length c):=⟨⟨λ_=>mW _,λ_ _ _ g=>.inl g⟩,λb s l g=>g.imp id λe=>by rw[e.1];exact t,λ_ _=>rfl⟩;have B:(σ.prop p.bn.hU p.ae.length c).sG ⟨(p.ae.length:Int),p.bn.hU,c⟩:=⟨F.2.1,.inr ⟨rfl,nE _,rfl⟩⟩;have K:=k.rd.mono (τ:=σ.prop p.bn.hU p.ae.length c) (r:=p.bn) j.le m;refine⟨_,some (p.bn.hU,p.ae.length),j,m,NdI.mk' (rs:=rs') o ?_ ?_,λb s l g=>g.imp id λe=>by rw[e.1,e.2.1],λb s e=>?_⟩
    .refine k.wrote (q:=(p.cl ⟨(p.ae.length:Int),p.bn.hU,c⟩).1) (r:={ p.bn with next:=p.ae.length+1 }) j.le m rfl ht hp (λv J=>((hm v).1 J).elim (λe=>by rw[e];exact B) λg=>j.le.sG (k.sG v g)) ?_ (mT _) ?_ ((hm _).2 (.inl rfl)) (by rw[w];rfl)
     .have g:=k.rd;refine RdI.mono (σ:=σ) j.le m (r:={ p.bn with next:=p.ae.length+1 }) ⟨g.hU,λs l u=>X' (g.next s l u) (by show p.bn.next<=p.ae.length+1;omega),g.own,g.an,g.prom,g.acc⟩ λs l u=>?_;rcases u with u|⟨_,rfl,_⟩
      .exact X' (g.next s l u) (by show p.bn.next<=p.ae.length+1;omega)
      .exact Nat.lt_succ_self _
     .rw[ht.vo,hpb];exact mT _
    .show AgL _ (p.cl ⟨(p.ae.length:Int),p.bn.hU,c⟩).1.ae 0;rw[w];exact h.ag.mono j.le
    .cases e;have:=F.2.1.1.2;exact⟨by simp only at this;omega,rfl,rfl,λl g=>by
      rcases g with g|⟨_,_,g⟩
      .exact absurd g (C l)
      .rw[g];exact hn⟩
theorem LtI.none(h:l.kind=6):LtI σ l:=⟨λe=>by omega,λe=>by omega,λe=>by omega,λe=>by omega,λe=>by omega,λe=>by omega⟩
theorem LtI.news(h:l.kind=5)(a:AgL σ l.gC l.bt):LtI σ l:=⟨λe=>by omega,λe=>by omega,λe=>by omega,λe=>by omega,λe=>by omega,λ_=>a⟩
theorem NdI.run(C:GsI σ){i:Nat}(H:i<5){p:Nod}(h:NdI σ i p)(j:p.up=true){q:Pend}{l:List Pend}(A:p.bu=q::l)(E:¬ p.sy<(p.d.length:Int)):NdI σ i { p.ln i q with bu:=l }/\∀ m∈p.sc i q,LtI σ m:=by
 obtain⟨B,k⟩:=h.up j;have f:=k.tp.all E;have c:=k.pe q (by rw[A];exact M');have t:∀ x∈l,x∈p.bu:=λx u=>by rw[A];exact I' _ u
 have o:∀ {p':Nod},UpI σ i p' B->p'.bu=p.bu->UpI σ i { p' with bu:=l } B:=λ{p'} g e=>g.nn rfl rfl rfl g.rd rfl λx u=>.inl (by rw[e];exact t x u);cases q with
 | began b vs =>
  unfold Nod.ln Nod.sc;simp only;split
  .exact⟨NdI.mk' j (o k rfl) h.ag,λm a=>by cases a⟩
  .rename_i e
   have e:=mX.1 e;obtain⟨w,G⟩:=c;have r:=k.tp.ok.acc;rw[<- k.tp.vo]at r
   have z:=k.bp;have y:p.bn.hU=b:=by
    rw[<- e];refine DL ?_ r.1 (by rw[e]at z ⊢;omega);rcases k.rd.hU with g|g
    .rw[g];exact .inr ⟨rfl,rfl⟩
    .exact g.1.pr
   have s:b.key<=σ.P i:=by have:=w.le;rw[<- f]at this;exact this
   rw[<- f,<- y]at w
   rw[<- y]at s
   refine⟨NdI.mk' j (o (p':={ p with bn:=p.bn.sw i vs }) (k.nn rfl rfl rfl (k.rd.sw w s) rfl λx u=>.inl u) rfl) h.ag,λm a=>?_⟩;obtain⟨to,_,rfl⟩:=CF a;refine⟨λ_=>?_,λe=>(by cases e),λe=>(by cases e),λe=>(by cases e),λe=>(by cases e),λe=>(by cases e)⟩;show b.key<=σ.P b.n.toNat;rw[<- y];rcases k.rd.hU with g|g
   .rw[g];have F:=(C.ok (Bf.n.toNat)).acc.1;have:0<=σ.P (Bf.n.toNat):=by
     unfold Ap Ac at F;unfold Gs.P Bal.key;omega
    exact this
   .rw[g.2,nE];exact s
 | prom to b vs =>
  refine⟨NdI.mk' j (o k rfl) h.ag,λm a=>?_⟩;rw[D'.1 a];refine⟨λe=>(by cases e),λ_=>⟨?_,c.2,h.ag⟩,λe=>(by cases e),λe=>(by cases e),λe=>(by cases e),λe=>(by cases e)⟩;show PrmOk (σ.dr i) b vs;rw[f];exact c.1
 | voted to v =>
  refine⟨NdI.mk' j (o k rfl) h.ag,λm a=>?_⟩;rw[D'.1 a];refine⟨λe=>(by cases e),λe=>(by cases e),λe=>(by cases e),λe=>(by cases e),λ_=>?_,λe=>(by cases e)⟩;show Rk.vt v∈σ.dr i;rw[f];exact c
 | ew to b =>
  refine⟨NdI.mk' j (o k rfl) h.ag,λm a=>?_⟩;rw[D'.1 a];refine⟨λe=>(by cases e),λe=>(by cases e),λ_=>?_,λe=>(by cases e),λe=>(by cases e),λe=>(by cases e)⟩;show Ap b/\b.key<=(By (σ.dr i)).p.key;rw[f];exact c
 | prop v =>
  have D:σ.held i v:=by show Rk.vt v∈σ.dr i;rw[f];exact c
  have g:=k.count h.ag D;refine⟨NdI.mk' ((congrArg Prod.fst (L9 p i v)).trans j) (o g.1 (DG p i (.prop v)).1) g.2,λm a=>?_⟩;obtain⟨to,_,rfl⟩:=CF a;exact⟨λe=>(by cases e),λe=>(by cases e),λe=>(by cases e),λ_=>k.sG v c,λe=>(by cases e),λe=>(by cases e)⟩
 | askNews to=>exact⟨NdI.mk' j (o k rfl) h.ag,λm a=>by rw[D'.1 a];exact LtI.none rfl⟩
 | start=>exact⟨NdI.mk' j (o k rfl) h.ag,λm a=>by obtain⟨to,_,rfl⟩:=CF a;exact LtI.none rfl⟩
 | tell to bt=>exact⟨NdI.mk' j (o k rfl) h.ag,λm a=>by rw[D'.1 a];exact LtI.news rfl (h.ag.drop bt)⟩
theorem NdI.lead(w:GsI σ){i:Nat}(E:i<5){p:Nod}(h:NdI σ i p)(y:p.up=true):NdI σ i (p.lead i):=by
 obtain⟨rs,k⟩:=h.up y;have f:(p.lead i).up=true:=(congrArg Prod.fst (Pr p i)).trans y
 revert f
 unfold Nod.lead;simp only;generalize m:(⟨max p.cF p.vo.p.r+1,(i:Int)⟩:Bal)=b;rcases k.tp.au b with⟨e,he⟩|⟨e,he,hvs,rs',hp,ht,hm,hpb,hpv,d,a,hq⟩
 .rw[if_pos e];exact λ_=>h
 .rw[if_neg (λg=>g e)];intro f;have A:=Co he;have C:p.vo.p.key<b.key:=by
   have:=A.1.1;rw[<- m];unfold Ap Ac at this;show 5*p.vo.p.r+p.vo.p.n<5*(max p.cF p.vo.p.r+1)+(i:Int);omega
  refine NdI.mk' (rs:=rs') f ?_ ?_
  .refine k.wrote (q:=(p.au b).1) (r:=⟨b,λ_=>false,λ_=>Em,λ_=>p.ae.length,0,[]⟩) (.refl σ) w rfl ht hp (λv o=>k.sG v ((hm v).1 o)) ?_ ?_ ?_ ⟨PrmOk.of ht.ok hpb (hpv.trans hvs.symm),mT _⟩ (by rw[hq];rfl)
   .refine⟨.inr ⟨A.2.1,by rw[<- m]⟩,λs c B=>?_,λj _ e=>(by cases e),λj _ v o=>(by cases o),λj _ e=>(by cases e),λj _=>⟨KV,λe=>(by cases e)⟩⟩;have l:=w.w3 _ _ _ B;rw[show b.n.toNat=i by rw[<- m];exact nE i]at l
    obtain⟨x,z⟩:=k.tp.pre;have t:=k.tp.ok;rw[<- z]at t
    have u:=(DF t).1;rw[z,<- k.tp.vo]at u
    have D:σ.P i<=p.vo.p.key:=u;have l:b.key<=σ.P i:=l;omega
   .have:=k.bp;show _<=b.key;omega
   .rw[ht.vo,hpb];exact mT _
  .show AgL σ (p.au b).1.ae 0;rw[hq];exact h.ag
theorem JU(k:Nat):∀ m∈Dt p i k,m.kind=5/\m.gC=p.ae.drop m.bt:=by
 induction k with
 | zero=>intro m hm;cases hm
 | succ k ih =>
  intro m hm;rw[Dt]at hm
  rcases P'.1 hm with hm|hm
  .exact ih m hm
  .split at hm
   .rw[D'.1 hm];exact⟨rfl,rfl⟩
   .cases hm
theorem AgI.tY(h:AgI σ M)(s:Stp D n M N):∃ τ ex,σ.le τ/\AgI τ N/\(∀ b s c,τ.W b s c->σ.W b s c\/ex=some (b,s))/\∀ b s,ex=some (b,s)->n=1/\s<40/\∃ i,i<5/\b=(M.ab i).bn.hU/\(M.ab i).up=true/\s=(M.ab i).ae.length/\∀ c,τ.W b s c->(M.ab i).rk s=some c:=by
 have r:=h.gs;have done:∀ {i:Nat} {p:Nod} {G:List Let} {O:List Tol},NdI σ i p->(∀ l∈G,l∈M.br\/LtI σ l)->∃ τ ex,σ.le τ/\AgI τ (M.set i p G O)/\(∀ b s c,τ.W b s c->σ.W b s c\/ex=some (b,s))/\∀ b s,ex=some (b,s)->n=1/\s<40/\∃ i,i<5/\b=(M.ab i).bn.hU/\(M.ab i).up=true/\s=(M.ab i).ae.length/\∀ c,τ.W b s c->(M.ab i).rk s=some c:=λ{i p G O} E f=>⟨σ,none,.refl σ,h.set (.refl _ σ) r E f O,λ_ _ _ h=>.inl h,λ_ _ e=>by cases e⟩;have same:∀ l∈M.br,l∈M.br\/LtI σ l:=λl f=>.inl f;have app:∀ {ms:List Let},(∀ m∈ms,LtI σ m)->∀ l∈M.br++ms,l∈M.br\/LtI σ l:=λg l f=>(P'.1 f).imp id (g l);cases s with
 | take _ l f hd hu _=>exact done ((h.nd _ hd.2).take r hu (h.lt l f) hd.1) same
 | br _ G f _=>exact⟨σ,none,.refl σ,⟨r,h.nd,λl g=>h.lt l (f l g)⟩,λ_ _ _ h=>.inl h,λ_ _ e=>by cases e⟩
 | one _ i c hi hu hc he =>
  refine done ?_ same;obtain⟨rs,k⟩:=(h.nd i hi).up hu;have Q:=DY { M.ab i with ni:=doS (M.ab i).ni c,done:=(M.ab i).done+1 } c;refine NdI.mk' (Q.1.trans hu) (rs:=rs) ?_ (by rw[Q.2.1];exact(h.nd i hi).ag);unfold Nod.fv;split<;>exact k.nn rfl rfl rfl k.rd rfl λx a=>.inl a
 | ask _ i hi hu =>
  obtain⟨rs,k⟩:=(h.nd i hi).up hu;have z:=(h.nd i hi).ag;have C:=(Ix (M.ab i) i).trans hu;generalize E:M.ab i=p at k z C ⊢;refine done (NdI.mk' (rs:=rs) C ?_ ?_) (app ?_)
  .unfold Nod.jv;split
   .exact k.nn rfl rfl rfl k.rd rfl λx a=>.inl a
   .split
    .exact(FC (p:={ p with bN:=(Bd p.vo.p p.bN (p.av.take 40)).2 }) (k.nn rfl rfl rfl k.rd rfl λx a=>.inl a) _).1
    .exact k.nn rfl rfl rfl k.rd rfl λx a=>.inl a
  .unfold Nod.jv;split
   .exact z
   .split
    .show AgL σ (Nod.dT _ _).ae 0;rw[(FC (p:={ p with bN:=(Bd p.vo.p p.bN (p.av.take 40)).2 }) (k.nn rfl rfl rfl k.rd rfl λx a=>.inl a) _).2];exact z
    .exact z
  .intro m u;unfold Nod.jv at u;split at u
   .cases u
   .split at u
    .cases u
    .rw[D'.1 u];exact LtI.none rfl
 | prop _ i hi hu =>
  obtain⟨τ,ex,o,w,V,X,H⟩:=(h.nd i hi).cx r hu;exact⟨τ,ex,o.le,h.set o w V (λl f=>.inl f) _,X,λb s e=>⟨rfl,(H b s e).1,i,hi,(H b s e).2.1,hu,(H b s e).2.2⟩⟩
 | so _ i hi hu hlt I =>
  obtain⟨rs,k⟩:=(h.nd i hi).up hu;obtain⟨x,a⟩:=k.tp.pre;have w:=r.ext (i:=i) x (by rw[a];exact k.tp.ok) λv t=>k.sG v (by rw[<- a];exact mU _ t);have o:=Pl σ i x;refine⟨σ.ext i x,none,o.le,h.set o w (NdI.mk' (p:={ M.ab i with sy:=((M.ab i).d.length:Int) }) (rs:=rs) hu ⟨?_,λv t=>o.le.sG (k.sG v t),k.rd.mono o.le w λs c J=>k.rd.next s c J,k.bp,λq F=>(k.pe q F).mono o.le w (mW _) k.tp.ok (mT _)⟩ ((h.nd i hi).ag.mono o.le)) (λl f=>.inl f) _,λ_ _ _ h=>.inl h,λ_ _ e=>by cases e⟩;rw[Ic,a];exact k.tp.so
 | run _ i hi hu q l E hs =>
  have g:=(h.nd i hi).run r hi hu E hs;exact done g.1 (app g.2)
 | sg _ i hi hu hL =>
  obtain⟨rs,k⟩:=(h.nd i hi).up hu;refine done (NdI.mk' (rs:=rs) hu (k.nn rfl rfl rfl ⟨k.rd.hU,k.rd.next,k.rd.own,k.rd.an,k.rd.prom,k.rd.acc⟩ rfl λx a=>.inl a) (h.nd i hi).ag) (app λm u=>?_);obtain⟨T,U⟩:=JU 5 m u;exact LtI.news T (by rw[U];exact(h.nd i hi).ag.drop _)
 | lead _ i hi hu _=>exact done ((h.nd i hi).lead r hi hu) same
 | sub _ i d hi hu P =>
  obtain⟨rs,k⟩:=(h.nd i hi).up hu;have z:=(h.nd i hi).ag;refine done ?_ same;unfold Nod.sj Nod.ss;split
  .exact h.nd i hi
  .split
   .exact NdI.mk' (rs:=rs) hu (k.nn rfl rfl rfl k.rd rfl λx a=>.inl a) z
   .split
    .exact h.nd i hi
    .show NdI σ i (Nod.want _ _);unfold Nod.want;split
     .exact h.nd i hi
     .exact NdI.mk' (rs:=rs) hu (k.nn rfl rfl rfl k.rd rfl λx a=>.inl a) z
 | lp _ i c hi hu hc _ =>
  obtain⟨rs,k⟩:=(h.nd i hi).up hu;obtain⟨S,⟨x,a⟩,⟨y,R⟩,P⟩:=k.tp.lp hc;have w:=r.ext (i:=i) x (k.tp.ok.pre ⟨y,by rw[a];exact R⟩) λv t=>k.sG v (by rw[<- R,<- a];exact mV _ (mU _ t));have o:=Pl σ i x;have A:=I2 (p:=M.ab i) k.tp.sT hc;exact⟨σ.ext i x,none,o.le,h.set o w ⟨λe=>(by rw[A.2.1]at e;cases e),λ_=>(by rw[Ic,a];exact P),by rw[A.2.2.2];exact AgL.nil _ _⟩ (λl f=>.inl f) _,λ_ _ _ h=>.inl h,λ_ _ e=>by cases e⟩
 | start _ i hi hu _ =>
  have k:=(h.nd i hi).dn hu;have I:AV (M.ab i).d (M.ab i).sy:=⟨k.len,by rw[k.sy];omega,by rw[k.sy];omega⟩;have B:=GJ (p:=M.ab i) I;have L:=k.start;have K:(M.ab i).start.bn=eQ/\(M.ab i).start.bu=[.start]:=by
   unfold Nod.start;rw[if_neg (λe=>e (if_pos I))];split<;>exact⟨rfl,rfl⟩
  refine done (NdI.mk' (rs:=σ.dr i) B.2.1 ⟨L,λv t=>r.hv i v t,?_,?_,λq F=>?_⟩ (by rw[B.2.2.2];exact AgL.nil _ _)) same
  .rw[K.1];exact⟨.inl rfl,λs c J=>absurd (r.w2 _ _ _ J).1 (by decide),λj _ e=>(by cases e),λj _ v t=>(by cases t),λj _ e=>(by cases e),λj _=>⟨KV,λe=>(by cases e)⟩⟩
  .rw[K.1,L.vo];have Y:=L.ok.acc.1;show(0:Int)<=_;unfold Ap Ac at Y;unfold Bal.key;omega
  .rw[K.2]at F
   rw[D'.1 F];trivial
theorem AgI.step(h:AgI σ M)(s:Stp D n M N):∃ τ ex,σ.le τ/\AgI τ N/\(∀ b s c,τ.W b s c->σ.W b s c\/ex=some (b,s))/\∀ b s,ex=some (b,s)->n=1/\s<40/\∃ i,i<5/\b=(M.ab i).bn.hU:=by
 obtain⟨τ,ex,a,d,f,g⟩:=h.tY s;exact⟨τ,ex,a,d,f,λb s e=>by
  obtain⟨j,k,i,l,m,_⟩:=g b s e;exact⟨j,k,i,l,m⟩⟩
theorem AgI.zero:AgI ⟨λ_=>[],λ_ _ _=>False⟩ Ao :=
 ⟨⟨λ_=>AU.nil,⟨λn s b c ⟨v,g,_⟩=>(by cases g),λn k s b c h ⟨v,g,_⟩=>(by cases g),λn s b c ⟨v,g,_⟩=>(by cases g)⟩,λ_ _ _ _ g=>g.elim,λ_ _ _ g=>g.elim,λ_ _ _ g=>g.elim,λn v g=>(by cases g)⟩,
  λi _=>NdI.mk' (rs:=[]) rfl ⟨TpU.zero,λv g=>(by cases g),⟨.inl rfl,λ_ _ g=>g.elim,λj _ e=>(by cases e),λj _ v f=>(by cases f),λj _ e=>(by cases e),λj _=>⟨KV,λe=>(by cases e)⟩⟩,mT _,λq d=>(by cases d)⟩ (AgL.nil _ _),λl a=>by cases a⟩
end
end
end Go.Proofs.YthkjeoamjgnpoaaGreatDoor
