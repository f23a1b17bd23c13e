/- Part 13 of the walk. -/
import Derived.Lib.AppendZeros
import Derived.Test.YtngmpodijpelnaaGreatDoorZ12
set_option maxRecDepth 100000
set_option maxHeartbeats 4000000
open Go.Proofs.Tryz
set_option linter.unusedVariables false
namespace Go.Proofs.YtngmpodijpelnaaGreatDoor
section
open Go.RowKit
section
theorem On(a:List (List Int))(j:Nat)(h:j<a.length):(a.take (j+1)).flatten=(a.take j).flatten++a.getD j []:=by
 rw[nE h,List.flatten_append];simp[List.getD,List.getElem?_eq_getElem h]
theorem UF(a:List (List Int))(h:∀ l∈a,l.length<=1000):a.flatten.length<=1000*a.length:=by
 induction a with
 | nil=>simp
 | cons x r ih =>
  have c:=h x (by simp);have d:=ih (λl b=>h l (by simp[b]));simp only[List.flatten_cons,E',nQ];omega
theorem Nv(n:Nat):(Builtin.zeroCells (Value.int .u8 0).cells n).size=n:=by
 simp[Builtin.zeroCells,Value.cells]
theorem YM(n:Nat)(w:World)(o:0<n)(t:n<=20000) :
  Calls prog 31 #[.slice none 0 0,.int .i64 (n:Int)] w λe w'=>∃ v',e=.returned v'/\w'.ownsRow w.heap.size 5 1 v' 0 []/\Bw w w':=by
 obtain⟨r,l,d,f,g⟩:=info_parts Ay;have i:=λs=>Lib.run_append_nil_zeros (P:=prog) w 26 3 s 5 r (.int .u8 0) .i64 .i64 underlying26 underlying3 l d n o (by rw[f];decide) (by omega) (by rw[g];omega);have c:=grownCap_ge w n 0 5;have b:=grownCap_le_maxLen w n 0 5 (by unfold maxLen;omega);have a:(Builtin.zeroCells (Value.int .u8 0).cells n++Builtin.zeroCells (Value.int .u8 0).cells (grownCap w n 0 5-n)).size=grownCap w n 0 5*1:=by rw[Array.size_append,Nv,Nv];omega
 generalize Builtin.zeroCells (Value.int .u8 0).cells n++Builtin.zeroCells (Value.int .u8 0).cells (grownCap w n 0 5-n)=Z at i a;generalize grownCap w n 0 5=cap at i a c b;have k:Bw w (w.drew.alloc (.cells Z 5)):=((Below.refl w.heap.size w).drew).alloc (by exact A' _) _;have j:(w.drew.alloc (.cells Z 5)).heap[w.heap.size]?=some (.cells Z 5):=heap_alloc_new _ _;generalize w.drew.alloc (.cells Z 5)=W at i k j;have p:W.ownsRow w.heap.size 5 1 (.slice (some ⟨w.heap.size,0,none⟩) 0 cap) 0 []:=⟨by simp,.inr ⟨w.heap.size,cap,Z,rfl,A' _,j,by omega,b,a,by simp⟩⟩;have q:∀ h,(Instr.slice 26 (.slice (some ⟨w.heap.size,0,none⟩) n cap) none (some (.int .i64 0)) none).run prog h=.ok (.slice (some ⟨w.heap.size,0,none⟩) 0 cap) h:=λh=>by
  rw[run_slice_h (P:=prog) h 26 (some ⟨w.heap.size,0,none⟩) n cap underlying26 .i64 0 (by omega) (by omega)];have e:prog.elem 26=5:=by kernel_rfl
  rw[e,GL];simp[Result.andThen,sliced,Addr.add_mid]
 have m:(0:Int)<(n:Int):=by omega
 clear j a b c l d f g;go_enter func31,ntmps31
 go_wp2_with (at_builtin;refine Lib.wpList_append_run _ rfl _ _ _ _ rfl _ _ rfl rfl _ _ (i _) ?_)
 go_ret;exact⟨_,rfl,p,k⟩
theorem L9(g n M:Nat)(K:List Value)(a:List (List Int))(w:World)(hg:g<w.heap.size)(hn:n<=10)(C:a.length=n)(R:∀ i,i<n->w.cell? ⟨g,i,none⟩=some (K.getD i undef))(U:∀ i,i<n->Sl w (K.getD i undef) (a.getD i []))(y:∀ l∈a,l.length<=1000)(T:0<a.flatten.length) :
  Calls prog 17 #[.slice (some ⟨g,0,none⟩) n M] w λe w'=>∃ v',e=.returned v'/\w'.ownsRow w.heap.size 5 1 v' a.flatten.length (a.flatten.map (Value.int .u8))/\Bw w w':=by
 have c:Hid (a.length=n):=C;have O:Hid _:=R;have P:Hid _:=U;have I:Hid _:=y;have X:Hid _:=T;clear C R U y T;go_enter func17,ntmps17
 go_wp2_with fail
 go_loopw [3,11] (λsv i wr=>∃ j:Nat,j<=n/\i=.int .i64 j/\sv=.int .i64 ((a.take j).flatten.length:Int)/\w=wr) (λ_ i _=>n-(intOf i).toNat)
 case atStart=>exact⟨0,by omega,rfl,by simp,rfl⟩
 case round =>
  obtain⟨j,hj,rfl,rfl,rfl⟩:=hrel;have d:=UF (a.take j) (λl y=>I.out l (nB y));by_cases m:j<n
  .have t:(a.take j).flatten.length<=10000:=by rw[j']at d;omega
   have r:Hid ((a.take (j+1)).flatten.length=(a.take j).flatten.length+(a.getD j []).length):=by unfold Hid;rw[On a j (by rw[c.out];exact m),E']
   have q:=P.out j m;have J:=O.out j m;have u:(a.getD j []).length<=1000:=by
    have f:j<a.length:=by rw[c.out];exact m
    have:a.getD j []=a[j]:=by simp[List.getD,List.getElem?_eq_getElem f]
    rw[this];exact I.out _ (nU f)
   generalize K.getD j undef=vj at q J;generalize a.getD j []=lj at q r u;generalize (a.take j).flatten.length=pre at r t;clear d;obtain⟨⟨aj,kj,rfl,_,_,_⟩,_,_⟩:=q;generalize lj.length=nj at *;go_wp2
   go_roundw
   case rel=>exact⟨j+1,by omega,by go_num,by rw[r.out];go_num,by simp⟩
   case measure=>simp[intOf];omega
  .obtain rfl:j=n:=by omega
   have Q:Hid (a.take j=a):=nw (by rw[c.out];exact A' _);have V:a.flatten.length<=10000:=by rw[Q.out,c.out]at d;omega
   rw[Q.out];clear d;have L:=X.out;generalize G:a.flatten.length=Z at V L;have Y:Hid (a.flatten.length=Z):=G;clear G;go_wp2_with fail
   refine(YM Z w L (by omega)).mono ?_;rintro e w1 ⟨v1,rfl,x,A⟩;clear L V;obtain⟨g1,c1,rfl⟩:=CE x;have z:Hid (w1.ownsRow w.heap.size 5 1 (.slice g1 0 c1) (a.take 0).flatten.length ((a.take 0).flatten.map (Value.int .u8))):=by unfold Hid;simpa using x
   clear x;go_wp2_with fail
   go_loopw [6,27] (λv i wr=>∃ k:Nat,k<=j/\i=.int .i64 k/\Hid (wr.ownsRow w.heap.size 5 1 v (a.take k).flatten.length ((a.take k).flatten.map (Value.int .u8)))/\Bw w wr) (λ_ i _=>j-(intOf i).toNat)
   case atStart=>exact⟨0,by omega,rfl,z,A⟩
   case round =>
    obtain⟨k,S,rfl,h,s⟩:=hrel;have b:=h.out;clear h z A;have D:=b.lt;by_cases o:k<j
    .have d:=UF (a.take k) (λl y=>I.out l (nB y));have t:(a.take k).flatten.length<=10000:=by rw[j']at d;omega
     have r:Hid ((a.take (k+1)).flatten=(a.take k).flatten++a.getD k []):=On a k (by rw[c.out];exact o);have q:=(P.out k o).af s;have J:=(s.cell (p:=⟨g,k,none⟩) hg).trans (O.out k o);have u:(a.getD k []).length<=1000:=by
      have f:k<a.length:=by rw[c.out];exact o
      have:a.getD k []=a[k]:=by simp[List.getD,List.getElem?_eq_getElem f]
      rw[this];exact I.out _ (nU f)
     generalize K.getD k undef=vj at q J;generalize a.getD k []=lj at q r u;generalize (a.take k).flatten=pre at b r t;clear d;have H:=q;obtain⟨⟨aj,kj,rfl,_,_,_⟩,_,_⟩:=q;go_wp2_with (at_builtin;refine Aa _ rfl _ _ 26 rfl w.heap.size 5 underlying26 Ay _ _ rfl rfl pre lj b H (by omega) s.size ?_)
     intro v2 W E B;have F:W.ownsRow w.heap.size 5 1 v2 (pre++lj).length ((pre++lj).map (Value.int .u8)):=by simpa using E
     have N:Bw w W:=s.grown B s.size (λk S=>(D k S).1);clear E B b D s H J;go_wp2
     go_roundw
     case rel=>exact⟨k+1,by omega,by go_num,by rw[r.out];exact F,N⟩
     case measure=>simp[intOf];omega
    .have HJ:Hid (a.take k=a):=by unfold Hid;exact nw (by rw[c.out];omega)
     go_wp2
     go_ret;refine⟨u6,rfl,?_,s⟩;rw[HJ.out]at b
     exact b
theorem da(f h a:Value)(b c d:List Int)(w:World)(e:TypeId)(g:Nat)(o:g=w.heap.size)(k:Sl w f b)(m:Sl w h c)(n:Sl w a d)(p:b.length<=1000)(q:c.length<=1000)(r:d.length<=1000)(s:0<b.length) :
  Calls prog 17 #[.slice (some ⟨g,0,none⟩) 3 3] (w.alloc (.cells #[f,h,a] e)) λe w'=>∃ v',e=.returned v'/\w'.ownsRow w.heap.size 5 1 v' (b++(c++d)).length ((b++(c++d)).map (Value.int .u8))/\Bw w w':=by
 subst o;have j:Bw w (w.alloc (.cells #[f,h,a] e)):=(Below.refl _ _).alloc (A' _) _;refine(L9 w.heap.size 3 3 [f,h,a] [b,c,d] (w.alloc (.cells #[f,h,a] e)) (by simp) (by omega) rfl ?_ ?_ ?_ ?_).mono ?_
 .intro i hi;rw[cell_of_row _ _ i _ _ _ (heap_alloc_new w _)];obtain rfl|rfl|rfl:i=0\/i=1\/i=2:=by omega
  all_goals rfl
 .intro i hi;obtain rfl|rfl|rfl:i=0\/i=1\/i=2:=by omega
  .exact k.af j
  .exact m.af j
  .exact n.af j
 .intro l hl;simp only[nr,Q',or_false]at hl;rcases hl with rfl|rfl|rfl
  .exact p
  .exact q
  .exact r
 .simp;omega
 .rintro e w2 ⟨a,rfl,ho,hb⟩;exact⟨a,rfl,BN (by simpa using ho) (by simp),j.trans (hb.mono (by simp))⟩
variable{P:Program}{W w:World}{b g off:Nat}{c k n s tc tr tu v:Int}{e:TypeId}{x:S3}{y:Operand}
theorem cZ{c d:Value}{a b:List Int}(f:w.heap[g]?=some (.cells #[c,d] e))(h:Sl w c a)(j:Sl w d b)(k:a.length<=1000)(m:b.length<=1000)(n:0<a.length) :
  Calls prog 17 #[.slice (some ⟨g,0,none⟩) 2 2] w λe w'=>∃ v',e=.returned v'/\w'.ownsRow w.heap.size 5 1 v' (a++b).length ((a++b).map (Value.int .u8))/\Bw w w':=by
 refine(L9 g 2 2 [c,d] [a,b] w (U'.1 f).1 (by omega) rfl ?_ ?_ ?_ ?_).mono ?_
 .intro i hi;rw[cell_of_row _ _ i _ _ _ f];obtain rfl|rfl:i=0\/i=1:=by omega
  all_goals rfl
 .intro i hi;obtain rfl|rfl:i=0\/i=1:=by omega
  .exact h
  .exact j
 .intro l hl;simp only[nr,Q',or_false]at hl;rcases hl with rfl|rfl
  .exact k
  .exact m
 .simp;omega
 .rintro e w2 ⟨v2,rfl,ho,hb⟩;exact⟨v2,rfl,by simpa using ho,hb⟩
theorem YL(d:Sl w x.v Ft)(f:AD w)(h:Dc tc tr tu) :
  Calls prog 12 #[x.v,.agg #[iv tc,iv tr,iv tu]] w λe w'=>∃ y:S3,e=.returned (.tuple #[y.v,iv 0])/\Sl w' y.v (EO Ft tc tr tu)/\Bw w w':=by
 refine(Wf x.v Ft tc tr tu w d f).mono ?_;have a:NE Ft tc tr tu=0:=by rw[QK G4];exact Hp h
 rintro e w' ⟨v,rfl,b,c⟩;rw[show QL Ft tc tr tu=EO Ft tc tr tu from if_pos a]at b
 rw[a];obtain⟨y,rfl,g⟩:=PB b (by rw[BI];decide) (OV _ h);exact⟨y,rfl,g,c⟩
theorem XS{y:S3}{l m:List Int}(j:w.heap[g]?=some (.cells #[x.v,y.v] e))(b:Sl w x.v l)(c:Sl w y.v m)(n:l.length<=1000)(o:m.length<=1000)(p:0<l.length) :
  Calls prog 17 #[.slice (some ⟨g,0,none⟩) 2 2] w λe w'=>∃ z:S3,e=.returned z.v/\Sl w' z.v (l++m)/\Nb w.heap.size z (l++m)/\Bw w w':=by
 refine(cZ j b c n o p).mono ?_;rintro e w' ⟨v,rfl,i,f⟩;obtain⟨z,rfl,k,h⟩:=JK i (by rw[E'];omega) (λa d=>(O'.1 d).elim (b.byte a) (c.byte a));exact⟨z,rfl,k,h,f⟩
theorem Vc{m:Int}(h:paE n tc tr tu k c s m v=0)(o:Tabs w) :
  Calls prog 5 #[iv n,.agg #[iv tc,iv tr,iv tu],.agg #[iv k,iv c,iv s,iv m,iv v]] w λe w'=>∃ y:S3,e=.returned (.tuple #[y.v,iv 0])/\Sl w' y.v (paL n tc tr tu k c s m v)/\Nb w.heap.size y (paL n tc tr tu k c s m v)/\Bw w w':=by
 obtain⟨Y,hB,X⟩:=IQ h;have hc:=(Dk X).2;unfold InC at hc;rw[PC h];refine kIn func5 (kR 11 [0,0,0,0] λb4 w1 b1=>kV 1 (.bool false) (rLt (x:=(.tmp 14)) (y:=(.const (iv 0))) (t:=3) (m:=n) (n:=0) (H' (by omega))) (kR 2 [] λb6 w2 b2=>kV 4 (.bool false) (rGe (x:=(.tmp 17)) (y:=(.const (iv 1073741824))) (t:=3) (m:=n) (n:=1073741824) (H' (by omega))) (kR 7 [8,2,0] λb7 w3 b3=>?_)));have S:=(btr (btr b1 b2) b3);refine kC 0 (JE (o.t.af S)) ?_;rintro _ w5 ⟨yi,rfl,M,_,U⟩;refine⟨_,rfl,U,?_⟩;have T:=(btr S U);refine kC 2 (YL M (o.t.af T) hB) ?_;rintro _ w8 ⟨yt,rfl,Q,V⟩;refine⟨_,rfl,V,?_⟩;refine kR 17 [6,8,10,12,14,1] λc0 w9 W=>?_;have p:=(btr (btr T V) W);refine kC 1 (Y4 (m:=⟨k,c,s,m,v⟩) (o.n.af p) X) ?_;rintro _ a2 ⟨yc,rfl,L,g⟩;refine⟨_,rfl,g,?_⟩;refine kR 18 [1] λZ a3 i=>?_;have r:=(btr (btr p g) i);refine kC 2 (YZ (c:=c) (by omega) (by omega) (o.t.af r)) ?_;rintro _ a4 ⟨yk,rfl,N,_,d⟩;refine⟨_,rfl,d,?_⟩;refine kR 22 [0,0] λH a5 f=>Af λK=>kC 6 (XS (K.uO 2 (H 0) _ 26 .z true (by kernel_rfl)) (((((Q.af W).af g).af i).af d).af f) (((L.af i).af d).af f) (by rw[BI];decide) (by rw[BF];decide) (by rw[BI];decide)) ?_;rintro _ a6 ⟨yp,rfl,O,_,j⟩;refine⟨_,rfl,j,?_⟩;have A:=(btr (btr (btr r d) f) j);refine kC 7 (fm ((N.af f).af j) (Cy c) O (na (Nat.le_of_eq (DI tc tr tu k c s m v)) (by decide)) ⟨Y.1,Y.2⟩ (o.q.af o.q.pos A)) ?_;rintro _ a7 ⟨u,z,rfl,hz,_,C⟩;refine⟨_,rfl,C,?_⟩;refine kR 21 [0,0,3,0,1] λa0 a8 D=>kV 2 (.int .u8 c) (gw (P:=prog) (src:=3) (dst:=5) (k:=.i64) (n:=c) (by kernel_rfl) underlying5 (by kernel_rfl) (by rw[IntKind.wrap_u8];omega)) (kR 3 [0,0,0,0] λb R E=>Af λK=>?_);have J:Sl R (S3.v ⟨some ⟨(b 0),0,none⟩,1,1⟩) [c]:=Sl.ofRow (l:=[c]) (K.uO 4 (b 0) _ 5 .z true (by kernel_rfl)) (by show 1<=_;decide) (λa ha=>by rw[D'.1 ha];omega);have B:=(btr (btr (btr A C) D) E);refine kC 6 (XS (x:=⟨some ⟨(b 0),0,none⟩,1,1⟩) (K.uO 5 (b 1) _ 26 .z true (by kernel_rfl)) J ((hz.af D).af E) (by show 1<=1000;decide) (by rw[Ds];show(paP tc tr tu k c s m v).length+20<=1000;rw[DI];decide) (by show 0<1;decide)) ?_;rintro _ a9 ⟨y,rfl,hy,hw,F⟩;refine⟨_,rfl,F,?_⟩;refine kR 3 [] λa1 b0 G=>?_;have I:=(btr (btr B F) G);exact kE (.tuple #[S3.v y,iv 0]) ⟨y,rfl,(hy.af G),hw.mono B.size,I⟩
theorem lN(a:Int)(h:-9223372036854775808<=-a/\-a<=9223372036854775807):(Op.unary .neg (iv a)).run P W=.ok (iv (-a)) W:=by
 simp[go_sem];rw[IntKind.wrap_i64];omega
theorem gH{x:Operand}(a b:Int)(i:P.underlying 3=some (.int .i64))(f:0<=a)(g:a<=9223372036854775807)(j:0<b)(h:b<=9223372036854775807):(do Go.eqGuard .rem 3 x y (iv a) (iv b);Go.binOp .rem 3 (iv a) (iv b):Sem Value).run P W=.ok (iv (a%b)) W:=by
 have e:=lO (P:=P) (W:=W) (x:=x) (y:=y) a.toNat b.toNat i (by omega) (by omega) (by omega);have c:((a.toNat:Nat):Int)=a:=pR f;have d:((b.toNat:Nat):Int)=b:=pR (by omega);rw[c,d]at e
 rw[e,rX,c,d]
theorem gG{x:Operand}(a:Int)(e:P.underlying 3=some (.int .i64))(b:0<=a)(c:a<=1000):(do Go.eqGuard .quo 3 x y (iv a) (iv 2);Go.binOp .quo 3 (iv a) (iv 2):Sem Value).run P W=.ok (iv (a/2)) W:=by
 have d:a.tdiv 2=a/2:=rG b;simp only[Go.eqGuard,go_sem,Op.intDiv];simp[d];rw[IntKind.wrap_i64];omega
theorem AY(h:I64 n)(a:Int)(d:0<a:=by decide)(b:a<=9223372036854775807:=by decide) :
  Calls prog 11 #[iv n,iv a] w λe w'=>e=.returned (iv (pick n a))/\Bw w w':=by
 unfold I64 at h;refine tIn [] func11 trivial (tR 10 [] λf _ _=>?_);by_cases c:n<0
 .refine tI ((decide (n<0))) true (P' c) (tR 2 [] λg _ _=>tV 1 (iv (n+1)) (λF C=>(Bk 7 n underlying3 (by omega))) (tV 2 (iv (-(n+1))) (λF C=>(lN (n+1) (by omega))) (tR 6 [] λi _ _=>tV 2 (iv (-(n+1)%a)) (λF C=>(gH (x:=(.tmp 10)) (y:=(.tmp 11)) (-(n+1)) a underlying3 (by omega) (by omega) d b)) (tR 2 [] λj _ _=>tE (iv (-(n+1)%a)) λ_ B=>⟨by rw[show pick n a=_ from if_pos c],B⟩))))
 .refine tI ((decide (n<0))) false (H' c) (tR 5 [] λk _ _=>tV 2 (iv (n%a)) (λF C=>(gH (x:=(.tmp 10)) (y:=(.tmp 11)) n a underlying3 (by omega) (by omega) d b)) (tR 2 [] λl _ _=>tE (iv (n%a)) λ_ B=>⟨by rw[show pick n a=_ from if_neg c],B⟩))
theorem V7(h:I64 n)(a:Int)(c:0<a:=by decide)(b:a<=9223372036854775807:=by decide) :
  Calls prog 6 #[iv n,iv a] w λe w'=>e=.returned (iv (pick n a))/\Bw w w':=by
 refine tIn [] func6 trivial (tR 8 [] λd _ _=>tC1 2 (λF C=>AY h a c b) λ_=>tR 2 [] λf _ _=>tE (iv (pick n a)) λ_ B=>⟨rfl,B⟩)
theorem RU(t:I64 k)(r:I64 c)(q:I64 s)(f:I64 n)(M:I64 v) :
  Calls prog 4 #[.agg #[iv k,iv c,iv s,iv n,iv v]] w λe w'=>e=.returned (.agg #[iv (wK k),iv (pick c 4),iv (pick s 6),iv (pick n 4),iv (wV k v)])/\Bw w w':=by
 have O:=DJ k 5 (by omega);refine tIn [] func4 trivial (tR 15 [0,0,1,0,17,0,2,0,10,12,0,16,18,0,22,24,0] λa _ _=>JV 27 (λL K g=>∃ (b:Nat),L=[(1,pt (a 0) 0),(2,pt (a 1) 0),(3,pt b 0)]/\K=[⟨(a 0),.cells #[iv k,iv c,iv s,iv n,iv v] 23,.z,false⟩,⟨(a 1),.cells #[iv 0,iv 0,iv 0,iv 0,iv 0] 24,.l,false⟩,⟨b,.cells #[iv (wK k),iv (pick c 4),iv (pick s 6),iv (pick n 4),iv 0] 24,.l,false⟩]/\g=[]) (λJ d=>?_) ?_)
 .refine Iq 2 15 ?_ ?_
  .refine tC 2 (λF C=>AY t 5) λN=>?_;rintro _ _ ⟨rfl,b⟩;refine⟨_,_,rfl,b,id,?_⟩;refine tT 3 (iv (pick k 5/2)) (λ_=>(gG (x:=(.tmp 6)) (y:=(.const (iv 2))) (pick k 5) underlying3 (by omega) (by omega))) (tT 4 (iv (wK k)) (λ_=>(Mz (x:=(.const (iv 1))) (y:=(.tmp 7)) 1 (pick k 5/2) underlying3 (by omega))) (Iq 7 15 ?_ ?_))
   .refine tC1 7 (λF C=>AY r 4) λ_=>Iq 10 15 ?_ ?_
    .refine tC1 10 (λF C=>AY q 6) λ_=>Iq 13 15 ?_ ?_
     .refine tC1 13 (λF C=>AY f 4) λ_=>tR 4 [28,31,1,0,33,2,0] λh _ _=>tD d [true,true,true] ⟨(h 0),rfl,rfl,rfl⟩ (λF=>trivial)
     .refine tR 1 [1,0] λi _ _=>tC1 13 (λF C=>AY f 4) λ_=>tR 3 [28,33,2,0] λu _ _=>tD d [true,true,true] ⟨(i 0),rfl,rfl,rfl⟩ (λF=>trivial)
    .refine tR 1 [1,0] λj _ _=>tC1 10 (λF C=>AY q 6) λ_=>tC1 13 (λF C=>AY f 4) λ_=>tR 3 [28,33,2,0] λA _ _=>tD d [true,true,true] ⟨(j 0),rfl,rfl,rfl⟩ (λF=>trivial)
   .refine tR 1 [1,0] λm _ _=>tC1 7 (λF C=>AY r 4) λ_=>tC1 10 (λF C=>AY q 6) λ_=>tC1 13 (λF C=>AY f 4) λ_=>tR 3 [28,33,2,0] λB _ _=>tD d [true,true,true] ⟨(m 0),rfl,rfl,rfl⟩ (λF=>trivial)
  .refine tR 1 [1,0] λo _ _=>tC1 2 (λF C=>AY t 5) λ_=>tT 3 (iv (pick k 5/2)) (λ_=>(gG (x:=(.tmp 6)) (y:=(.const (iv 2))) (pick k 5) underlying3 (by omega) (by omega))) (tT 4 (iv (wK k)) (λ_=>(Mz (x:=(.const (iv 1))) (y:=(.tmp 7)) 1 (pick k 5/2) underlying3 (by omega))) (tC1 7 (λF C=>AY r 4) λ_=>tC1 10 (λF C=>AY q 6) λ_=>tC1 13 (λF C=>AY f 4) λ_=>tR 3 [28,33,2,0] λD _ _=>tD d [true,true,true] ⟨(o 0),rfl,rfl,rfl⟩ (λF=>trivial)))
 rintro _ _ _ ⟨b,rfl,rfl,rfl⟩ _ _ _;refine tR 7 [2] λE _ _=>?_;by_cases p:wK k=1
 .refine tI (((wK k)==1)) true (by simpa using p) (tR 3 [0] λG _ _=>tC1 2 (λF C=>AY M 1000) λ_=>tR 8 [2,0,2,1,0] λH _ _=>tX λF C=>qE1 2 24 1 (a 1) #[iv (wK k),iv (pick c 4),iv (pick s 6),iv (pick n 4),iv (pick v 1000)] λ_=>⟨by rw[show wV k v=_ from if_pos p],CgQ.af C⟩)
 .refine tI (((wK k)==1)) false (by simpa using p) (tR 6 [2,1,0] λI _ _=>tX λF C=>qE1 2 24 1 (a 1) #[iv (wK k),iv (pick c 4),iv (pick s 6),iv (pick n 4),iv 0] λ_=>⟨by rw[show wV k v=_ from if_neg p],CgQ.af C⟩)
theorem gB(c:x.a=some ⟨b,off,none⟩)(j:Nat)(d:j<x.n):(Instr.indexAt 40 x.v (iv (j:Int))).run prog W=.ok (pt b (off+5*j)) W:=by
 obtain⟨f,h,g⟩:=x;simp only at c d;subst c;exact NK (P:=prog) (e:=58) (z:=5) underlying40 (by kernel_rfl) (by kernel_rfl) d _ rfl
theorem Un{l:List Tol}(h:RdV w x 5 (l.flatMap ER)){i b c:Nat}(n:x.a=some ⟨b,c,none⟩){t:Tol}(e:l[i]?=some t){j:Nat}{u:Value}(m:(ER t)[j]?=some u):w.cell? ⟨b,c+5*i+j,none⟩=some u:=by
 have q:=gN h;have p:=(V'.1 e).1;obtain⟨o,g,d,_,k⟩:=h.spot (i:=i) (by omega);rw[n]at d;cases d
 exact k j u (Pw (f:=ER) (sz:=5) (λ_=>rfl) l e m)
end
end
section
structure Alw where
 ca:Bool
 ld:Bool
 cr:Bool
 st:Bool
structure NInv(A:Alw)(i:Nat)(D:List Int->Prop)(Q:Let->Prop)(P:Nod->Prop):Prop where
 take:A.ca=true->∀ p l,P p->Q l->l.dst=i->p.up=true->P (p.take l)
 one:∀ p c,P p->p.up=true->p.ae[p.done]?=some c->doE p.ln c=0->P (Nod.fv { p with ln:=doS p.ln c,done:=p.done+1 } c)
 ask:∀ p,P p->p.up=true->P (p.ib i).1/\∀ l∈(p.ib i).2,Q l
 prop:∀ p,P p->p.up=true->P p.dc
 sC:∀ p,P p->p.up=true->P p.sC
 run:∀ p q l,P p->p.up=true->p.bw=q::l->¬ p.sy<(p.d.length:Int)->P { p.ic i q with bw:=l }/\∀ m∈p.rk i q,Q m
 rN:∀ p,P p->p.up=true->p.leads=true->P (EN p i 5)/\∀ l∈Dw p i 5,Q l
 lead:A.ld=true->∀ p,P p->p.up=true->P (p.lead i)
 sub:∀ p d ts,P p->D d->p.up=true->P (p.sg i d ts).1
 ie:A.cr=true->∀ p k,P p->0<=k->p.up=true->P (p.ie k)
 start:A.st=true->∀ p,P p->p.up=false->P p.start
theorem OM(p:Nod)(i:Nat)(q:Pend)(x:List Pend):({ p with bw:=x }:Nod).ic i q={ p.ic i q with bw:=x }:=by
 cases q with
 | began b vs=>unfold Nod.ic;simp only;split<;>rfl
 | prop v =>
  unfold Nod.ic Nod.count;simp only;split
  .rfl
  .split<;>rfl
 | _=>rfl
theorem DL(p:Nod)(i:Nat)(q:Pend):(p.ic i q).bw=p.bw/\(p.ic i q).up=p.up/\(p.ic i q).d=p.d/\(p.ic i q).sy=p.sy:=by
 cases q with
 | began b vs=>unfold Nod.ic;simp only;split<;>exact⟨rfl,rfl,rfl,rfl⟩
 | prop v =>
  unfold Nod.ic Nod.count;simp only;split
  .exact⟨rfl,rfl,rfl,rfl⟩
  .split<;>exact⟨rfl,rfl,rfl,rfl⟩
 | _=>exact⟨rfl,rfl,rfl,rfl⟩
theorem MH(p:Nod)(i:Nat)(q:Pend)(x:List Pend):({ p with bw:=x }:Nod).rk i q=p.rk i q:=by cases q<;>rfl
theorem Dt(p:Nod)(c:Cmd):(p.fv c).up=p.up/\(p.fv c).ae=p.ae/\(p.fv c).done=p.done/\(p.fv c).ln=p.ln:=by unfold Nod.fv;split<;>exact⟨rfl,rfl,rfl,rfl⟩
theorem SH(p:Nod)(l:List Cmd):(p.eo l).up=p.up:=by unfold Nod.eo;split<;>rfl
theorem Iy(p:Nod)(i:Nat):(p.ib i).1.up=p.up:=by
 unfold Nod.ib;split
 .rfl
 .split
  .exact SH _ _
  .rfl
theorem fV(p:Nod)(v:Vt):(p.dT v).1.up=p.up:=by
 unfold Nod.dT;split
 .rfl
 .split
  .rfl
  .split<;>rfl
theorem EG(p:Nod):p.dc.up=p.up:=by
 unfold Nod.dc;split
 .rfl
 .split
  .rfl
  .split
   .rfl
   .exact fV p _
theorem jE(p:Nod):p.sC.up=p.up:=by unfold Nod.sC;split<;>rfl
section
variable{A:Alw}{i:Nat}{D:List Int->Prop}{Q:Let->Prop}{P:Nod->Prop}
theorem NInv.sD(h:NInv A i D Q P)(l:List Cmd)(p:Nod)(e:List Tol)(d:P p)(a:p.up=true)(f:p.ae.drop p.done=l):P (sD i l p e).1/\(Go.Proofs.YtngmpodijpelnaaGreatDoor.sD i l p e).1.up=true:=by
 induction l generalizing p e with
 | nil=>exact⟨d,a⟩
 | cons c l ih =>
  rw[Go.Proofs.YtngmpodijpelnaaGreatDoor.sD];split
  .exact⟨d,a⟩
  .rename_i he
   have g:p.ae[p.done]?=some c:=by
    have:=congrArg (·[0]?) f;simpa using this
   have b:=Dt { p with ln:=doS p.ln c,done:=p.done+1 } c;refine ih _ _ (h.one p c d a g (nk.1 he)) (b.1.trans a) ?_;rw[b.2.1,b.2.2.1];show p.ae.drop (p.done+1)=l;rw[<- pS,f];rfl
theorem NInv.ov(h:NInv A i D Q P)(l:List Pend)(p:Nod)(ls:List Let)(b:P { p with bw:=l })(c:p.up=true)(k:p.bw=[])(j:¬ p.sy<(p.d.length:Int))(g:∀ m∈ls,Q m):P (ov i l p ls).1/\(∀ m∈(Go.Proofs.YtngmpodijpelnaaGreatDoor.ov i l p ls).2,Q m)/\(Go.Proofs.YtngmpodijpelnaaGreatDoor.ov i l p ls).1.up=true:=by
 induction l generalizing p ls with
 | nil =>
  refine⟨?_,g,c⟩;have:({ p with bw:=[] }:Nod)=p:=by cases p;simp_all
  rw[this]at b;exact b
 | cons q l ih =>
  have a:=DL p i q;obtain⟨e,f⟩:=h.run { p with bw:=q::l } q l b c rfl j;rw[OM]at e
  rw[MH]at f
  exact ih (p.ic i q) (ls++p.rk i q) e (a.2.1.trans c) (a.1.trans k) (by rw[a.2.2.1,a.2.2.2];exact j) λm n=>(O'.1 n).elim (g m) (f m)
theorem NInv.piece(h:NInv A i D Q P)(p:Nod)(ls:List Let)(ts:List Tol)(y:P p)(z:p.up=true)(x:∀ m∈ls,Q m):P (p.piece i ls ts).1/\∀ m∈(p.piece i ls ts).2.1,Q m:=by
 obtain⟨s,n⟩:=h.sD _ p ts y z rfl;unfold Nod.piece;simp only;obtain⟨t,u⟩:=h.ask _ s n;have o:=(Iy (Go.Proofs.YtngmpodijpelnaaGreatDoor.sD i (p.ae.drop p.done) p ts).1 i).trans n;have f:=h.prop _ t o;have c:=(EG ((Go.Proofs.YtngmpodijpelnaaGreatDoor.sD i (p.ae.drop p.done) p ts).1.ib i).1).trans o;have a:∀ m∈ls++((Go.Proofs.YtngmpodijpelnaaGreatDoor.sD i (p.ae.drop p.done) p ts).1.ib i).2,Q m:=λm g=>(O'.1 g).elim (x m) (u m);generalize ls++((Go.Proofs.YtngmpodijpelnaaGreatDoor.sD i (p.ae.drop p.done) p ts).1.ib i).2=k at a ⊢;generalize ((Go.Proofs.YtngmpodijpelnaaGreatDoor.sD i (p.ae.drop p.done) p ts).1.ib i).1.dc=r at f c ⊢;have b:P (r.ni i k).1/\(∀ m∈(r.ni i k).2,Q m)/\(r.ni i k).1.up=true:=by
  unfold Nod.ni;split
  .exact⟨f,a,c⟩
  .rename_i hn
   have j:=h.sC r f c;have l:r.sC.bw=r.bw:=by unfold Nod.sC;split<;>rfl
   refine h.ov r.bw { r.sC with bw:=[] } k (by rw[<- l];exact j) ((jE r).trans c) rfl ?_ a;show ¬ r.sC.sy<(r.sC.d.length:Int);unfold Nod.sC;split
   .rename_i h1
    have:Df r.d r.sy=0:=nk.1 λe=>hn ⟨h1,e⟩;have q:AV r.d r.sy:=by
     unfold Df at this;split at this
     .assumption
     .cases this
    show ¬ Ip r.d r.sy<((Ht r.d r.sy).length:Int);unfold Ip Ht;rw[if_pos q,if_pos q];exact rV _
   .rename_i h1;exact h1
 unfold Nod.bN;split
 .rename_i hL
  obtain⟨v,w⟩:=h.rN _ b.1 b.2.2 hL;exact⟨v,λm g=>(O'.1 g).elim (b.2.1 m) (w m)⟩
 .exact⟨b.1,b.2.1⟩
end
section
structure GInv(Q:Let->Prop)(P:Nat->Nod->Prop)(M:Meet):Prop where
 ab:∀ i,i<5->P i (M.ab i)
 br:∀ l∈M.br,Q l
variable{A:Alw}{D:Nat->List Int->Prop}{M:Meet}{P:Nat->Nod->Prop}{Q:Let->Prop}{R:List Tol->Prop}{i:Nat}
theorem GInv.set(h:GInv Q P M){i:Nat}{p:Nod}{ls:List Let}{ts:List Tol}(c:P i p)(b:∀ l∈ls,Q l):GInv Q P (M.set i p ls ts) :=
 ⟨λj a=>by
  show P j (upN M.ab i p j);unfold upN;split
  .rename_i e;rw[e];exact c
  .exact h.ab j a,b⟩
theorem GInv.nn(b:∀ i,i<5->NInv A i (D i) Q (P i))(c:A.ca=true){M:Meet}(h:GInv Q P M){l:Let}(d:Q l)(a:l.dst<5):GInv Q P (M.nn l):=by
 unfold Meet.nn;split
 .rename_i hu
  exact h.set (ls:=M.br) (ts:=M.eb) ((b _ a).take c _ l (h.ab _ a) d rfl hu) h.br
 .exact h
theorem GInv.comes(b:∀ i,i<5->NInv A i (D i) Q (P i))(c:A.ca=true)(l:List Let){M:Meet}(h:GInv Q P M)(a:∀ m∈l,Q m/\m.dst<5):GInv Q P (l.foldl (λM l=>M.nn l) M):=by
 induction l generalizing M with
 | nil=>exact h
 | cons x l ih=>exact ih (h.nn b c (a x M').1 (a x M').2) λm d=>a m (I' _ d)
structure Alw.Ok(A:Alw)(x:Lac):Prop where
 ca:x.k=4\/x.k=6\/x.k=7->A.ca=true
 ld:x.k=2->A.ld=true
 cr:x.k=8->A.cr=true
 st:x.k=9->A.st=true
theorem GInv.act(g:∀ i,i<5->NInv A i (D i) Q (P i)){n:Nat}{M:Meet}(h:GInv Q P M)(B:MOk n M){x:Lac}(C:LacOk x)(q:A.Ok x)(F:x.k=1->D x.n.toNat x.d):GInv Q P (M.act x):=by
 have b:∀ {k:Int},x.k=k->Gn k=true->x.n.toNat<5:=λ{k} e E=>by have:=C.n (by rw[e];exact E);omega
 unfold Meet.act;simp only;by_cases r:x.k=1
 .rw[if_pos r];have c:=b r rfl;refine h.set ?_ h.br;unfold Nod.sg;by_cases f:(M.ab x.n.toNat).up=true
  .exact(g _ c).sub _ x.d M.eb (h.ab _ c) (F r) f
  .unfold Nod.sE;rw[if_pos (by simpa using f)];exact h.ab _ c
 .rw[if_neg r];by_cases s:x.k=2
  .rw[if_pos s];have c:=b s rfl;refine h.set ?_ h.br;split
   .rename_i f;exact(g _ c).lead (q.ld s) _ (h.ab _ c) f
   .exact h.ab _ c
  .rw[if_neg s];by_cases u:x.k=3
   .rw[if_pos u];have c:=b u rfl;by_cases f:(M.ab x.n.toNat).up=true
    .have:=(g _ c).piece _ M.br M.eb (h.ab _ c) f h.br;rw[if_pos f,if_pos f,if_pos f];exact h.set this.1 this.2
    .rw[if_neg f,if_neg f,if_neg f];exact h.set (h.ab _ c) h.br
   .rw[if_neg u];by_cases w:x.k=4\/x.k=5\/x.k=6
    .rw[if_pos w];unfold Meet.move;split
     .exact h
     .rename_i l v
      have j:=nD v;have z:GInv Q P (if x.k≠6 then{ M with br:=M.br.eraseIdx (x.a.toNat%M.br.length) }else M):=by
       split
       .exact⟨h.ab,λm j=>h.br m (qj j)⟩
       .exact h
      simp only;split
      .rename_i h5
       exact z.nn g (q.ca (by omega)) (h.br l j) (B.br l j).dst
      .exact z
    .rw[if_neg w];by_cases y:x.k=7
     .rw[if_pos y];unfold Meet.sj;exact GInv.comes g (q.ca (by omega)) _ ⟨h.ab,λl v=>by cases v⟩ λm j=>⟨h.br m j,(B.br m j).dst⟩
     .rw[if_neg y];by_cases o:x.k=8
      .rw[if_pos o];have c:=b o rfl;refine h.set ?_ h.br;split
       .rename_i f;exact(g _ c).ie (q.cr o) _ x.p (h.ab _ c) (C.p (by rw[o];rfl)).1 f
       .exact h.ab _ c
      .rw[if_neg o];by_cases t:x.k=9
       .rw[if_pos t];have c:=b t rfl;refine h.set ?_ h.br;split
        .exact h.ab _ c
        .rename_i f;exact(g _ c).start (q.st t) _ (h.ab _ c) (by simpa using f)
       .rw[if_neg t];exact h
structure TInv(i:Nat)(D:List Int->Prop)(P:Nod->Prop)(R:List Tol->Prop):Prop where
 one:∀ p c ts,P p->p.up=true->p.ae[p.done]?=some c->doE p.ln c=0->(p.cl c).isSome=true->R ts->R (ts++[⟨i,c.c,c.s,doC p.ln c,doA p.ln c⟩])
 sub:∀ p d ts,P p->D d->p.up=true->opE d (p.done:Int)=0->Ee d (p.done:Int)∈p.ae.take p.done->R ts->R (ts++[⟨i,(Ee d (p.done:Int)).c,(Ee d (p.done:Int)).s,doC p.ln (Ee d (p.done:Int)),doA p.ln (Ee d (p.done:Int))⟩])
theorem TInv.sD{D:List Int->Prop}{P:Nod->Prop}(h:NInv A i D Q P)(t:TInv i D P R)(l:List Cmd)(p:Nod)(b:List Tol)(j:P p)(e:p.up=true)(g:p.ae.drop p.done=l)(a:R b):R (sD i l p b).2:=by
 induction l generalizing p b with
 | nil=>exact a
 | cons c l ih =>
  rw[Go.Proofs.YtngmpodijpelnaaGreatDoor.sD];split
  .exact a
  .rename_i he
   have f:p.ae[p.done]?=some c:=by
    have:=congrArg (·[0]?) g;simpa using this
   have d:=Dt { p with ln:=doS p.ln c,done:=p.done+1 } c;refine ih _ _ (h.one p c j e f (nk.1 he)) (d.1.trans e) ?_ ?_
   .rw[d.2.1,d.2.2.1];show p.ae.drop (p.done+1)=l;rw[<- pS,g];rfl
   .split
    .rename_i ha;exact t.one p c b j e f (nk.1 he) ha a
    .exact a
theorem Og(M:Meet)(l:Let):(M.nn l).eb=M.eb:=by unfold Meet.nn;split<;>rfl
theorem Sz(l:List Let)(M:Meet):(l.foldl (λM l=>M.nn l) M).eb=M.eb:=by
 induction l generalizing M with
 | nil=>rfl
 | cons x l ih=>exact(ih _).trans (Og M x)
theorem WB(M:Meet)(k:Int)(a:Nat):(M.move k a).eb=M.eb:=by
 unfold Meet.move;split
 .rfl
 .simp only;split
  .rw[Og];split<;>rfl
  .split<;>rfl
theorem Qi(M:Meet){x:Lac}(a:x.k≠1)(b:x.k≠3):(M.act x).eb=M.eb:=by
 unfold Meet.act;simp only;rw[if_neg a];split
 .rfl
 .split
  .exact WB _ _ _
  .split
   .exact Sz _ _
   .split
    .rfl
    .split<;>rfl
theorem GInv.eb(g:∀ i,i<5->NInv A i (D i) Q (P i))(c:∀ i,i<5->TInv i (D i) (P i) R){M:Meet}(h:GInv Q P M)(a:R M.eb){x:Lac}(e:LacOk x)(f:x.k=1->D x.n.toNat x.d):R (M.act x).eb:=by
 by_cases b:x.k=1
 .have hi:x.n.toNat<5:=by have:=e.n (by rw[b];rfl);omega
  unfold Meet.act;simp only;rw[if_pos b];show R (Nod.sg _ _ _ _).2;unfold Nod.sg Nod.sE;split
  .exact a
  .rename_i hu
   split
   .exact a
   .rename_i he
    split
    .rename_i hm
     exact(c _ hi).sub _ _ _ (h.ab _ hi) (f b) (by simpa using hu) (nk.1 he) hm a
    .exact a
 .by_cases h3:x.k=3
  .have hi:x.n.toNat<5:=by have:=e.n (by rw[h3];rfl);omega
   unfold Meet.act;simp only;rw[if_neg b,if_neg (by omega),if_pos h3];show R (if _ then _ else _);split
   .rename_i hu
    exact TInv.sD (g _ hi) (c _ hi) _ _ _ (h.ab _ hi) hu rfl a
   .exact a
  .rw[Qi M b h3];exact a
theorem GInv.cF(c:∀ i,i<5->NInv A i (D i) Q (P i))(g:∀ i,i<5->TInv i (D i) (P i) R)(L:List Lac){n:Nat}{M:Meet}(b:MOk n M)(j:n+L.length<=1000000)(h:GInv Q P M)(e:R M.eb)(f:∀ x∈L,LacOk x/\A.Ok x/\(x.k=1->D x.n.toNat x.d)):GInv Q P (M.cF L)/\R (M.cF L).eb/\MOk (n+L.length) (M.cF L):=by
 induction L generalizing n M with
 | nil=>exact⟨h,e,b⟩
 | cons x L ih =>
  have a:=f x M';rw[nQ]at j
  have:=ih (b.act (by omega) a.1) (by omega) (h.act c b a.1 a.2.1 a.2.2) (h.eb c g e a.1 a.2.2) λy l=>f y (I' _ l);rw[nQ,show n+(L.length+1)=n+1+L.length by omega];exact this
theorem TInv.all(i:Nat)(D:List Int->Prop)(P:Nod->Prop):TInv i D P λ_=>True:=⟨λ_ _ _ _ _ _ _ _ _=>trivial,λ_ _ _ _ _ _ _ _ _=>trivial⟩
structure Wh where
 d:Nat->List Int->Prop
 ld:Prop
 cr:Prop
 dr:Prop
 tk:Prop
 st:Prop
def Wh.may(D:Wh)(x:Lac):Prop:=(x.k=1->D.d x.n.toNat x.d)/\(x.k=2->D.ld)/\(x.k=8->D.cr)/\(x.k=4\/x.k=5\/x.k=6\/x.k=7->D.dr/\D.tk)/\(x.k=9->D.st)
inductive Stp (D:Wh):Nat->Meet->Meet->Prop
 | take (M:Meet) (l:Let) (hl:l∈M.br) (hd:l.src<5/\l.dst<5) (hu:(M.ab l.dst).up=true) (ht:D.tk):Stp D 0 M (M.set l.dst ((M.ab l.dst).take l) M.br M.eb)
 | br (M:Meet) (ls:List Let) (h:∀ l∈ls,l∈M.br) (hd:D.dr):Stp D 0 M { M with br:=ls }
 | one (M:Meet) (i:Nat) (c:Cmd) (hi:i<5) (hu:(M.ab i).up=true) (hc:(M.ab i).ae[(M.ab i).done]?=some c) (he:doE (M.ab i).ln c=0) :
   Stp D 0 M (M.set i (Nod.fv { M.ab i with ln:=doS (M.ab i).ln c,done:=(M.ab i).done+1 } c) M.br (if((M.ab i).cl c).isSome=true then M.eb++[⟨i,c.c,c.s,doC (M.ab i).ln c,doA (M.ab i).ln c⟩]else M.eb))
 | ask (M:Meet) (i:Nat) (hi:i<5) (hu:(M.ab i).up=true):Stp D 0 M (M.set i ((M.ab i).ib i).1 (M.br++((M.ab i).ib i).2) M.eb)
 | prop (M:Meet) (i:Nat) (hi:i<5) (hu:(M.ab i).up=true):Stp D 1 M (M.set i (M.ab i).dc M.br M.eb)
 | sC (M:Meet) (i:Nat) (hi:i<5) (hu:(M.ab i).up=true) (h:(M.ab i).sy<((M.ab i).d.length:Int)) (hT:AV (M.ab i).d (M.ab i).sy):Stp D 0 M (M.set i { M.ab i with sy:=((M.ab i).d.length:Int) } M.br M.eb)
 | run (M:Meet) (i:Nat) (hi:i<5) (hu:(M.ab i).up=true) (q:Pend) (l:List Pend) (hp:(M.ab i).bw=q::l) (hs:¬ (M.ab i).sy<((M.ab i).d.length:Int)):Stp D 0 M (M.set i { (M.ab i).ic i q with bw:=l } (M.br++(M.ab i).rk i q) M.eb)
 | rN (M:Meet) (i:Nat) (hi:i<5) (hu:(M.ab i).up=true) (hL:(M.ab i).leads=true):Stp D 0 M (M.set i (EN (M.ab i) i 5) (M.br++Dw (M.ab i) i 5) M.eb)
 | lead (M:Meet) (i:Nat) (hi:i<5) (hu:(M.ab i).up=true) (hL:D.ld):Stp D 0 M (M.set i ((M.ab i).lead i) M.br M.eb)
 | sub (M:Meet) (i:Nat) (d:List Int) (hi:i<5) (hu:(M.ab i).up=true) (hD:D.d i d):Stp D 0 M (M.set i ((M.ab i).sg i d M.eb).1 M.br ((M.ab i).sg i d M.eb).2)
 | ie (M:Meet) (i:Nat) (k:Int) (hi:i<5) (hu:(M.ab i).up=true) (hk:0<=k) (hC:D.cr):Stp D 0 M (M.set i ((M.ab i).ie k) M.br M.eb)
 | start (M:Meet) (i:Nat) (hi:i<5) (hu:(M.ab i).up=false) (hs:D.st):Stp D 0 M (M.set i (M.ab i).start M.br M.eb)
inductive Sts (D:Wh):Nat->Meet->Meet->Prop
 | nil (n:Nat) (M:Meet):Sts D n M M
 | snoc {n c m:Nat} {M N K:Meet} (h:Sts D n M N) (s:Stp D c N K) (hm:n+c<=m):Sts D m M K
end
section
variable{D:Wh}
section
variable{K M N:Meet}{i m n:Nat}{α:Type}
theorem Sts.mono(h:Sts D n M N)(a:n<=m):Sts D m M N:=by
 cases h with
 | nil=>exact .nil m M
 | snoc h s hm=>exact .snoc h s (by omega)
theorem Sts.trans(h:Sts D n M N)(k:Sts D m N K):Sts D (n+m) M K:=by
 induction k with
 | nil=>exact h.mono (by omega)
 | snoc _ s hm ih=>exact(ih h).snoc s (by omega)
theorem Sts.s0(h:Sts D n M N)(s:Stp D 0 N K):Sts D n M K:=h.snoc s (A' _)
theorem Stp.s(h:Stp D 0 M N):Sts D n M N:=(Sts.nil n M).s0 h
theorem Sts.inv{I:Meet->Prop}(b:∀ c M N,Stp D c M N->I M->I N){n:Nat}{M N:Meet}(h:Sts D n M N)(a:I M):I N:=by
 induction h with
 | nil=>exact a
 | snoc _ s _ ih=>exact b _ _ _ s (ih a)
theorem Ju(f:Nat->α)(i:Nat):upN f i (f i)=f:=by funext j;unfold upN;split<;>simp_all
theorem Vu(f:Nat->α)(i:Nat)(x y:α):upN (upN f i x) i y=upN f i y:=by funext j;unfold upN;split<;>rfl
theorem Cn(M:Meet)(i:Nat)(p q:Nod)(c a:List Let)(d b:List Tol):(M.set i p c d).set i q a b=M.set i q a b:=by unfold Meet.set;simp only[Vu]
theorem Bg(M:Meet)(i:Nat)(p:Nod)(a:List Let)(b:List Tol):(M.set i p a b).ab i=p:=Dh M.ab i p
theorem Ey(M:Meet)(l:Let):(M.nn l).br=M.br:=by unfold Meet.nn;split<;>rfl
theorem Oh(M:Meet)(l:Let)(a:List Let):({ M with br:=a }:Meet).nn l={ M.nn l with br:=a }:=by
 unfold Meet.nn;show(if(M.ab l.dst).up=true then _ else _)=_;split<;>rfl
theorem Ib(l:List Let)(M:Meet)(a:List Let):l.foldl (λM l=>M.nn l) ({ M with br:=a }:Meet)={ l.foldl (λM l=>M.nn l) M with br:=a }:=by
 induction l generalizing M with
 | nil=>rfl
 | cons x l ih=>rw[sr,Oh,ih];rfl
theorem Sts.nn(c:D.tk){n:Nat}{M N:Meet}(h:Sts D n M N){l:Let}(b:l∈N.br)(a:l.src<5/\l.dst<5):Sts D n M (N.nn l):=by
 unfold Meet.nn;split
 .rename_i hu;exact h.s0 (.take N l b a hu c)
 .exact h
theorem Sts.comes(c:D.tk)(l:List Let){n:Nat}{M N:Meet}(h:Sts D n M N)(a:∀ m∈l,m∈N.br/\m.src<5/\m.dst<5):Sts D n M (l.foldl (λM l=>M.nn l) N):=by
 induction l generalizing N with
 | nil=>exact h
 | cons x l ih=>exact ih (h.nn c (a x M').1 (a x M').2) λm b=>by rw[Ey];exact a m (I' _ b)
theorem Sts.sD(k:i<5)(l:List Cmd)(p:Nod){M:Meet}{d:List Let}{a:List Tol}(h:Sts D n M (M.set i p d a))(b:p.up=true)(g:p.ae.drop p.done=l) :
  Sts D n M (M.set i (sD i l p a).1 d (Go.Proofs.YtngmpodijpelnaaGreatDoor.sD i l p a).2)/\(Go.Proofs.YtngmpodijpelnaaGreatDoor.sD i l p a).1.up=true:=by
 induction l generalizing p a with
 | nil=>exact⟨h,b⟩
 | cons c l ih =>
  rw[Go.Proofs.YtngmpodijpelnaaGreatDoor.sD];split
  .exact⟨h,b⟩
  .rename_i he
   have j:p.ae[p.done]?=some c:=by have:=congrArg (·[0]?) g;simpa using this
   have f:=Dt { p with ln:=doS p.ln c,done:=p.done+1 } c;have e:=Bg M i p d a;have s:=Stp.one (D:=D) (M.set i p d a) i c k (by rw[e];exact b) (by rw[e];exact j) (by rw[e];exact nk.1 he);rw[e,Cn]at s
   refine ih _ (h.s0 s) (f.1.trans b) ?_;rw[f.2.1,f.2.2.1];show p.ae.drop (p.done+1)=l;rw[<- pS,g];rfl
theorem Sts.ov(g:i<5)(l:List Pend)(p:Nod){M:Meet}{ls:List Let}{ts:List Tol}(h:Sts D n M (M.set i { p with bw:=l } ls ts))(b:p.up=true)(f:p.bw=[])(c:¬ p.sy<(p.d.length:Int)) :
  Sts D n M (M.set i (ov i l p ls).1 (Go.Proofs.YtngmpodijpelnaaGreatDoor.ov i l p ls).2 ts)/\(Go.Proofs.YtngmpodijpelnaaGreatDoor.ov i l p ls).1.up=true:=by
 induction l generalizing p ls with
 | nil =>
  have:({ p with bw:=[] }:Nod)=p:=by cases p;simp_all
  rw[this]at h;exact⟨h,b⟩
 | cons q l ih =>
  have a:=DL p i q;have e:=Bg M i { p with bw:=q::l } ls ts;have s:=Stp.run (D:=D) (M.set i { p with bw:=q::l } ls ts) i g (by rw[e];exact b) q l (by rw[e]) (by rw[e];exact c);rw[e,Cn,OM,MH]at s
  exact ih (p.ic i q) (h.s0 s) (a.2.1.trans b) (a.1.trans f) (by rw[a.2.2.1,a.2.2.2];exact c)
theorem Sts.piece(c:i<5)(M:Meet)(x:(M.ab i).up=true):Sts D 1 M (M.set i ((M.ab i).piece i M.br M.eb).1 ((M.ab i).piece i M.br M.eb).2.1 ((M.ab i).piece i M.br M.eb).2.2):=by
 have w:Sts D 0 M (M.set i (M.ab i) M.br M.eb):=by rw[show M.set i (M.ab i) M.br M.eb=M by unfold Meet.set;rw[Ju]];exact .nil 0 M
 obtain⟨q,l⟩:=Sts.sD c _ (M.ab i) w x rfl;unfold Nod.piece;simp only;generalize Go.Proofs.YtngmpodijpelnaaGreatDoor.sD i ((M.ab i).ae.drop (M.ab i).done) (M.ab i) M.eb=a at q l ⊢;have e:=Bg M i a.1 M.br a.2;have s:=Stp.ask (D:=D) (M.set i a.1 M.br a.2) i c (by rw[e];exact l);rw[e,Cn]at s
 have t:=q.s0 s;have n:=(Iy a.1 i).trans l;clear e s q;generalize (a.1.ib i)=b at t n ⊢;have e:=Bg M i b.1 (M.br++b.2) a.2;have s:=Stp.prop (D:=D) (M.set i b.1 (M.br++b.2) a.2) i c (by rw[e];exact n);rw[e,Cn]at s
 have g:=t.snoc s (m:=1) (by omega);have h:=(EG b.1).trans n;clear e s t;change Sts D 1 M (M.set i b.1.dc (M.br++b.2) a.2)at g;generalize b.1.dc=r at g h ⊢;generalize M.br++b.2=k at g ⊢;have j:Sts D 1 M (M.set i (r.ni i k).1 (r.ni i k).2 a.2)/\(r.ni i k).1.up=true:=by
  unfold Nod.ni;split
  .exact⟨g,h⟩
  .rename_i hn
   have e:=Bg M i r k a.2;unfold Nod.sC;split
   .rename_i h1
    have o:Df r.d r.sy=0:=nk.1 λe=>hn ⟨h1,e⟩;have p:AV r.d r.sy:=by
     unfold Df at o;split at o
     .assumption
     .cases o
    have s:=Stp.sC (D:=D) (M.set i r k a.2) i c (by rw[e];exact h) (by rw[e];exact h1) (by rw[e];exact p);rw[e,Cn]at s
    have u:Ht r.d r.sy=r.d:=if_pos p;have v:Ip r.d r.sy=(r.d.length:Int):=if_pos p;rw[u,v];exact Sts.ov c r.bw { r with sy:=(r.d.length:Int),bw:=[] } (g.s0 s) h rfl (rV _)
   .rename_i h1
    exact Sts.ov c r.bw { r with bw:=[] } g h rfl h1
 generalize r.ni i k=f at j ⊢;unfold Nod.bN;split
 .rename_i hL
  have e:=Bg M i f.1 f.2 a.2;have s:=Stp.rN (D:=D) (M.set i f.1 f.2 a.2) i c (by rw[e];exact j.2) (by rw[e];exact hL);rw[e,Cn]at s
  exact j.1.s0 s
 .exact j.1
theorem EZ(M:Meet)(i:Nat):M.set i (M.ab i) M.br M.eb=M:=by unfold Meet.set;rw[Ju]
theorem Pe(g:MOk n M){x:Lac}(v:LacOk x)(j:D.may x):Sts D 1 M (M.act x):=by
 obtain⟨j,y,z,i,A⟩:=j;have b:∀ {k:Int},x.k=k->Gn k=true->x.n.toNat<5:=λ{k} e w=>by have:=v.n (by rw[e];exact w);omega
 unfold Meet.act;simp only;split
 .rename_i h1
  by_cases c:(M.ab x.n.toNat).up=true
  .exact(Stp.sub M _ x.d (b h1 rfl) c (j h1)).s
  .unfold Nod.sg Nod.sE;rw[if_pos (by simpa using c)];rw[EZ];exact .nil 1 M
 .split
  .rename_i hk
   split
   .rename_i c;exact(Stp.lead M _ (b hk rfl) c (y hk)).s
   .rw[EZ];exact .nil 1 M
  .split
   .rename_i h3
    by_cases c:(M.ab x.n.toNat).up=true
    .rw[if_pos c,if_pos c,if_pos c];exact Sts.piece (b h3 rfl) M c
    .rw[if_neg c,if_neg c,if_neg c,EZ];exact .nil 1 M
   .split
    .rename_i hk4
     obtain⟨o,r⟩:=i (by omega);unfold Meet.move;split
     .exact .nil 1 M
     .rename_i l q
      have f:=nD q;have B:=And.intro (g.br l f).src (g.br l f).dst;have u:∀ N:Meet,Sts D 1 M N->N.br=M.br->Sts D 1 M (if x.k≠6 then{ N with br:=M.br.eraseIdx (x.a.toNat%M.br.length) }else N):=λN h e=>by
       split
       .exact h.s0 (.br N _ (λm f=>by rw[e];exact qj f) o)
       .exact h
      simp only;split
      .have:=u (M.nn l) ((Sts.nil 1 M).nn r f B) (Ey M l);by_cases t:x.k≠6
       .rw[if_pos t]at this ⊢;rw[Oh];exact this
       .rw[if_neg t]at this ⊢;exact this
      .exact u M (.nil 1 M) rfl
    .split
     .rename_i hk7
      unfold Meet.sj;rw[Ib];exact(Sts.comes (i (by omega)).2 M.br (.nil 1 M) λm f=>⟨f,(g.br m f).src,(g.br m f).dst⟩).s0 (.br _ [] (λl q=>by cases q) (i (by omega)).1)
     .split
      .rename_i hk
       split
       .rename_i c;exact(Stp.ie M _ x.p (b hk rfl) c (v.p (by rw[hk];rfl)).1 (z hk)).s
       .rw[EZ];exact .nil 1 M
      .split
       .rename_i h9
        split
        .rw[EZ];exact .nil 1 M
        .rename_i c;exact(Stp.start M _ (b h9 rfl) (by simpa using c) (A h9)).s
       .exact .nil 1 M
theorem Cw(L:List Lac){n:Nat}{M:Meet}(b:MOk n M)(d:n+L.length<=1000000)(c:∀ x∈L,LacOk x/\D.may x):Sts D L.length M (M.cF L):=by
 induction L generalizing n M with
 | nil=>exact .nil _ M
 | cons x L ih =>
  have a:=c x M';rw[nQ]at d
  rw[nQ,Nat.add_comm];exact(Pe b a.1 a.2).trans (ih (b.act (by omega) a.1) (by omega) λy e=>c y (I' _ e))
end
end
section
def whT:Wh:=⟨λ_ _=>True,True,True,True,True,True⟩
theorem Gd(x:Lac):whT.may x:=⟨λ_=>trivial,λ_=>trivial,λ_=>trivial,λ_=>⟨trivial,trivial⟩,λ_=>trivial⟩
inductive Rk where
 | pr (b:Bal)
 | vt (v:Vt)
def Rk.body:Rk->List Int
 | .pr b=>Bv b
 | .vt v=>Bl v
def Rk.ap(a:Acc):Rk->Acc
 | .pr b=>⟨b,a.vs⟩
 | .vt v=>⟨v.b,Bp a.vs v⟩
def Rk.err(a:Acc):Rk->Int
 | .pr b=>Cp a b
 | .vt v=>Bb a v
def Rk.ok(a:Acc):Rk->Prop
 | .pr b=>Cp a b=0/\a.p≠b
 | .vt v=>Bb a v=0/\v∉a.vs
variable{a:Acc}{b:Bal}{dr qs rs:List Rk}{i j n:Nat}{l:List Cmd}{p:Nod}{r:Rk}{v:Vt}{vs:List Vt}
theorem Rk.ok.err(h:Rk.ok a r):Rk.err a r=0:=by cases r<;>exact h.1
def B1(rs:List Rk):Acc:=rs.foldl Rk.ap a0
theorem BV(a:List Rk)(r:Rk):B1 (a++[r])=Rk.ap (B1 a) r:=by unfold B1;rw[p8];rfl
def AU(rs:List Rk):Prop:=∀ i r,rs[i]?=some r->Rk.ok (B1 (rs.take i)) r
theorem AU.nil:AU []:=λi r h=>by simp at h
theorem AU.left(h:AU (rs++qs)):AU rs:=λi r e=>by
 have a:=(V'.1 e).1;have:=h i r (by rw[ny a];exact e)
 rwa [nG (by omega)]at this
theorem AU.pre(h:AU qs)(a:rs <+: qs):AU rs:=by obtain⟨x,rfl⟩:=a;exact h.left
theorem AU.snoc(h:AU rs)(a:Rk.ok (B1 rs) r):AU (rs++[r]):=λi q e=>by
 rcases oc i rs.length with hi|hi
 .rw[ny hi]at e
  rw[nG (by omega)];exact h i q e
 .have:=(V'.1 e).1;rw[E',nH]at this
  obtain rfl:i=rs.length:=by omega
  rw[nC (A' _)]at e
  simp at e;subst e;rw[nG (A' _),oG];exact a
theorem AU.last(h:AU (rs++[r])):Rk.ok (B1 rs) r:=by
 have:=h rs.length r (by simp)
 rwa [nG (A' _),oG]at this
theorem AU.ind{P:List Rk->Prop}(b:P [])(c:∀ a r,AU a->Rk.ok (B1 a) r->P a->P (a++[r])){a:List Rk}(h:AU a):P a:=by
 have:∀ k,k<=a.length->P (a.take k):=by
  intro k;induction k with
  | zero=>intro _;exact b
  | succ k ih =>
   intro d;have e:a.take (k+1)=a.take k++[a[k]]:=by rw[nE (by omega)]
   rw[e];exact c _ _ (h.pre (pB _ _)) (h k _ (G' (by omega))) (ih (by omega))
 have:=this a.length (A' _)
 rwa [oG]at this
theorem Ah.uV(h:Ah a)(c:Ac b)(i:¬ b.lt a.p):Ah ⟨b,a.vs⟩:=by
 refine⟨.inl c,λv d=>⟨(h.2.1 v d).1,λg=>?_⟩,h.2.2⟩;have e:=(h.2.1 v d).1.2.1;have f:=(h.2.1 v d).2;rw[Ff c.pr e.pr]at g
 rw[Ff h.1 e.pr]at f
 rw[Ff c.pr h.1]at i
 omega
theorem Ah.uv(h:Ah a)(d:Ai v)(e:¬ v.b.lt a.p):Ah ⟨v.b,Bp a.vs v⟩:=by
 refine⟨.inl d.2.1,λu c=>?_,JD v h.2.2⟩;rcases(BB h.2.2).1 c with rfl|⟨c,_⟩
 .refine⟨d,λg=>?_⟩;change u.b.lt u.b at g;unfold Bal.lt at g;omega
 .exact(h.uV d.2.1 e).2.1 u c
theorem KZ:Ah a0:=⟨.inr ⟨rfl,rfl⟩,λv a=>(Q' a).elim,trivial⟩
theorem Rk.may(h:Ah a){r:Rk}(c:Rk.err a r=0):Ah (Rk.ap a r):=by
 cases r with
 | pr b=>have:=Cq c;exact h.uV this.2.1 this.2.2
 | vt v=>have:=Aq c;exact h.uv this.2.1 this.2.2
theorem AU.acc(h:AU rs):Ah (B1 rs):=h.ind (P:=λrs=>Ah (B1 rs)) KZ λrs r _ a b=>by rw[BV];exact Rk.may b a.err
theorem Bq{a:Bal}(c:Ap a)(d:Ap b)(h:¬ a.lt b):b.key<=a.key:=by rw[Ff c d]at h;omega
theorem Rk.tH(h:Ah a){r:Rk}(c:Rk.err a r=0):a.p.key<=(Rk.ap a r).p.key:=by
 cases r with
 | pr b=>have:=Cq c;exact Bq this.2.1.pr h.1 this.2.2
 | vt v=>have:=Aq c;exact Bq this.2.1.2.1.pr h.1 this.2.2
theorem Jf(h:AU rs):∀ v∈(B1 rs).vs,Rk.vt v∈rs:=h.ind (P:=λrs=>∀ v∈(B1 rs).vs,Rk.vt v∈rs) (λv a=>by cases a) λrs r d e c v a=>by
 rw[BV]at a
 cases r with
 | pr b=>exact nh _ (c v a)
 | vt u =>
  rcases(BB d.acc.2.2).1 a with rfl|⟨a,_⟩
  .exact nc _ M'
  .exact nh _ (c v a)
theorem Ah.le(h:Ah a){v:Vt}(c:v∈a.vs):v.b.key<=a.p.key:=Bq h.1 (h.2.1 v c).1.2.1.pr (h.2.1 v c).2
theorem Mb(h:Ah a){v:Vt}(f:Bb a v=0){u:Vt}(c:u∈a.vs):∃ x∈Bp a.vs v,x.bu=u.bu/\u.b.key<=x.b.key:=by
 have d:=Aq f;by_cases e:u.bu=v.bu
 .exact⟨v,(BB h.2.2).2 (.inl rfl),e.symm,nI (h.le c) (Bq d.2.1.2.1.pr h.1 d.2.2)⟩
 .exact⟨u,(BB h.2.2).2 (.inr ⟨c,e⟩),rfl,nf _⟩
theorem R4(h:AU rs):∀ v,Rk.vt v∈rs->v.b.key<=(B1 rs).p.key/\∃ u∈(B1 rs).vs,u.bu=v.bu/\v.b.key<=u.b.key:=h.ind (P:=λrs=>∀ v,Rk.vt v∈rs->v.b.key<=(B1 rs).p.key/\∃ u∈(B1 rs).vs,u.bu=v.bu/\v.b.key<=u.b.key) (λv hv=>by cases hv) λrs r c a e v hv=>by
 have d:=Rk.tH c.acc a.err;rw[BV];rcases O'.1 hv with hv|hv
 .obtain⟨h1,u,h2,h3,h4⟩:=e v hv;refine⟨nI h1 d,?_⟩;cases r with
  | pr b=>exact⟨u,h2,h3,h4⟩
  | vt w =>
   obtain⟨x,f,g,i⟩:=Mb c.acc a.err h2;exact⟨x,f,g.trans h3,nI h4 i⟩
 .rw[<- D'.1 hv]at a ⊢
  exact⟨nf _,v,(BB c.acc.2.2).2 (.inl rfl),rfl,nf _⟩
theorem DK(h:AU (rs++qs)):(B1 rs).p.key<=(B1 (rs++qs)).p.key/\∀ v,Rk.vt v∈qs->(B1 rs).p.key<=v.b.key:=by
 have:∀ k,k<=qs.length->(B1 rs).p.key<=(B1 (rs++qs.take k)).p.key/\∀ v,Rk.vt v∈qs.take k->(B1 rs).p.key<=v.b.key:=by
  intro k;induction k with
  | zero=>intro _;rw[oP,nA];exact⟨nf _,λv hv=>by cases hv⟩
  | succ k ih =>
   intro i;obtain⟨c,g⟩:=ih (by omega);have e:qs.take (k+1)=qs.take k++[qs[k]]:=by rw[nE (by omega)]
   have a:AU (rs++qs.take k++[qs[k]]):=h.pre (by rw[nm,<- e];exact List.prefix_append_right_inj rs |>.2 (pB _ _));have d:=Rk.tH a.left.acc a.last.err;rw[<- BV]at d
   rw[e,<- nm];refine⟨nI c d,λv hv=>?_⟩;rcases O'.1 hv with hv|hv
   .exact g v hv
   .have hl:=a.last;rw[<- D'.1 hv]at hl
    have f:=Aq hl.err;exact nI c (Bq f.2.1.2.1.pr a.left.acc.1 f.2.2)
 have:=this qs.length (A' _)
 rwa [oG]at this
def fl(rs:List Rk):List Int:=AH (rs.map Rk.body)
theorem d8(a:List Rk)(r:Rk):fl (a++[r])=fl a++AP r.body:=by unfold fl;rw[nL,CG];simp[AH]
theorem SM(b a:List Rk):fl (b++a)=fl b++fl a:=by unfold fl;rw[nL,CG]
theorem YC(h:rs <+: qs):(fl rs).length<=(fl qs).length:=by obtain⟨x,rfl⟩:=h;rw[SM,E'];omega
theorem kz(h:rs <+: qs)(a:(fl qs).length<=(fl rs).length):rs=qs:=by
 obtain⟨x,rfl⟩:=h;rw[SM,E']at a
 have:=QE (x.map Rk.body);rw[nK]at this
 unfold fl at a;obtain rfl:x=[]:=Y' (by omega);rw[nA]
theorem AU.uX(h:AU rs):Chn ((List.range (rs.length+1)).map λj=>B1 (rs.take j)) (rs.map Rk.body):=by
 refine⟨by simp,by simp[B1],λi b a c g f l=>?_⟩;simp only[n7,oY]at g f l;obtain⟨r,e,rfl⟩:=g;obtain⟨j,n,rfl⟩:=f;obtain⟨k,o,rfl⟩:=l;have m:=(V'.1 e).1;rw[po (by omega)]at n o
 cases n;cases o;have d:=(h i r e).err;have p:rs[i]=r:=by rw[G' m]at e;exact nX e
 rw[nE m,BV,p];generalize B1 (rs.take i)=a at d ⊢;cases r with
 | pr b=>show DW a (Bv b)=_;rw[Yz a (Cq d).2.1];exact if_pos d
 | vt v=>show DW a (Bl v)=_;rw[Y0 a (Aq d).2.1];exact if_pos d
structure TpU(p:Nod)(dr rs:List Rk):Prop where
 ok:AU rs
 pre:dr <+: rs
 d:p.d=fl rs
 sy:p.sy=((fl dr).length:Int)
 vo:p.vo=B1 rs
 len:p.d.length<=100000
structure TpD(p:Nod)(dr:List Rk):Prop where
 ok:AU dr
 tZ:Ex p.d=((fl dr).length,B1 dr)
 tk:p.d.take (fl dr).length=fl dr
 sy:p.sy=(p.d.length:Int)
 len:p.d.length<=100000
theorem TpU.td(h:TpU p dr rs):AV p.d p.sy:=by
 have:=YC h.pre;have:=h.d;refine⟨h.len,by rw[h.sy];omega,?_⟩;rw[h.sy,h.d];omega
theorem TpU.zero:TpU Cz [] []:=⟨AU.nil,ng _,rfl,rfl,rfl,by decide⟩
theorem TpU.all(h:TpU p dr rs)(a:¬ p.sy<(p.d.length:Int)):dr=rs:=kz h.pre (by rw[h.sy,h.d]at a;omega)
theorem TpU.ie(h:TpU p dr rs){k:Int}(u:0<=k):∃ dr',dr <+: dr'/\dr' <+: rs/\TpD (p.ie k) dr':=by
 have o:=h.td;have b:Gw p.d p.sy k=0:=by unfold Gw;rw[if_neg (λe=>e o),if_neg (by omega)]
 have f:=o;unfold AV at f;have t:p.sy<=Gx p.d p.sy k/\Gx p.d p.sy k<=(p.d.length:Int):=by unfold Gx;split<;>omega
 obtain⟨j,a,r,l,m,n,h5⟩:=h.ok.uX.uQ (Gx p.d p.sy k).toNat;rw[nK]at r h5
 rw[n7,po (by omega)]at l
 obtain rfl:B1 (rs.take j)=a:=by simpa using l
 have i:AH ((rs.map Rk.body).take j)=fl (rs.take j):=by unfold fl;rw[rx]
 rw[i]at m n
 have c:(p.ie k).d=(fl rs).take (Gx p.d p.sy k).toNat:=by
  unfold Nod.ie;rw[if_neg (λe=>e b)];show KG p.d p.sy k=_;unfold KG;rw[if_pos b,h.d]
 have s:(p.ie k).sy=Gx p.d p.sy k:=by
  unfold Nod.ie;rw[if_neg (λe=>e b)];show KH p.d p.sy k=_;unfold KH;rw[if_pos b]
 have q:((fl rs).take (Gx p.d p.sy k).toNat).length=(Gx p.d p.sy k).toNat:=by rw[j',<- h.d];omega
 refine⟨rs.take j,?_,pB _ _,h.ok.pre (pB _ _),by rw[c];exact m,?_,?_,?_⟩
 .obtain⟨x,hx⟩:=h.pre;rcases oc j dr.length with g|g
  .exfalso;rcases h5 with h5|h5
   .rw[<- hx,E']at h5;omega
   .have hp:rs.take (j+1) <+: dr:=by rw[<- hx,nG (by omega)];exact pB _ _
    have:=YC hp;rw[show AH ((rs.map Rk.body).take (j+1))=fl (rs.take (j+1))by unfold fl;rw[rx]]at h5
    have:=h.sy;omega
  .rw[<- hx,List.take_append];rw[nw g];exact oO _ _
 .rw[c,pT,oJ n];have e:fl rs=fl (rs.take j)++fl (rs.drop j):=by rw[<- SM,oK]
  rw[show(fl rs).take (fl (rs.take j)).length=(fl (rs.take j)++fl (rs.drop j)).take (fl (rs.take j)).length by rw[<- e],nG (A' _),oG]
 .rw[s,c,q];omega
 .rw[c,q];have:=h.len;omega
theorem TpD.start(h:TpD p dr):TpU p.start dr dr:=by
 have c:AV p.d p.sy:=⟨h.len,by rw[h.sy];omega,by rw[h.sy];omega⟩;have g:Df p.d p.sy=0:=if_pos c;have i:NL p.d p.sy=((fl dr).length:Int):=by unfold NL;rw[if_pos c,h.tZ]
 have j:GD p.d p.sy=B1 dr:=by unfold GD;rw[if_pos c,h.tZ]
 have a:=Vf p.d;rw[h.tZ]at a
 have a:(fl dr).length<=p.d.length:=a;have f:=h.len;unfold Nod.start;rw[if_neg (λe=>e g),i,j];split
 .rename_i hlt
  have b:JN p.d p.sy=fl dr:=by unfold JN;rw[if_pos c,h.tZ];exact h.tk
  have k:MC p.d p.sy=((fl dr).length:Int):=by unfold MC;rw[if_pos c,h.tZ];exact if_pos (by rw[h.sy];exact hlt)
  exact⟨h.ok,ng _,b,k,rfl,by show(JN p.d p.sy).length<=_;rw[b];omega⟩
 .rename_i hge
  have b:p.d=fl dr:=by have:=h.tk;rwa [nw (by omega)]at this
  exact⟨h.ok,ng _,b,by show p.sy=_;rw[h.sy,<- b],rfl,f⟩
theorem TpU.sC(h:TpU p dr rs):TpU { p with sy:=(p.d.length:Int) } rs rs:=⟨h.ok,ng _,h.d,by show(p.d.length:Int)=_;rw[h.d],h.vo,h.len⟩
def Nod.tv(p:Nod)(d:List Int)(s:Int)(a:Acc):Nod:={ p with d:=d,sy:=s,vo:=a }
theorem TpU.write(h:TpU p dr rs){r:Rk}(a:Rk.ok p.vo r)(b:p.d.length+(r.body.length+5)<=100000):TpU (p.tv (p.d++AP r.body) p.sy (Rk.ap p.vo r)) dr (rs++[r]):=by
 rw[h.vo]at a
 refine⟨h.ok.snoc a,h.pre.trans (oO _ _),?_,h.sy,?_,?_⟩
 .show p.d++_=_;rw[h.d,d8]
 .show Rk.ap p.vo r=_;rw[h.vo,BV]
 .show(p.d++AP r.body).length<=_;rw[E',Bj];omega
theorem TpU.av(h:TpU p dr rs)(b:Bal):((p.av b).2.2≠0/\(p.av b).1=p) \/
  ((p.av b).2.2=0/\Cp p.vo b=0/\(p.av b).2.1=p.vo.vs/\∃ rs',rs <+: rs'/\TpU (p.av b).1 dr rs'/\(∀ v,Rk.vt v∈rs'↔Rk.vt v∈rs)/\(B1 rs').p=b/\(B1 rs').vs=p.vo.vs/\∃ d a,(p.av b).1=p.tv d p.sy a):=by
 unfold Nod.av;split
 .rename_i c;exact .inl ⟨c,rfl⟩
 .rename_i c
  have c:=nk.1 c;split
  .rename_i h2
   refine .inr ⟨rfl,c,rfl,rs,ng _,?_,λ_=>Iff.rfl,?_,?_,p.d,p.vo,?_⟩
   .rw[h2];exact h
   .rw[<- h.vo];exact h2.symm
   .rw[<- h.vo]
   .rw[h2];rfl
  .rename_i h2
   split
   .rename_i f;exact .inl ⟨f,rfl⟩
   .rename_i f
    have f:=nk.1 f;have j:=Kf f;have g:Ge p.d p.sy (Ac b) (Bv b)=p.d++AP (Bv b):=if_pos f;have i:GX p.d p.sy (Ac b) (Bv b)=p.sy:=if_pos f;rw[g,i];refine .inr ⟨rfl,c,rfl,rs++[Rk.pr b],oO _ _,(h.write (r:=.pr b) ⟨c,λe=>h2 e.symm⟩ j.2.1),λv=>by simp,?_,?_,_,_,rfl⟩
    .rw[BV];rfl
    .rw[BV,h.vo];rfl
theorem Wm{l:List Vt}(h:BO l){v:Vt}(hv:v∈l):Bp l v=l:=by
 induction l with
 | nil=>cases hv
 | cons u us ih =>
  rw[Bp];rcases nr.1 hv with rfl|hv
  .rw[if_neg (rV _),if_pos rfl]
  .rw[if_pos (h.1 v hv),ih h.2 hv]
theorem TpU.dT(h:TpU p dr rs)(v:Vt):((p.dT v).2≠0/\(p.dT v).1=p) \/
  ((p.dT v).2=0/\Bb p.vo v=0/\∃ rs',rs <+: rs'/\TpU (p.dT v).1 dr rs'/\(∀ u,Rk.vt u∈rs'↔u=v\/Rk.vt u∈rs)/\(B1 rs').p=v.b/\∃ d a,(p.dT v).1=p.tv d p.sy a):=by
 unfold Nod.dT;split
 .rename_i c;exact .inl ⟨c,rfl⟩
 .rename_i c
  have c:=nk.1 c;have i:=Aq c;split
  .rename_i h2
   have m:=i.1.le h2;have l:=Bq i.2.1.2.1.pr i.1.1 i.2.2;have e:v.b=p.vo.p:=DQ i.2.1.2.1.pr i.1.1 (by omega);have j:(⟨v.b,Bp p.vo.vs v⟩:Acc)=p.vo:=by rw[Wm i.1.2.2 h2,e]
   rw[j];refine .inr ⟨rfl,c,rs,ng _,h,λu=>⟨.inr,λhu=>?_⟩,by rw[<- h.vo];exact e.symm,p.d,p.vo,rfl⟩;rcases hu with rfl|hu
   .exact Jf h.ok u (by rw[<- h.vo];exact h2)
   .exact hu
  .rename_i h2
   split
   .rename_i f;exact .inl ⟨f,rfl⟩
   .rename_i f
    have f:=nk.1 f;have n:=Kf f;have k:Ge p.d p.sy (Ai v) (Bl v)=p.d++AP (Bl v):=if_pos f;have j:GX p.d p.sy (Ai v) (Bl v)=p.sy:=if_pos f;rw[k,j];refine .inr ⟨rfl,c,rs++[Rk.vt v],oO _ _,h.write (r:=.vt v) ⟨c,h2⟩ n.2.1,λu=>?_,by rw[BV];rfl,_,_,rfl⟩;rw[O',D'];exact⟨λg=>g.elim .inr λe=>.inl (Rk.vt.inj e),λg=>g.elim (λe=>.inr (by rw[e])) .inl⟩
structure Gs where
 dr:Nat->List Rk
 W:Bal->Nat->Cmd->Prop
def Gs.held(σ:Gs)(n:Nat)(v:Vt):Prop:=Rk.vt v∈σ.dr n
def Gs.H(σ:Gs)(n s:Nat)(b:Int)(c:Cmd):Prop:=∃ v,σ.held n v/\v.bu=(s:Int)/\v.b.key=b/\v.w=c
def Gs.P(σ:Gs)(n:Nat):Int:=(B1 (σ.dr n)).p.key
def Gs.sN(σ:Gs)(v:Vt):Prop:=Ai v/\σ.W v.b v.bu.toNat v.w
def Gs.tM(σ:Gs)(s:Nat)(c:Cmd):Prop:=∃ b,Ch σ.H s b c
structure GsI(σ:Gs):Prop where
 ok:∀ n,AU (σ.dr n)
 tj:PInv σ.H σ.P
 w1:∀ b s c c',σ.W b s c->σ.W b s c'->c=c'
 w2:∀ b s c,σ.W b s c->Ac b/\E5 σ.H σ.P s b.key c
 w3:∀ b s c,σ.W b s c->b.key<=σ.P b.n.toNat
 hv:∀ n v,σ.held n v->σ.sN v
structure Gs.le(σ τ:Gs):Prop where
 pre:∀ n,σ.dr n <+: τ.dr n
 W:∀ b s c,σ.W b s c->τ.W b s c
theorem Gs.le.refl(σ:Gs):σ.le σ:=⟨λ_=>ng _,λ_ _ _ h=>h⟩
variable{σ τ:Gs}
theorem Gs.le.trans{υ:Gs}(h:σ.le τ)(k:τ.le υ):σ.le υ:=⟨λn=>(h.pre n).trans (k.pre n),λb s c g=>k.W b s c (h.W b s c g)⟩
theorem Gs.le.held(h:σ.le τ){n:Nat}{v:Vt}(g:σ.held n v):τ.held n v:=(h.pre n).subset g
theorem Gs.le.H(h:σ.le τ){n s:Nat}{b:Int}{c:Cmd}(g:σ.H n s b c):τ.H n s b c:=by obtain⟨v,a,d⟩:=g;exact⟨v,h.held a,d⟩
theorem Gs.le.sN(h:σ.le τ){v:Vt}(g:σ.sN v):τ.sN v:=⟨g.1,h.W _ _ _ g.2⟩
theorem Gs.le.tM(h:σ.le τ){s:Nat}{c:Cmd}(g:σ.tM s c):τ.tM s c:=by obtain⟨b,Q,a,d⟩:=g;exact⟨b,Q,a,λq f e=>h.H (d q f e)⟩
theorem Gs.le.P(h:σ.le τ)(a:GsI τ)(n:Nat):σ.P n<=τ.P n:=by
 obtain⟨x,b⟩:=h.pre n;have:=a.ok n;unfold Gs.P;rw[<- b]at this ⊢
 exact(DK this).1
structure Gs.ua(i:Nat)(σ τ:Gs):Prop where
 le:σ.le τ
 new:∀ b s c,τ.W b s c->σ.W b s c\/b.n=(i:Int)
 u0:∀ n,n≠i->τ.dr n=σ.dr n
theorem Gs.ua.refl(i:Nat)(σ:Gs):Gs.ua i σ σ:=⟨.refl σ,λ_ _ _ h=>.inl h,λ_ _=>rfl⟩
def Gs.ext(σ:Gs)(i:Nat)(qs:List Rk):Gs:=⟨upN σ.dr i (σ.dr i++qs),σ.W⟩
theorem Ie(σ:Gs)(i:Nat)(a:List Rk):(σ.ext i a).dr i=σ.dr i++a:=Dh _ _ _
theorem LM(σ:Gs){i n:Nat}(a:List Rk)(h:n≠i):(σ.ext i a).dr n=σ.dr n:=D5 _ _ h
theorem Pv(σ:Gs)(i:Nat)(a:List Rk):Gs.ua i σ (σ.ext i a):=⟨⟨λn=>by
 by_cases e:n=i
 .subst e;rw[Ie];exact oO _ _
 .rw[LM σ a e];exact ng _,λ_ _ _ h=>h⟩,λ_ _ _ h=>.inl h,λn h=>LM σ a h⟩
theorem QB(σ:Gs)(i:Nat)(r:Rk):(σ.ext i [r]).P=upP σ.P i (Rk.ap (B1 (σ.dr i)) r).p.key:=by
 funext n
 unfold Gs.P upP;split
 .rename_i e;subst e;rw[Ie,BV]
 .rename_i e;rw[LM σ _ e]
theorem IB:(σ.ext i qs).held n v↔σ.held n v\/(n=i/\Rk.vt v∈qs):=by
 unfold Gs.held;by_cases e:n=i
 .subst e;rw[Ie,O'];simp
 .rw[LM σ qs e];simp[e]
theorem GsI.uP(h:GsI σ){i:Nat}{r:Rk}(D:Rk.ok (B1 (σ.dr i)) r)(F:∀ v,r=.vt v->σ.sN v):GsI (σ.ext i [r]):=by
 have l:=(h.ok i).acc;have t:=Rk.tH l D.err;have f:=(Pv σ i [r]).le;have q:∀ n,AU ((σ.ext i [r]).dr n):=λn=>by
  by_cases e:n=i
  .subst e;rw[Ie];exact(h.ok n).snoc D
  .rw[LM σ _ e];exact h.ok n
 have d:σ.P i<=(Rk.ap (B1 (σ.dr i)) r).p.key:=t;have B:∀ n,σ.P n<=(σ.ext i [r]).P n:=λn=>by rw[QB];exact Nh d n
 have o:∀ n v,(σ.ext i [r]).held n v->(σ.ext i [r]).sN v:=λn v g=>by
  rcases IB.1 g with g|⟨_,g⟩
  .exact f.sN (h.hv n v g)
  .exact f.sN (F v (D'.1 g).symm)
 cases r with
 | pr b =>
  have j:(σ.ext i [.pr b]).H=σ.H:=by
   funext n s a c
   exact propext ⟨λ⟨v,g,k⟩=>⟨v,(IB.1 g).resolve_right λe=>by simp at e,k⟩,λ⟨v,g,k⟩=>⟨v,f.held g,k⟩⟩
  refine⟨q,?_,h.w1,λa s c g=>⟨(h.w2 a s c g).1,?_⟩,λa s c g=>nI (h.w3 a s c g) (B _),o⟩
  .rw[j,QB];exact h.tj.av d
  .rw[j,QB];exact(h.w2 a s c g).2.up d
 | vt v =>
  obtain⟨z,C⟩:=F v rfl;have I:v.bu=(v.bu.toNat:Int):=by have:=z.1;omega
  have j:(σ.ext i [.vt v]).H=gY σ.H i v.bu.toNat v.b.key v.w:=by
   funext n s a c
   refine propext ⟨λ⟨u,g,G,x,y⟩=>?_,λg=>?_⟩
   .rcases IB.1 g with g|⟨g1,g2⟩
    .exact .inl ⟨u,g,G,x,y⟩
    .have e:u=v:=Rk.vt.inj (D'.1 g2);subst e;exact .inr ⟨g1,by omega,x.symm,y.symm⟩
   .rcases g with⟨u,g,k⟩|⟨rfl,rfl,rfl,rfl⟩
    .exact⟨u,f.held g,k⟩
    .exact⟨v,IB.2 (.inr ⟨rfl,D'.2 rfl⟩),I,rfl,rfl⟩
  refine⟨q,?_,h.w1,λa s c g=>⟨(h.w2 a s c g).1,?_⟩,λa s c g=>nI (h.w3 a s c g) (B _),o⟩
  .rw[j,QB];refine h.tj.dT d (by have:=z.2.1.pos;show 0<v.b.key;omega) (h.w2 _ _ _ C).2 λm J ⟨u,g,G,x,y⟩=>?_;have E:=h.hv m u g;have e:u.b=v.b:=DQ E.1.2.1.pr z.2.1.pr x;have A:=E.2;rw[e,show u.bu.toNat=v.bu.toNat by omega,y]at A
   exact h.w1 _ _ _ _ A C
  .rw[j,QB];exact(h.w2 a s c g).2.dT d
theorem dq(σ:Gs)(i:Nat)(r:Rk)(a:List Rk):(σ.ext i [r]).ext i a=σ.ext i (r::a):=by unfold Gs.ext;simp only[Dh,Vu,nm,List.singleton_append]
theorem GsI.ext(h:GsI σ){i:Nat}(a:List Rk)(b:AU (σ.dr i++a))(c:∀ v,Rk.vt v∈a->σ.sN v):GsI (σ.ext i a):=by
 induction a generalizing σ with
 | nil =>
  have:σ.ext i []=σ:=by unfold Gs.ext;rw[nA,Ju]
  rw[this];exact h
 | cons r a ih =>
  rw[<- dq];have d:AU (σ.dr i++[r]):=b.pre ⟨a,by simp⟩;refine ih (h.uP d.last λv e=>c v (by rw[e];exact M')) ?_ λv g=>(Pv σ i [r]).le.sN (c v (I' _ g));rw[Ie,nm];exact b
structure PrmOk(dr:List Rk)(b:Bal)(vs:List Vt):Prop where
 le:b.key<=(B1 dr).p.key
 sub:∀ v∈vs,Rk.vt v∈dr/\v.b.key<=b.key
 uT:∀ v,Rk.vt v∈dr->v.b.key<b.key->∃ u∈vs,u.bu=v.bu/\v.b.key<=u.b.key
 acc:Ah ⟨b,vs⟩
theorem PrmOk.mono(h:PrmOk dr b vs)(e:dr <+: rs)(d:AU rs):PrmOk rs b vs:=by
 obtain⟨x,rfl⟩:=e;have c:=DK d;refine⟨nI h.le c.1,λv hv=>⟨nh _ (h.sub v hv).1,(h.sub v hv).2⟩,λv hv a=>?_,h.acc⟩;rcases O'.1 hv with hv|hv
 .exact h.uT v hv a
 .have:=c.2 v hv;have:=h.le;omega
theorem PrmOk.of(c:AU rs){b:Bal}{d:List Vt}(e:(B1 rs).p=b)(a:(B1 rs).vs=d):PrmOk rs b d:=by
 subst e a;exact⟨nf _,λv a=>⟨Jf c v a,c.acc.le a⟩,λv a _=>(R4 c v a).2,c.acc⟩
structure RdI(σ:Gs)(i:Nat)(r:Rnd):Prop where
 hZ:r.hZ=Bf\/(Ac r.hZ/\r.hZ.n=(i:Int))
 next:∀ s c,σ.W r.hZ s c->s<r.next
 own:∀ j,j<5->r.qk j=true->r.hZ.key<=σ.P i
 an:∀ j,j<5->∀ v∈(r.an j).vs,σ.held j v/\v.b.key<=r.hZ.key/\(r.qk j=false->v.b=r.hZ)
 prom:∀ j,j<5->r.qk j=true->r.hZ.key<=σ.P j/\∀ v,σ.held j v->v.b.key<r.hZ.key->∃ u∈(r.an j).vs,u.bu=v.bu/\v.b.key<=u.b.key
 acc:∀ j,j<5->Ah (r.an j)/\(r.qk j=true->(r.an j).p=r.hZ)
def PnI(σ:Gs)(rs:List Rk)(r:Rnd):Pend->Prop
 | .began b vs=>PrmOk rs b vs/\b.key<=r.hZ.key
 | .prom _ b vs=>PrmOk rs b vs/\b.key<=σ.P b.n.toNat
 | .voted _ v=>Rk.vt v∈rs
 | .prop v=>Rk.vt v∈rs
 | .fa _ b=>Ap b/\b.key<=(B1 rs).p.key
 | _=>True
structure UpI(σ:Gs)(i:Nat)(p:Nod)(rs:List Rk):Prop where
 tp:TpU p (σ.dr i) rs
 sN:∀ v,Rk.vt v∈rs->σ.sN v
 rd:RdI σ i p.bn
 bp:p.bn.hZ.key<=p.vo.p.key
 pe:∀ q∈p.bw,PnI σ rs p.bn q
def AgL(σ:Gs)(l:List Cmd)(k:Nat):Prop:=∀ s c,l[s]?=some c->σ.tM (k+s) c
structure NdI(σ:Gs)(i:Nat)(p:Nod):Prop where
 up:p.up=true->∃ rs,UpI σ i p rs
 dn:p.up=false->TpD p (σ.dr i)
 ag:AgL σ p.ae 0
structure LtI(σ:Gs)(l:Let):Prop where
 k0:l.kind=0->l.hZ.key<=σ.P l.hZ.n.toNat
 k1:l.kind=1->PrmOk (σ.dr l.src) l.hZ l.lp/\l.hZ.key<=σ.P l.hZ.n.toNat/\AgL σ l.hU 0
 k2:l.kind=2->Ap l.hZ/\l.hZ.key<=σ.P l.src
 k3:l.kind=3->σ.sN l.dT
 k4:l.kind=4->σ.held l.src l.dT
 k5:l.kind=5->AgL σ l.hU l.bu
structure AgI(σ:Gs)(M:Meet):Prop where
 gs:GsI σ
 nd:∀ i,i<5->NdI σ i (M.ab i)
 lt:∀ l∈M.br,LtI σ l
theorem AgL.mono(h:σ.le τ){l:List Cmd}{k:Nat}(g:AgL σ l k):AgL τ l k:=λs c e=>h.tM (g s c e)
theorem RdI.mono(h:σ.le τ)(f:GsI τ){i:Nat}{r:Rnd}(g:RdI σ i r)(m:∀ s c,τ.W r.hZ s c->s<r.next):RdI τ i r:=by
 refine⟨g.hZ,m,λj a d=>nI (g.own j a d) (h.P f i),λj a v e=>⟨h.held (g.an j a v e).1,(g.an j a v e).2⟩,λj a d=>⟨nI (g.prom j a d).1 (h.P f j),λv e k=>?_⟩,g.acc⟩;obtain⟨x,n⟩:=h.pre j;have l:=f.ok j;have hv':Rk.vt v∈τ.dr j:=e;rw[<- n]at l hv'
 rcases O'.1 hv' with hv'|hv'
 .exact(g.prom j a d).2 v hv' k
 .have h1:=(DK l).2 v hv';have o:=(g.prom j a d).1;have p:σ.P j<=v.b.key:=h1;omega
theorem PnI.mono(h:σ.le τ)(f:GsI τ){e a:List Rk}(c:e <+: a)(d:AU a){r r':Rnd}(i:r.hZ.key<=r'.hZ.key){q:Pend}(g:PnI σ e r q):PnI τ a r' q:=by
 cases q with
 | began b vs=>exact⟨g.1.mono c d,nI g.2 i⟩
 | prom to b vs=>exact⟨g.1.mono c d,nI g.2 (h.P f _)⟩
 | voted to v=>exact c.subset g
 | prop v=>exact c.subset g
 | fa to b=>obtain⟨x,rfl⟩:=c;exact⟨g.1,nI g.2 (DK d).1⟩
 | _=>trivial
theorem NdI.mono(h:Gs.ua i σ τ)(a:GsI τ)(n:GsI σ)(d:j≠i){p:Nod}(g:NdI σ j p):NdI τ j p:=by
 have e:=h.u0 j d;refine⟨λl=>?_,λb=>by rw[e];exact g.dn b,g.ag.mono h.le⟩;obtain⟨o,k⟩:=g.up l;refine⟨o,by rw[e];exact k.tp,λv m=>h.le.sN (k.sN v m),k.rd.mono h.le a λs c hW=>?_,k.bp,λq f=>(k.pe q f).mono h.le a (ng _) k.tp.ok (nf _)⟩;rcases h.new _ _ _ hW with hW|hW
 .exact k.rd.next s c hW
 .rcases k.rd.hZ with hb|⟨_,hb⟩
  .have:=(a.w2 _ _ _ ‹_›).1;rw[hb]at this
   exact absurd this (by decide)
  .rw[hb]at hW;omega
theorem LtI.mono(h:σ.le τ)(a:GsI τ){l:Let}(g:LtI σ l):LtI τ l :=
 ⟨λe=>nI (g.k0 e) (h.P a _),λe=>⟨(g.k1 e).1.mono (h.pre _) (a.ok _),nI (g.k1 e).2.1 (h.P a _),(g.k1 e).2.2.mono h⟩,λe=>⟨(g.k2 e).1,nI (g.k2 e).2 (h.P a _)⟩,λe=>h.sN (g.k3 e),λe=>h.held (g.k4 e),λe=>(g.k5 e).mono h⟩
theorem AgI.set{M:Meet}(h:AgI σ M){i:Nat}(b:Gs.ua i σ τ)(a:GsI τ){p:Nod}(g:NdI τ i p){ls:List Let}(d:∀ l∈ls,l∈M.br\/LtI τ l)(ts:List Tol):AgI τ (M.set i p ls ts) :=
 ⟨a,λj c=>by
  show NdI τ j (upN M.ab i p j);unfold upN;split
  .rename_i e;rw[e];exact g
  .rename_i e;exact(h.nd j c).mono b a h.gs e,λl f=>(d l f).elim (λk=>(h.lt l k).mono b.le a) id⟩
theorem Uw{r:Rnd}(h:∀ j,j<5->∀ v∈(r.an j).vs,σ.held j v){s:Nat}(a:Dd r.ia (s:Int)=0):σ.tM s (CV r.ia (s:Int)):=by
 have k:CV r.ia (s:Int)=((Hr (D8 r.ia (s:Int)) r.ia.length).map (·.w)).getD ⟨0,0,0,0,0⟩:=if_pos a;unfold Dd at a;split at a
 .cases a
 .split at a
  .cases a
  .rename_i d
   have d:=nk.1 d;split at a
   .rename_i hO
    obtain⟨v,g⟩:=oH.1 hO;rw[k,g];have m:=sq g;have i:5<2*BM (D8 r.ia (s:Int)) v:=nT m;have e:D8 r.ia (s:Int)=Ae (r.an 0).vs (s:Int)++(Ae (r.an 1).vs (s:Int)++(Ae (r.an 2).vs (s:Int)++(Ae (r.an 3).vs (s:Int)++Ae (r.an 4).vs (s:Int)))):=by
     unfold D8 Rnd.ia Ae;simp[List.filter_append]
    rw[e,C6,C6,C6,C6]at i
    have c:∀ j,j<5->BO (r.an j).vs:=λj l=>(d (r.an j) (by unfold Rnd.ia;rcases sc l with rfl|rfl|rfl|rfl|rfl<;>simp)).2.2;have o:=IN (c 0 (by omega)) (s:Int) v;have p:=IN (c 1 (by omega)) (s:Int) v;have t:=IN (c 2 (by omega)) (s:Int) v;have u:=IN (c 3 (by omega)) (s:Int) v;have x:=IN (c 4 (by omega)) (s:Int) v;refine⟨v.b.key,λq=>decide (v∈(r.an q).vs/\v.bu=(s:Int)),?_,λq n f=>?_⟩
    .show 3<=(decide (v∈(r.an 0).vs/\v.bu=(s:Int))).toNat+(decide (v∈(r.an 1).vs/\v.bu=(s:Int))).toNat+(decide (v∈(r.an 2).vs/\v.bu=(s:Int))).toNat+(decide (v∈(r.an 3).vs/\v.bu=(s:Int))).toNat+(decide (v∈(r.an 4).vs/\v.bu=(s:Int))).toNat;omega
    .obtain⟨h1,h2⟩:=nT f;exact⟨v,h q n v h1,h2,rfl,rfl⟩
   .cases a
theorem AgL.snoc(h:AgL σ l 0){c:Cmd}(a:σ.tM l.length c):AgL σ (l++[c]) 0:=λs d e=>by
 rcases oc s l.length with g|g
 .rw[ny g]at e;exact h s d e
 .have:=(V'.1 e).1;rw[E',nH]at this
  obtain rfl:s=l.length:=by omega
  rw[nC (A' _)]at e
  simp at e;subst e;rw[nV];exact a
theorem UQ{r:Rnd}(h:∀ j,j<5->∀ v∈(r.an j).vs,σ.held j v)(k:Nat){l:List Cmd}(a:AgL σ l 0):AgL σ (FL k r l) 0:=by
 induction k generalizing l with
 | zero=>exact a
 | succ k ih =>
  rw[FL];split
  .rename_i he;exact ih (a.snoc (Uw h he))
  .exact a
theorem QR{b:List Cmd}{a:Nat}(d:AgL σ l 0)(f:AgL σ b a)(h:a<=l.length):AgL σ (l++b.drop (l.length-a)) 0:=λs c e=>by
 rcases oc s l.length with g|g
 .rw[ny g]at e;exact d s c e
 .rw[nC g,oE]at e
  have:=f _ c e
  rwa [show a+(l.length-a+(s-l.length))=0+s by omega]at this
theorem Wk(a:Acc)(l:List Vt):∀ v∈(Dl a l).vs,v∈a.vs\/v∈l:=by
 induction l generalizing a with
 | nil=>exact λv b=>.inl b
 | cons u l ih =>
  intro v b;rw[Dl]at b
  rcases ih _ v b with h|h
  .by_cases he:Bb a u=0
   .rw[if_pos he]at h
    have h:v∈Bu a u:=h;rw[(DP he).2]at h
    rcases(BB (Aq he).1.2.2).1 h with rfl|⟨h,_⟩
    .exact .inr M'
    .exact .inl h
   .rw[if_neg he]at h;exact .inl h
  .exact .inr (I' _ h)
theorem Wj(a:Acc)(l:List Vt):∀ u∈a.vs,∃ x∈(Dl a l).vs,x.bu=u.bu/\u.b.key<=x.b.key:=by
 induction l generalizing a with
 | nil=>exact λu d=>⟨u,d,rfl,nf _⟩
 | cons w l ih =>
  intro u d;rw[Dl];by_cases c:Bb a w=0
  .rw[if_pos c];obtain⟨x,e,f,g⟩:=Mb (Aq c).1 c d;obtain⟨y,h,i,j⟩:=ih ⟨BK a w,Bu a w⟩ x (by show x∈Bu a w;rw[(DP c).2];exact e);exact⟨y,h,i.trans f,nI g j⟩
  .rw[if_neg c];exact ih a u d
theorem Wi(a:Acc)(l:List Vt)(c:Ah a)(g:a.p=b)(h:∀ v∈l,v.b.key<=b.key):Ah (Dl a l)/\(Dl a l).p=b:=by
 induction l generalizing a with
 | nil=>exact⟨c,g⟩
 | cons u l ih =>
  rw[Dl];by_cases d:Bb a u=0
  .rw[if_pos d];have f:=Aq d;have e:u.b=b:=by
    have k:=Bq f.2.1.2.1.pr c.1 f.2.2;have m:=h u M';rw[g]at k
    exact DQ f.2.1.2.1.pr (g▸c.1) (by omega)
   have j:(⟨BK a u,Bu a u⟩:Acc)=⟨u.b,Bp a.vs u⟩:=by rw[(DP d).1,(DP d).2]
   rw[j];exact ih _ (c.uv f.2.1 f.2.2) e λv i=>h v (I' _ i)
  .rw[if_neg d];exact ih a c g λv i=>h v (I' _ i)
theorem RdI.sG{r:Rnd}(h:RdI σ i r){j:Nat}{vs:List Vt}(f:PrmOk (σ.dr j) r.hZ vs)(s:r.hZ.key<=σ.P i):RdI σ i (r.sG j vs):=by
 refine⟨h.hZ,h.next,λ_ _ _=>s,λk c v a=>?_,λk c n=>?_,λk c=>?_⟩
 rotate_right
 .show Ah (upN r.an j (Dl ⟨r.hZ,vs⟩ (r.an j).vs) k)/\(upN r.qk j true k=true->(upN r.an j (Dl ⟨r.hZ,vs⟩ (r.an j).vs) k).p=r.hZ);unfold upN;split
  .rename_i e;subst e
   have:=Wi (b:=r.hZ) ⟨r.hZ,vs⟩ (r.an k).vs f.acc rfl λv a=>(h.an k c v a).2.1;exact⟨this.1,λ_=>this.2⟩
  .exact h.acc k c
 .have a:v∈(upN r.an j (Dl ⟨r.hZ,vs⟩ (r.an j).vs) k).vs:=a;by_cases e:k=j
  .subst e;rw[Dh]at a
   rcases Wk _ _ v a with g|g
   .exact⟨(f.sub v g).1,(f.sub v g).2,λe=>by rw[show(r.sG k vs).qk k=true from Dh _ _ _]at e;cases e⟩
   .have:=h.an k c v g;exact⟨this.1,this.2.1,λe=>by rw[show(r.sG k vs).qk k=true from Dh _ _ _]at e;cases e⟩
  .rw[D5 _ _ e]at a
   have:=h.an k c v a;exact⟨this.1,this.2.1,λo=>this.2.2 (by rwa [show(r.sG j vs).qk k=r.qk k from D5 _ _ e]at o)⟩
 .by_cases e:k=j
  .subst e;refine⟨f.le,λv a d=>?_⟩;obtain⟨u,l,m,q⟩:=f.uT v a d;obtain⟨x,t,w,y⟩:=Wj ⟨r.hZ,vs⟩ (r.an k).vs u l;exact⟨x,by show x∈(upN r.an k _ k).vs;rw[Dh];exact t,w.trans m,nI q y⟩
  .rw[show(r.sG j vs).qk k=r.qk k from D5 _ _ e]at n
   have:=h.prom k c n;exact⟨this.1,λv a d=>by
    obtain⟨u,l,m⟩:=this.2 v a d;exact⟨u,by show u∈(upN r.an j _ k).vs;rw[D5 _ _ e];exact l,m⟩⟩
theorem RdI.count{r:Rnd}(h:RdI σ i r){j:Nat}{v:Vt}(l:v.b=r.hZ)(f:Bb (r.an j) v=0)(o:σ.held j v):RdI σ i { r with an:=upN r.an j ⟨BK (r.an j) v,Bu (r.an j) v⟩ }:=by
 have d:=Aq f;have g:Bu (r.an j) v=Bp (r.an j).vs v:=(DP f).2;refine⟨h.hZ,h.next,h.own,λk c u a=>?_,λk c n=>⟨(h.prom k c n).1,λu a m=>?_⟩,λk c=>?_⟩
 rotate_right
 .show Ah (upN r.an j ⟨BK (r.an j) v,Bu (r.an j) v⟩ k)/\(r.qk k=true->(upN r.an j ⟨BK (r.an j) v,Bu (r.an j) v⟩ k).p=r.hZ);unfold upN;split
  .rw[(DP f).1,g];exact⟨d.1.uv d.2.1 d.2.2,λ_=>l⟩
  .exact h.acc k c
 .have a:u∈(upN r.an j ⟨BK (r.an j) v,Bu (r.an j) v⟩ k).vs:=a;by_cases e:k=j
  .subst e;rw[Dh]at a
   have a:u∈Bu (r.an k) v:=a;rw[g]at a
   rcases(BB d.1.2.2).1 a with rfl|⟨a,_⟩
   .exact⟨o,by rw[l];exact nf _,λ_=>l⟩
   .exact h.an k c u a
  .rw[D5 _ _ e]at a;exact h.an k c u a
 .obtain⟨x,h1,h2,h3⟩:=(h.prom k c n).2 u a m;by_cases e:k=j
  .subst e;obtain⟨y,q,s,t⟩:=Mb d.1 f h1;exact⟨y,by show y∈(upN r.an k _ k).vs;rw[Dh];show y∈Bu (r.an k) v;rw[g];exact q,s.trans h2,nI h3 t⟩
  .exact⟨x,by show x∈(upN r.an j _ k).vs;rw[D5 _ _ e];exact h1,h2,h3⟩
theorem UpI.lr{q:Nod}(h:UpI σ i p rs)(b:q.d=p.d)(j:q.sy=p.sy)(c:q.vo=p.vo)(f:RdI σ i q.bn)(a:q.bn.hZ=p.bn.hZ)(e:∀ x∈q.bw,x∈p.bw\/PnI σ rs q.bn x):UpI σ i q rs :=
 ⟨⟨h.tp.ok,h.tp.pre,b.trans h.tp.d,j.trans h.tp.sy,c.trans h.tp.vo,by rw[b];exact h.tp.len⟩,h.sN,f,by rw[a,c];exact h.bp,λx k=>(e x k).elim (λg=>by
  have:=h.pe x g;cases x<;>first|exact this|exact trivial|(refine⟨this.1,?_⟩;first|exact this.2|(rw[a];exact this.2))) id⟩
theorem UpI.count(h:UpI σ i p rs)(a:AgL σ p.ae 0){j:Nat}{v:Vt}(d:σ.held j v):UpI σ i (p.count j v) rs/\AgL σ (p.count j v).ae 0:=by
 unfold Nod.count;split
 .exact⟨h,a⟩
 .rename_i b
  have b:=nk.1 b;split
  .exact⟨h,a⟩
  .rename_i he
   have c:=h.rd.count b (nk.1 he) d;exact⟨h.lr rfl rfl rfl c rfl λx g=>.inl g,UQ (λj e v f=>(c.an j e v f).1) 41 a⟩
end
end
section
open Go.RowKit
section
variable{K key p:List Int}{c n s t:Int}{l:List Bool}
theorem bP{r u:Int}(i:key.length=32)(h:Dc c r u):Eu key (EO key c r u)=0/\Mx key (EO key c r u)=tkA c r u:=by
 have f:(EO key c r u).take 6=Is c r u:=by unfold EO;rw[nG (by rw[Ce];omega),nw (by rw[Ce];omega)]
 have g:(EO key c r u).drop 6=(EC key (Is c r u)).take 16:=by unfold EO;rw[pi (by rw[Ce];omega),oZ (by rw[Ce];omega),oQ]
 have a:(EO key c r u).getD 0 0=c:=rfl;have b:(EO key c r u).getD 1 0=r:=rfl;have d:Ad (EO key c r u) 2=u:=O9 c r u _ h.2.2.1 (by have:=h.2.2.2;omega);have e:Eu key (EO key c r u)=0:=by
  rw[Rt i (BI key c r u) (by rw[f,g]),a,b,d,Hp h]
 exact⟨e,by rw[PH e,a,b,d]⟩
theorem Yf{k v:Int}(h:Bh k c s n v=0):Co (CR k c s n v)=0/\I5 (CR k c s n v)=cmA k c s n v:=by
 obtain⟨b,a⟩:=Dk h;unfold InC at a;have e:Co (CR k c s n v)=0:=by
  unfold Co;rw[if_neg (λg=>g (BF k c s n v)),Hi k c s n v (by omega) (by omega),Hj k c s n v (by omega) (by omega),Hk k c s n v (by omega) (by omega),FQ k c s n v (by omega) (by omega),FR k c s n v (by omega) (by omega)];exact h
 refine⟨e,?_⟩;unfold I5;rw[if_pos e,Hi k c s n v (by omega) (by omega),Hj k c s n v (by omega) (by omega),Hk k c s n v (by omega) (by omega),FQ k c s n v (by omega) (by omega),FR k c s n v (by omega) (by omega)]
theorem bF{r:List Int}(a:OkC key s t l)(c:r.length<=2020)(d:20<=r.length)(e:IM (r.take 4)<1073741824)(b:ZL t l (IM (r.take 4))=false):GN key s t l r=Ek key (Ck (r.take 4)) (r.take 4) (r.drop 4):=by
 unfold GN;rw[if_neg (λh=>h a),if_neg (by omega),if_neg (by omega),if_neg (by omega),b,if_neg (by simp)]
theorem Ov{h:List Int}(a:K.length=32)(b:h.length=4):FJ K (Ck h) h=true:=UE a (Fg b) (by omega)
theorem UV(K:List Int)(n:Int)(p:List Int)(a:0<=n)(b:n<1073741824):IM ((Gk K n p).take 4)=n:=by rw[JM,WC n a (by omega)]
theorem bI(a:OkC K s t l)(d:0<=n)(c:n<1073741824)(e:p.length<=2000)(f:∀ x∈p,0<=x/\x<256)(b:ZL t l n=false):GN K s t l (Gk K n p)=0:=by
 rw[bF a (by rw[Ds];omega) (by rw[Ds];omega) (by rw[UV K n p d c];exact c) (by rw[UV K n p d c];exact b),JM,OE];exact Kv (Ov a.key rfl) e
theorem Uk(a:K.length=32)(c:p.length<=2000)(b:∀ x∈p,0<=x/\x<256):Jo K (Gk K n p)=p:=by
 unfold Jo;rw[JM,OE];exact Tz (Ov a rfl) c b
end
section
variable{n tc tr tu k c s m v:Int}(h:paE n tc tr tu k c s m v=0)
include h
theorem ZV:KQ (paL n tc tr tu k c s m v)=0/\PA (paL n tc tr tu k c s m v)=paP tc tr tu k c s m v:=by
 obtain⟨a,b,d⟩:=IQ h;have f:=(Dk d).2;have e:KQ (c::Gk (IC c) n (paP tc tr tu k c s m v))=0:=by
  unfold KQ;rw[if_neg (by simp),nJ,if_neg (by have:=f.2.1;omega),List.drop_one,List.tail_cons];exact bI (OkC.new (Cy c) 0 (by omega) (by omega)) a.1 a.2 (by rw[DI];omega) (Rm b) (UW a.1)
 rw[PC h];refine⟨e,?_⟩;unfold PA;rw[if_pos e,nJ,List.drop_one,List.tail_cons];exact Uk (Cy c) (by rw[DI];omega) (Rm b)
theorem gu:unT (paL n tc tr tu k c s m v)=EO Ft tc tr tu/\unQ (paL n tc tr tu k c s m v)=CR k c s m v:=by
 unfold unT unQ;rw[(ZV h).2];unfold paP;exact⟨by rw[nG (by rw[BI];omega),nw (by rw[BI];omega)],by rw[pi (by rw[BI];omega),oZ (by rw[BI];omega),oQ]⟩
theorem jh:unE (paL n tc tr tu k c s m v)=0:=by
 obtain⟨j,f,i⟩:=IQ h;obtain⟨a,b⟩:=ZV h;obtain⟨d,e⟩:=gu h;unfold unE;rw[if_neg (λg=>g a),if_neg (by rw[b,DI];simp),d,if_neg (λg=>g (bP G4 f).1),e];exact(Yf i).1
theorem TA:(unT (paL n tc tr tu k c s m v)).getD 0 0=tc/\(unT (paL n tc tr tu k c s m v)).getD 1 0=tr/\Ad (unT (paL n tc tr tu k c s m v)) 2=tu/\Ad (unQ (paL n tc tr tu k c s m v)) 0=k/\Ad (unQ (paL n tc tr tu k c s m v)) 4=c/\Ad (unQ (paL n tc tr tu k c s m v)) 8=s/\Ad (unQ (paL n tc tr tu k c s m v)) 12=m/\Ad (unQ (paL n tc tr tu k c s m v)) 16=v:=by
 obtain⟨i,a,e⟩:=IQ h;obtain⟨b,d⟩:=gu h;rw[b,d];obtain⟨g,f⟩:=Dk e;unfold InC at f;exact⟨rfl,rfl,O9 tc tr tu _ a.2.2.1 (by have:=a.2.2.2;omega),Hi k c s m v (by omega) (by omega),Hj k c s m v (by omega) (by omega),Hk k c s m v (by omega) (by omega),FQ k c s m v (by omega) (by omega),FR k c s m v (by omega) (by omega)⟩
theorem eG(a:Int):opE (paL n tc tr tu k c s m v) a=EP tc tr tu k c s m v a/\opA (paL n tc tr tu k c s m v) a=if EP tc tr tu k c s m v a=0 then cmA k c s m v else cmA 0 0 0 0 0:=by
 obtain⟨o,p,q,b,d,e,f,i⟩:=TA h;have l:opE (paL n tc tr tu k c s m v) a=EP tc tr tu k c s m v a:=by
  unfold opE;rw[if_neg (λg=>g (jh h)),o,p,q,b,d,e,f,i,if_neg];rintro⟨_,j⟩;rw[PC h,nJ]at j
  exact j rfl
 refine⟨l,?_⟩;unfold opA;rw[l,b,d,e,f,i]
end
theorem Mp{n a b d k c s m v:Int}(h:paE n a b d k c s m v=0):(paL n a b d k c s m v).length=63:=by
 rw[PC h,nQ,Ds,DI]
end
section
section
def Nod.ub(p:Nod):Bool × Nat:=(p.up,p.bad)
theorem Mv(p:Nod)(b:Bal):(p.av b).1.ub=p.ub:=by
 unfold Nod.av;split
 .rfl
 .split
  .rfl
  .split<;>rfl
theorem Vz(p:Nod)(v:Vt):(p.dT v).1.ub=p.ub:=by
 unfold Nod.dT;split
 .rfl
 .split
  .rfl
  .split<;>rfl
theorem LC(p:Nod)(j:Nat)(v:Vt):(p.count j v).ub=p.ub:=by
 unfold Nod.count;split
 .rfl
 .split<;>rfl
theorem OH(p:Nod)(to:Nat)(e:Int):(p.fa to e).ub=p.ub:=by unfold Nod.fa;split<;>rfl
theorem LK(p:Nod)(l:List Cmd):(p.eo l).ub=p.ub:=by unfold Nod.eo;split<;>rfl
theorem PX(p:Nod)(l:Let):(p.take l).ub=p.ub:=by
 unfold Nod.take;split
 .split
  .exact OH _ _ _
  .exact Mv p l.hZ
 .simp only;split<;>rfl
 .rfl
 .split
  .exact OH _ _ _
  .exact Vz p l.dT
 .exact LC p _ _
 .split<;>rfl
 .simp only;split<;>exact LK p l.hU
 .rfl
theorem fd(p:Nod)(i:Nat)(q:Pend):(p.ic i q).ub=p.ub:=by
 cases q with
 | began b vs=>unfold Nod.ic;simp only;split<;>rfl
 | prop v=>exact LC p i v
 | _=>rfl
theorem Yx(i:Nat)(l:List Pend)(p:Nod)(a:List Let):(ov i l p a).1.ub=p.ub:=by
 induction l generalizing p a with
 | nil=>rfl
 | cons q l ih=>exact(ih _ _).trans (fd p i q)
theorem OW(p:Nod)(c:Cmd):(p.fv c).ub=p.ub:=by unfold Nod.fv;split<;>rfl
theorem i9(i:Nat)(l:List Cmd)(p:Nod)(a:List Tol):(sD i l p a).1.ub=p.ub:=by
 induction l generalizing p a with
 | nil=>rfl
 | cons c l ih =>
  rw[sD];split
  .rfl
  .exact(ih _ _).trans (OW _ _)
theorem cQ(p:Nod)(i:Nat):(p.ib i).1.ub=p.ub:=by
 unfold Nod.ib;split
 .rfl
 .split
  .exact LK _ _
  .rfl
theorem TS(p:Nod):p.dc.ub=p.ub:=by
 unfold Nod.dc;split
 .rfl
 .split
  .rfl
  .split
   .rfl
   .exact Vz p _
theorem bv(p:Nod)(i:Nat)(a:List Let):(p.ni i a).1.ub=p.ub:=by
 unfold Nod.ni;split
 .rfl
 .rw[Yx];unfold Nod.sC;split<;>rfl
theorem Xv(p:Nod)(i:Nat)(a:List Let):(p.bN i a).1.ub=p.ub:=by unfold Nod.bN;split<;>rfl
theorem ai(p:Nod)(i:Nat)(a:List Let)(b:List Tol):(p.piece i a b).1.ub=p.ub:=by
 unfold Nod.piece;simp only;rw[Xv,bv,TS,cQ,i9]
theorem P4(p:Nod)(i:Nat):(p.lead i).ub=p.ub:=by
 unfold Nod.lead;simp only;split
 .rfl
 .exact Mv p _
theorem U8(M:Meet)(l:Let)(j:Nat):((M.nn l).ab j).ub=(M.ab j).ub:=by
 unfold Meet.nn;split
 .show(upN M.ab l.dst _ j).ub=_;unfold upN;split
  .rename_i h;rw[h];exact PX _ _
  .rfl
 .rfl
theorem Yg(l:List Let)(M:Meet)(j:Nat):((l.foldl (λM l=>M.nn l) M).ab j).ub=(M.ab j).ub:=by
 induction l generalizing M with
 | nil=>rfl
 | cons x l ih=>exact(ih _).trans (U8 M x j)
theorem ei(M:Meet)(k:Int)(a:Nat)(j:Nat):((M.move k a).ab j).ub=(M.ab j).ub:=by
 unfold Meet.move;split
 .rfl
 .simp only;split
  .rw[U8];split<;>rfl
  .split<;>rfl
theorem Ji(M:Meet)(i:Nat)(p:Nod)(a:List Let)(b:List Tol)(j:Nat):(M.set i p a b).ab j=if j=i then p else M.ab j:=rfl
variable{D:Wh}{L:List Lac}{M N:Meet}{P:Lac->Prop}{i n:Nat}{k:Int}{l:Let}{p:Nod}{rs:List Rk}{x:Lac}{σ:Gs}
theorem XC(M:Meet){x:Lac}(f:x.k≠1)(g:x.k≠8)(h:x.k≠9)(j:Nat):((M.act x).ab j).ub=(M.ab j).ub:=by
 unfold Meet.act;simp only;rw[if_neg f];by_cases a:x.k=2
 .rw[if_pos a,Ji];split
  .rename_i e
   rw[e];split
   .exact P4 _ _
   .rfl
  .rfl
 .rw[if_neg a];by_cases b:x.k=3
  .rw[if_pos b,Ji];split
   .rename_i e
    rw[e];split
    .exact ai _ _ _ _
    .rfl
   .rfl
  .rw[if_neg b];by_cases c:x.k=4\/x.k=5\/x.k=6
   .rw[if_pos c];exact ei _ _ _ _
   .rw[if_neg c];by_cases d:x.k=7
    .rw[if_pos d];exact Yg _ _ _
    .rw[if_neg d,if_neg g,if_neg h]
theorem jB(M:Meet){x:Lac}(h:x.k=1)(j:Nat):((M.act x).ab j).ub=if j=x.n.toNat/\(M.ab j).up=true/\opE x.d ((M.ab j).done:Int)≠0 then((M.ab j).up,(M.ab j).bad+1)else(M.ab j).ub:=by
 unfold Meet.act;simp only;rw[if_pos h,Ji];by_cases f:j=x.n.toNat
 .subst f;rw[if_pos rfl];unfold Nod.sg Nod.sE;by_cases b:(M.ab x.n.toNat).up=false
  .rw[if_pos b,if_neg (by rw[b];simp)]
  .rw[if_neg b];have g:(M.ab x.n.toNat).up=true:=by simpa using b
   by_cases a:opE x.d ((M.ab x.n.toNat).done:Int)≠0
   .rw[if_pos a,if_pos ⟨rfl,g,a⟩];rfl
   .rw[if_neg a,if_neg (c:=_/\_) (λe=>a e.2.2)];split
    .rfl
    .show(Nod.want _ _).ub=_;unfold Nod.want;split<;>rfl
 .rw[if_neg f,if_neg (λe=>f e.1)]
theorem AM(M:Meet)(L:List Lac)(x:Lac):M.cF (L++[x])=(M.cF L).act x:=by unfold Meet.cF;rw[p8];rfl
theorem VB(h:L[i]?=some x):M.cF (L.take (i+1))=(M.cF (L.take i)).act x:=by rw[oX,h];exact AM M (L.take i) x
theorem Fl(L:List Lac)(h:∀ x∈L,LacOk x)(d:L.length<=100000):MOk L.length (Ag.cF L):=by
 suffices ∀ i,i<=L.length->MOk i (Ag.cF (L.take i))by have a:=this L.length (A' _);rwa [oG]at a
 intro i;induction i with
 | zero=>intro _;exact MOk.zero
 | succ i ih =>
  intro c;have b:L[i]?=some L[i]:=G' (by omega);rw[VB b];exact(ih (by omega)).act (by omega) (h _ (nU _))
def Nod.tp(p:Nod):Prop:=AV p.d p.sy
theorem V6{d:List Int}{s:Int}{may:Prop}[Decidable may]{b:List Int}(h:CK d s may b=0):AV (Ge d s may b) (GX d s may b):=by
 obtain⟨a,c,_⟩:=Kf h;unfold Ge GX;rw[if_pos h,if_pos h];unfold AV at *;rw[E',Bj];omega
theorem Mu(h:p.tp)(b:Bal):(p.av b).1.tp:=by
 unfold Nod.av;split
 .exact h
 .split
  .exact h
  .split
   .exact h
   .rename_i hw;exact V6 (nk.1 hw)
theorem Qc(h:p.tp)(v:Vt):(p.dT v).1.tp:=by
 unfold Nod.dT;split
 .exact h
 .split
  .exact h
  .split
   .exact h
   .rename_i hw;exact V6 (nk.1 hw)
theorem OG(h:p.tp)(to:Nat)(e:Int):(p.fa to e).tp:=by unfold Nod.fa;split<;>exact h
theorem Yh(h:p.tp)(j:Nat)(v:Vt):(p.count j v).tp:=by
 unfold Nod.count;split
 .exact h
 .split<;>exact h
theorem SG(h:p.tp)(l:List Cmd):(p.eo l).tp:=by unfold Nod.eo;split<;>exact h
theorem I4(h:p.tp){k:Int}(c:0<=k):(p.ie k).tp/\(p.ie k).up=false/\(p.ie k).done=0/\(p.ie k).ae=[]:=by
 have a:Gw p.d p.sy k=0:=by unfold Gw;rw[if_neg (λe=>e h),if_neg (by omega)]
 unfold Nod.ie;rw[if_neg (λe=>e a)];refine⟨?_,rfl,rfl,rfl⟩;show AV (KG p.d p.sy k) (KH p.d p.sy k);unfold KG KH;rw[if_pos a,if_pos a];unfold Nod.tp AV at h;have b:0<=Gx p.d p.sy k/\Gx p.d p.sy k<=(p.d.length:Int):=by unfold Gx;split<;>omega
 unfold AV;rw[j'];omega
theorem GM(h:p.tp):p.start.tp/\p.start.up=true/\p.start.done=0/\p.start.ae=[]:=by
 have b:Df p.d p.sy=0:=if_pos h;have c:=YW p.d p.d.length;unfold Nod.start;rw[if_neg (λe=>e b)];split
 .refine⟨?_,rfl,rfl,rfl⟩;show AV (JN p.d p.sy) (MC p.d p.sy);unfold JN MC;have a:AV p.d p.sy:=h;rw[if_pos a,if_pos a];unfold Nod.tp AV at h;unfold AV;rw[j'];unfold Ex;split<;>omega
 .exact⟨h,rfl,rfl,rfl⟩
theorem jI(A:Alw)(i:Nat):NInv A i (λ_=>True) (λ_=>True) Nod.tp where
 take:=λ_ p l h _ _ _=>by
  unfold Nod.take;split
  .split
   .exact OG h _ _
   .exact Mu h l.hZ
  .simp only;split<;>exact h
  .exact h
  .split
   .exact OG h _ _
   .exact Qc h l.dT
  .exact Yh h _ _
  .split<;>exact h
  .simp only;split<;>exact SG h l.hU
  .exact h
 one:=λp c h _ _ _=>by unfold Nod.fv;split<;>exact h
 ask:=λp h _=>⟨by
  unfold Nod.ib;split
  .exact h
  .split
   .unfold Nod.eo;split<;>exact h
   .exact h,λ_ _=>trivial⟩
 prop:=λp h _=>by
  unfold Nod.dc;split
  .exact h
  .split
   .exact h
   .split
    .exact h
    .exact Qc h _
 sC:=λp h _=>by
  unfold Nod.sC;split
  .show AV (Ht p.d p.sy) (Ip p.d p.sy);unfold Ht Ip;have b:AV p.d p.sy:=h;rw[if_pos b,if_pos b];unfold Nod.tp AV at h;unfold AV;omega
  .exact h
 run:=λp q l h _ _ _=>⟨by
  have a:=DL p i q;show AV (p.ic i q).d (p.ic i q).sy;rw[a.2.2.1,a.2.2.2];exact h,λ_ _=>trivial⟩
 rN:=λp h _ _=>⟨h,λ_ _=>trivial⟩
 lead:=λ_ p h _=>by
  unfold Nod.lead;simp only;split
  .exact h
  .exact Mu h _
 sub:=λp d e h _ _=>by
  unfold Nod.sg Nod.sE;split
  .exact h
  .split
   .exact h
   .split
    .exact h
    .show(Nod.want _ _).tp;unfold Nod.want;split<;>exact h
 ie:=λ_ p k h a _=>(I4 h a).1
 start:=λ_ p h _=>(GM h).1
def kh:Alw:=⟨true,true,true,true⟩
theorem cL(x:Lac):kh.Ok x:=⟨λ_=>rfl,λ_=>rfl,λ_=>rfl,λ_=>rfl⟩
theorem cJ(L:List Lac)(h:∀ x∈L,LacOk x)(c:L.length<=100000){i:Nat}(a:i<5):((Ag.cF L).ab i).tp :=
 (GInv.cF (R:=λ_=>True) (D:=λ_ _=>True) (Q:=λ_=>True) (P:=λ_=>Nod.tp) (λi _=>jI kh i) (λi _=>TInv.all i _ _) L MOk.zero (by omega) ⟨λ_ _=>(by show AV [] 0;decide),λ_ _=>trivial⟩ trivial λx b=>⟨h x b,cL x,λ_=>trivial⟩).1.ab i a
theorem V9(M:Meet){i:Nat}(b:i<5)(a:(M.ab i).tp)(j:Nat):((M.act (acN 9 (i:Int))).ab j).up=if j=i then true else(M.ab j).up:=by
 show(upN M.ab (i:Int).toNat _ j).up=_;unfold upN;rw[nS];split
 .split
  .assumption
  .exact(GM a).2.1
 .rfl
theorem gW(M:Meet){x:Lac}(c:x.k≠8){j:Nat}(a:(M.ab j).up=true):((M.act x).ab j).up=true:=by
 by_cases b:x.k=1
 .have:=congrArg Prod.fst (jB M b j);split at this
  .exact this.trans a
  .exact this.trans a
 .by_cases h9:x.k=9
  .unfold Meet.act;simp only;rw[if_neg b,if_neg (by omega),if_neg (by omega),if_neg (by omega),if_neg (by omega),if_neg (by omega),if_pos h9,Ji];split
   .rename_i e;rw[<- e,if_pos a];exact a
   .exact a
  .exact(congrArg Prod.fst (XC M b c h9 j)).trans a
theorem cK(L:List Lac)(a:∀ x∈L,x.k≠8)(M:Meet){j:Nat}(b:(M.ab j).up=true):((M.cF L).ab j).up=true:=by
 induction L generalizing M with
 | nil=>exact b
 | cons x L ih=>exact ih (λy c=>a y (I' _ c)) _ (gW M (a x M') b)
theorem At(M:Meet)(L K:List Lac):M.cF (L++K)=(M.cF L).cF K:=p8
theorem DC{n:Int}(h:(k=2\/k=3\/k=9)/\0<=n/\n<=4):LacOk (acN k n):=by
 rw[<- DR];rcases h with⟨rfl|rfl|rfl,h1,h2⟩<;>simp[dX,acN,Gn,It,Iu]<;>omega
theorem Mc(h:∀ n:Nat,n<5->P (acN k (n:Int))){j:Nat}(c:j<=5):∀ x∈AF k j,P x:=by
 intro x b;obtain⟨n,a,rfl⟩:=nF.1 b;exact h n (by have:=pU.1 a;omega)
theorem LN(b:∀ n:Nat,n<5->P (acN 3 (n:Int)))(c:P (acN 7 0))(m:Nat):∀ x∈An m,P x:=by
 induction m with
 | zero=>intro x a;cases a
 | succ m ih =>
  intro x a;rcases O'.1 a with h|h
  .exact ih x h
  .rcases O'.1 h with h|h
   .exact Mc b (A' _) x h
   .rw[D'.1 h];exact c
theorem Je(c:∀ n:Nat,n<5->P (acN 9 (n:Int)))(a:∀ n:Nat,n<5->P (acN 3 (n:Int)))(b:P (acN 7 0))(m:Nat):∀ x∈CT m,P x:=by
 intro x d;rcases O'.1 d with h|h
 .exact Mc c (A' _) x h
 .exact LN a b m x h
theorem PL(m:Nat):∀ x∈CT m,LacOk x:=Je (λn a=>DC ⟨.inr (.inr rfl),by omega,by omega⟩) (λn a=>DC ⟨.inr (.inl rfl),by omega,by omega⟩) (by rw[<- DR];decide) m
theorem j1(L:List Lac)(h:∀ x∈L,LacOk x)(m:Nat)(o:L.length+6*m+5<=100000){j:Nat}(b:j<5):((Ag.cF (L++CT m)).ab j).up=true:=by
 unfold CT;rw[<- nm,At];refine cK _ (LN (λ_ _=>by show(3:Int)≠8;decide) (by decide) m) _ ?_;have d:∀ k,k<=5->j<k->((Ag.cF (L++AF 9 k)).ab j).up=true:=by
  intro k;induction k with
  | zero=>intro _ h;omega
  | succ k ih =>
   intro l c;have a:∀ x∈L++AF 9 k,LacOk x:=λx g=>(O'.1 g).elim (h x) λe=>Mc (λn p=>DC ⟨.inr (.inr rfl),by omega,by omega⟩) (by omega) x e;have f:=cJ (L++AF 9 k) a (by rw[E',Zc];omega) (i:=k) (by omega);rw[BU,<- nm,AM,V9 _ (by omega) f];split
   .rfl
   .exact ih (by omega) (by omega)
 exact d 5 (A' _) b
theorem NdI.mk'(b:p.up=true)(h:UpI σ i p rs)(a:AgL σ p.ae 0):NdI σ i p:=⟨λ_=>⟨rs,h⟩,λe=>(by rw[b]at e;cases e),a⟩
theorem AgL.nil(σ:Gs)(k:Nat):AgL σ [] k:=λs c e=>by simp at e
theorem AgL.drop{l:List Cmd}(h:AgL σ l 0)(k:Nat):AgL σ (l.drop k) k:=λs c e=>by
 rw[oE]at e
 have:=h _ c e
 rwa [nV]at this
theorem UpI.wait(h:UpI σ i p rs){x:Pend}(a:PnI σ rs p.bn x):UpI σ i (p.wait x) rs :=
 h.lr rfl rfl rfl h.rd rfl λy b=>(O'.1 b).imp id λe=>by rw[D'.1 e];exact a
theorem UpI.fa(h:UpI σ i p rs)(to:Nat)(e:Int):UpI σ i (p.fa to e) rs:=by
 unfold Nod.fa;split
 .exact h.wait (by show Ap p.vo.p/\p.vo.p.key<=_;rw[h.tp.vo];exact⟨h.tp.ok.acc.1,nf _⟩)
 .exact h
theorem OF(p:Nod)(to:Nat)(e:Int):(p.fa to e).ae=p.ae:=by unfold Nod.fa;split<;>rfl
theorem UpI.wrote{τ:Gs}{q:Nod}{a:List Rk}(h:UpI σ i p rs)(j:σ.le τ)(l:GsI τ)(f:τ.dr i=σ.dr i)(b:TpU q (σ.dr i) a)(m:rs <+: a)(o:∀ v,Rk.vt v∈a->τ.sN v){r:Rnd}(n:RdI τ i r)(c:p.bn.hZ.key<=r.hZ.key)(e:r.hZ.key<=q.vo.p.key){x:Pend}(s:PnI τ a r x)(k:q.bw=p.bw):UpI τ i (Nod.wait { q with bn:=r } x) a :=
 ⟨by rw[f];exact⟨b.ok,b.pre,b.d,b.sy,b.vo,b.len⟩,o,n,e,λy t=>by
  rcases O'.1 t with g|g
  .have g:y∈q.bw:=g;rw[k]at g
   exact(h.pe y g).mono j l m b.ok c
  .rw[D'.1 g];exact s⟩
theorem FG(h:UpI σ i p rs)(l:List Cmd):UpI σ i (p.eo l) rs/\(p.eo l).ae=p.ae:=by
 unfold Nod.eo;split
 .exact⟨h.lr rfl rfl rfl ⟨h.rd.hZ,h.rd.next,h.rd.own,h.rd.an,h.rd.prom,h.rd.acc⟩ rfl λx a=>.inl a,rfl⟩
 .exact⟨h,rfl⟩
theorem QQ(h:UpI σ i p rs)(a:AgL σ p.ae 0):UpI σ i p.sf rs/\AgL σ p.sf.ae 0:=⟨h.lr rfl rfl rfl h.rd rfl λx d=>.inl d,UQ (λj b v c=>(h.rd.an j b v c).1) 41 a⟩
theorem NdI.take(C:GsI σ){i:Nat}{p:Nod}(h:NdI σ i p)(D:p.up=true){l:Let}(u:LtI σ l)(G:l.src<5):NdI σ i (p.take l):=by
 obtain⟨f,k⟩:=h.up D;have c:=h.ag
 suffices g:∃ b,UpI σ i (p.take l) b/\AgL σ (p.take l).ae 0 by
  obtain⟨b,w,o⟩:=g;exact NdI.mk' ((congrArg Prod.fst (PX p l)).trans D) w o
 unfold Nod.take;split
 .rename_i hk
  rcases k.tp.av l.hZ with⟨e,he⟩|⟨e,he,hvs,b,hp,ht,hm,hpb,hpv,d,a,hq⟩
  .rw[if_pos e];exact⟨f,k.fa _ _,by rw[OF];exact c⟩
  .rw[if_neg (λg=>g e)];have m:=Cq he;refine⟨b,?_,?_⟩
   .refine k.wrote (q:=(p.av l.hZ).1) (r:=(p.av l.hZ).1.bn) (.refl σ) C rfl ht hp (λv B=>k.sN v ((hm v).1 B)) ?_ ?_ ?_ ⟨PrmOk.of ht.ok hpb (hpv.trans hvs.symm),u.k0 hk⟩ (by rw[hq];rfl)
    .rw[hq];exact k.rd
    .rw[hq];exact nf _
    .rw[ht.vo,hpb,hq];exact nI k.bp (Bq m.2.1.pr m.1.1 m.2.2)
   .show AgL σ (p.av l.hZ).1.ae 0;rw[hq];exact c
 .rename_i hk
  obtain⟨w,o,E⟩:=u.k1 hk;have y:AgL σ (p.jv 0 l.hU).ae 0:=QR c E (nM _);have s:UpI σ i (p.jv 0 l.hU) f:=k.lr rfl rfl rfl k.rd rfl λx j=>.inl j;generalize p.jv 0 l.hU=K at y s ⊢;simp only;split
  .exact⟨f,s,y⟩
  .rename_i hc
   have A:K.leads=true:=by cases hh:K.leads with|true=>rfl|false=>exact absurd (.inl hh) hc
   have t:l.hZ=K.bn.hZ:=nk.1 λe=>hc (.inr (.inl e));have z:K.bn.hZ≠Bf:=(nT A).1;rw[t]at w o
   have F:=(s.rd.hZ.resolve_left z).2;rw[F,nS]at o
   have n:=s.rd.sG w o;exact⟨f,QQ (p:={ K with bn:={ K.bn.sG l.src l.lp with bN:=upN K.bn.bN l.src l.hU.length } }) (s.lr rfl rfl rfl ⟨n.hZ,n.next,n.own,n.an,n.prom,n.acc⟩ rfl λx j=>.inl j) y⟩
 .exact⟨f,k.lr rfl rfl rfl k.rd rfl λx j=>.inl j,c⟩
 .rename_i hk
  rcases k.tp.dT l.dT with⟨e,he⟩|⟨e,he,b,hp,ht,hm,hpb,d,a,hq⟩
  .rw[if_pos e];exact⟨f,k.fa _ _,by rw[OF];exact c⟩
  .rw[if_neg (λg=>g e)];have m:=Aq he;refine⟨b,?_,?_⟩
   .refine k.wrote (q:=(p.dT l.dT).1) (r:=(p.dT l.dT).1.bn) (.refl σ) C rfl ht hp (λv B=>((hm v).1 B).elim (λe=>by rw[e];exact u.k3 hk) (k.sN v)) ?_ ?_ ?_ ((hm _).2 (.inl rfl)) (by rw[hq];rfl)
    .rw[hq];exact k.rd
    .rw[hq];exact nf _
    .rw[ht.vo,hpb,hq];exact nI k.bp (Bq m.2.1.2.1.pr m.1.1 m.2.2)
   .show AgL σ (p.dT l.dT).1.ae 0;rw[hq];exact c
 .rename_i hk
  exact⟨f,k.count c (u.k4 hk)⟩
 .rename_i hk
  split
  .exact⟨f,k.wait trivial,c⟩
  .rename_i hlt;exact⟨f,k.lr rfl rfl rfl k.rd rfl λx j=>.inl j,QR c (u.k5 hk) (by omega)⟩
 .have:=FG k l.hU;simp only;split
  .exact⟨f,this.1.wait trivial,by show AgL σ (p.eo l.hU).ae 0;rw[this.2];exact c⟩
  .exact⟨f,this.1,by rw[this.2];exact c⟩
 .exact⟨f,k,c⟩
theorem WQ(W:GsI σ){i:Nat}{p:Nod}(h:RdI σ i p.bn)(X:Ac p.bn.hZ)(Y:p.bn.sh=true){s:Nat}(hs:p.bn.next<=s){c:Cmd}(t:p.pd s=some c):E5 σ.H σ.P s p.bn.hZ.key c:=by
 have h5:5<2*J7 p.bn.qk:=nT Y;have m:∀ j,j<5->∀ v∈(p.bn.an j).vs,v.bu=(s:Int)->v∈Ae (p.bn.ia.map (·.vs)).flatten (s:Int):=λj F v M e=>by
  refine AN.2 ⟨pl.2 ⟨(p.bn.an j).vs,nF.2 ⟨p.bn.an j,?_,rfl⟩,M⟩,e⟩;unfold Rnd.ia;rcases sc F with rfl|rfl|rfl|rfl|rfl<;>simp
 refine⟨p.bn.qk,by omega,λq n o=>(h.prom q n o).1,?_⟩;unfold Nod.pd at t;split at t
 .cases t
 .rename_i d
  have d:=nk.1 d;have D:Ea (p.bn.ia.map (·.vs)) (s:Int)=(El (p.bn.ia.map (·.vs)) (s:Int)).isSome:=if_pos d;have S:GB (p.bn.ia.map (·.vs)) (s:Int)=((El (p.bn.ia.map (·.vs)) (s:Int)).map (·.w)).getD ⟨0,0,0,0,0⟩:=if_pos d;have r:∀ l∈p.bn.ia.map (·.vs),∀ v∈l,Ai v:=by
   unfold Cc at d;split at d
   .cases d
   .split at d
    .assumption
    .cases d
  have L:∀ v∈Ae (p.bn.ia.map (·.vs)).flatten (s:Int),Ap v.b:=λv M=>by
   obtain⟨l,k,f⟩:=pl.1 (AN.1 M).1;exact(r l k v f).2.1.pr
  rcases Lt _ L with⟨h0,E⟩|⟨x,E,hx,hmax⟩
  .left;intro q n o U V ⟨v,g,R,Z,k3⟩;refine Int.not_lt.1 λz=>?_;obtain⟨u,k,f,_⟩:=(h.prom q n o).2 v g (by omega);have:=m q n u k (f.trans R);rw[h0]at this;cases this
  .right;have E:El (p.bn.ia.map (·.vs)) (s:Int)=some x:=E;rw[E]at D S
   have D:Ea (p.bn.ia.map (·.vs)) (s:Int)=true:=D;rw[if_pos D]at t
   have G:c=x.w:=(nX t).symm.trans S;obtain⟨O,Q⟩:=AN.1 hx;obtain⟨j,F,N⟩:∃ j,j<5/\x∈(p.bn.an j).vs:=by
    obtain⟨l,k,f⟩:=pl.1 O;obtain⟨a,C,rfl⟩:=nF.1 k;unfold Rnd.ia at C;simp only[nr,Q',or_false]at C;rcases C with rfl|rfl|rfl|rfl|rfl
    .exact⟨0,by omega,f⟩
    .exact⟨1,by omega,f⟩
    .exact⟨2,by omega,f⟩
    .exact⟨3,by omega,f⟩
    .exact⟨4,by omega,f⟩
   obtain⟨y,I,J⟩:=h.an j F x N;have B:=W.hv j x y;have A:x.b≠p.bn.hZ:=λe=>by
    have k:=B.2;rw[e]at k
    have:=h.next _ _ k;omega
   have z:x.b.key<p.bn.hZ.key:=by
    rcases Int.lt_or_eq_of_le I with g|g
    .exact g
    .exact absurd (DQ B.1.2.1.pr X.pr g) A
   have K:p.bn.qk j=true:=by
    cases hh:p.bn.qk j with
    | true=>rfl
    | false=>exact absurd (J hh) A
   refine⟨x.b.key,z,⟨j,F,K,x,y,Q,rfl,G.symm⟩,λq n o U V ⟨v,g,R,Z,k3⟩ T=>?_⟩;obtain⟨u,k,f,C⟩:=(h.prom q n o).2 v g (by omega);have:=hmax u (m q n u k (f.trans R));omega
def Gs.prop(σ:Gs)(b:Bal)(s:Nat)(c:Cmd):Gs:=⟨σ.dr,λb' s' c'=>σ.W b' s' c'\/(b'=b/\s'=s/\c'=c)⟩
theorem GsI.prop(h:GsI σ){b:Bal}{s:Nat}{c:Cmd}(e:Ac b)(d:E5 σ.H σ.P s b.key c)(f:b.key<=σ.P b.n.toNat)(a:∀ c',¬ σ.W b s c'):GsI (σ.prop b s c):=by
 refine⟨h.ok,h.tj,?_,?_,?_,λn v g=>⟨(h.hv n v g).1,.inl (h.hv n v g).2⟩⟩
 .rintro b' s' c1 c2 (g|⟨rfl,rfl,rfl⟩) (k|⟨e1,e2,e3⟩)
  .exact h.w1 _ _ _ _ g k
  .subst e1 e2;exact absurd g (a _)
  .exact absurd k (a _)
  .exact e3.symm
 .rintro b' s' c' (g|⟨rfl,rfl,rfl⟩)
  .exact h.w2 _ _ _ g
  .exact⟨e,d⟩
 .rintro b' s' c' (g|⟨rfl,rfl,rfl⟩)
  .exact h.w3 _ _ _ g
  .exact f
theorem NdI.dc(x:GsI σ){i:Nat}{p:Nod}(h:NdI σ i p)(E:p.up=true):∃ τ ex,Gs.ua i σ τ/\GsI τ/\NdI τ i p.dc/\(∀ b s c,τ.W b s c->σ.W b s c\/ex=some (b,s))/\∀ b s,ex=some (b,s)->s<40/\b=p.bn.hZ/\s=p.ae.length/\∀ c,τ.W b s c->p.pd s=some c:=by
 obtain⟨rs,k⟩:=h.up E;have f:∃ τ ex,Gs.ua i σ τ/\GsI τ/\NdI τ i p/\(∀ b s c,τ.W b s c->σ.W b s c\/ex=some (b,s))/\∀ b s,ex=some (b,s)->s<40/\b=p.bn.hZ/\s=p.ae.length/\∀ c,τ.W b s c->p.pd s=some c:=⟨σ,none,.refl i σ,x,h,λ_ _ _ h=>.inl h,λ_ _ e=>by cases e⟩;have o:=(EG p).trans E
 revert o
 unfold Nod.dc;split
 .exact λ_=>f
 .rename_i hc
  have z:p.leads=true:=by cases hh:p.leads with|true=>rfl|false=>exact absurd (.inl hh) hc
  have n:p.bn.sh=true:=by cases hh:p.bn.sh with|true=>rfl|false=>exact absurd (.inr (.inl hh)) hc
  have A:p.bn.next<=p.ae.length:=Nat.not_lt.1 λe=>hc (.inr (.inr e));cases hn:p.pd p.ae.length with
  | none=>exact λ_=>f
  | some c =>
   simp only;rcases k.tp.dT ⟨(p.ae.length:Int),p.bn.hZ,c⟩with⟨e,he⟩|⟨e,he,rs',hp,ht,hm,hpb,d,a,w⟩
   .rw[if_pos e];exact λ_=>f
   .rw[if_neg (λg=>g e)];intro o;have F:=Aq he;have y:p.bn.hZ≠Bf:=(nT z).1;obtain⟨D,t⟩:=k.rd.hZ.resolve_left y;have H:=WQ x k.rd D n A hn;have C:∀ l,¬ σ.W p.bn.hZ p.ae.length l:=λl g=>by have:=k.rd.next _ _ g;omega
    have I:p.bn.hZ.key<=σ.P i:=by
     obtain⟨q,w,G,_⟩:=G8 p.bn.qk p.bn.qk (by have:5<2*J7 p.bn.qk:=nT n;omega) (by have:5<2*J7 p.bn.qk:=nT n;omega);exact k.rd.own q w G
    have m:=x.prop D H (by rw[t,nS];exact I) C;have j:Gs.ua i σ (σ.prop p.bn.hZ p.ae.length c):=⟨⟨λ_=>ng _,λ_ _ _ g=>.inl g⟩,λb s l g=>g.imp id λe=>by rw[e.1];exact t,λ_ _=>rfl⟩;have B:(σ.prop p.bn.hZ p.ae.length c).sN ⟨(p.ae.length:Int),p.bn.hZ,c⟩:=⟨F.2.1,.inr ⟨rfl,nS _,rfl⟩⟩;have K:=k.rd.mono (τ:=σ.prop p.bn.hZ p.ae.length c) (r:=p.bn) j.le m;refine⟨_,some (p.bn.hZ,p.ae.length),j,m,NdI.mk' (rs:=rs') o ?_ ?_,λb s l g=>g.imp id λe=>by rw[e.1,e.2.1],λb s e=>?_⟩
    .refine k.wrote (q:=(p.dT ⟨(p.ae.length:Int),p.bn.hZ,c⟩).1) (r:={ p.bn with next:=p.ae.length+1 }) j.le m rfl ht hp (λv J=>((hm v).1 J).elim (λe=>by rw[e];exact B) λg=>j.le.sN (k.sN v g)) ?_ (nf _) ?_ ((hm _).2 (.inl rfl)) (by rw[w];rfl)
     .have g:=k.rd;refine RdI.mono (σ:=σ) j.le m (r:={ p.bn with next:=p.ae.length+1 }) ⟨g.hZ,λs l u=>X' (g.next s l u) (by show p.bn.next<=p.ae.length+1;omega),g.own,g.an,g.prom,g.acc⟩ λs l u=>?_;rcases u with u|⟨_,rfl,_⟩
      .exact X' (g.next s l u) (by show p.bn.next<=p.ae.length+1;omega)
      .exact Nat.lt_succ_self _
     .rw[ht.vo,hpb];exact nf _
    .show AgL _ (p.dT ⟨(p.ae.length:Int),p.bn.hZ,c⟩).1.ae 0;rw[w];exact h.ag.mono j.le
    .cases e;have:=F.2.1.1.2;exact⟨by simp only at this;omega,rfl,rfl,λl g=>by
      rcases g with g|⟨_,_,g⟩
      .exact absurd g (C l)
      .rw[g];exact hn⟩
theorem LtI.none(h:l.kind=6):LtI σ l:=⟨λe=>by omega,λe=>by omega,λe=>by omega,λe=>by omega,λe=>by omega,λe=>by omega⟩
theorem LtI.news(h:l.kind=5)(a:AgL σ l.hU l.bu):LtI σ l:=⟨λe=>by omega,λe=>by omega,λe=>by omega,λe=>by omega,λe=>by omega,λ_=>a⟩
theorem NdI.run(C:GsI σ){i:Nat}(H:i<5){p:Nod}(h:NdI σ i p)(j:p.up=true){q:Pend}{l:List Pend}(A:p.bw=q::l)(E:¬ p.sy<(p.d.length:Int)):NdI σ i { p.ic i q with bw:=l }/\∀ m∈p.rk i q,LtI σ m:=by
 obtain⟨B,k⟩:=h.up j;have f:=k.tp.all E;have c:=k.pe q (by rw[A];exact M');have t:∀ x∈l,x∈p.bw:=λx u=>by rw[A];exact I' _ u
 have o:∀ {p':Nod},UpI σ i p' B->p'.bw=p.bw->UpI σ i { p' with bw:=l } B:=λ{p'} g e=>g.lr rfl rfl rfl g.rd rfl λx u=>.inl (by rw[e];exact t x u);cases q with
 | began b vs =>
  unfold Nod.ic Nod.rk;simp only;split
  .exact⟨NdI.mk' j (o k rfl) h.ag,λm a=>by cases a⟩
  .rename_i e
   have e:=nk.1 e;obtain⟨w,G⟩:=c;have r:=k.tp.ok.acc;rw[<- k.tp.vo]at r
   have z:=k.bp;have y:p.bn.hZ=b:=by
    rw[<- e];refine DQ ?_ r.1 (by rw[e]at z ⊢;omega);rcases k.rd.hZ with g|g
    .rw[g];exact .inr ⟨rfl,rfl⟩
    .exact g.1.pr
   have s:b.key<=σ.P i:=by have:=w.le;rw[<- f]at this;exact this
   rw[<- f,<- y]at w
   rw[<- y]at s
   refine⟨NdI.mk' j (o (p':={ p with bn:=p.bn.sG i vs }) (k.lr rfl rfl rfl (k.rd.sG w s) rfl λx u=>.inl u) rfl) h.ag,λm a=>?_⟩;obtain⟨to,_,rfl⟩:=CI a;refine⟨λ_=>?_,λe=>(by cases e),λe=>(by cases e),λe=>(by cases e),λe=>(by cases e),λe=>(by cases e)⟩;show b.key<=σ.P b.n.toNat;rw[<- y];rcases k.rd.hZ with g|g
   .rw[g];have F:=(C.ok (Bf.n.toNat)).acc.1;have:0<=σ.P (Bf.n.toNat):=by
     unfold Ap Ac at F;unfold Gs.P Bal.key;omega
    exact this
   .rw[g.2,nS];exact s
 | prom to b vs =>
  refine⟨NdI.mk' j (o k rfl) h.ag,λm a=>?_⟩;rw[D'.1 a];refine⟨λe=>(by cases e),λ_=>⟨?_,c.2,h.ag⟩,λe=>(by cases e),λe=>(by cases e),λe=>(by cases e),λe=>(by cases e)⟩;show PrmOk (σ.dr i) b vs;rw[f];exact c.1
 | voted to v =>
  refine⟨NdI.mk' j (o k rfl) h.ag,λm a=>?_⟩;rw[D'.1 a];refine⟨λe=>(by cases e),λe=>(by cases e),λe=>(by cases e),λe=>(by cases e),λ_=>?_,λe=>(by cases e)⟩;show Rk.vt v∈σ.dr i;rw[f];exact c
 | fa to b =>
  refine⟨NdI.mk' j (o k rfl) h.ag,λm a=>?_⟩;rw[D'.1 a];refine⟨λe=>(by cases e),λe=>(by cases e),λ_=>?_,λe=>(by cases e),λe=>(by cases e),λe=>(by cases e)⟩;show Ap b/\b.key<=(B1 (σ.dr i)).p.key;rw[f];exact c
 | prop v =>
  have D:σ.held i v:=by show Rk.vt v∈σ.dr i;rw[f];exact c
  have g:=k.count h.ag D;refine⟨NdI.mk' ((congrArg Prod.fst (LC p i v)).trans j) (o g.1 (DL p i (.prop v)).1) g.2,λm a=>?_⟩;obtain⟨to,_,rfl⟩:=CI a;exact⟨λe=>(by cases e),λe=>(by cases e),λe=>(by cases e),λ_=>k.sN v c,λe=>(by cases e),λe=>(by cases e)⟩
 | askNews to=>exact⟨NdI.mk' j (o k rfl) h.ag,λm a=>by rw[D'.1 a];exact LtI.none rfl⟩
 | start=>exact⟨NdI.mk' j (o k rfl) h.ag,λm a=>by obtain⟨to,_,rfl⟩:=CI a;exact LtI.none rfl⟩
 | tell to bu=>exact⟨NdI.mk' j (o k rfl) h.ag,λm a=>by rw[D'.1 a];exact LtI.news rfl (h.ag.drop bu)⟩
theorem NdI.lead(w:GsI σ){i:Nat}(E:i<5){p:Nod}(h:NdI σ i p)(y:p.up=true):NdI σ i (p.lead i):=by
 obtain⟨rs,k⟩:=h.up y;have f:(p.lead i).up=true:=(congrArg Prod.fst (P4 p i)).trans y
 revert f
 unfold Nod.lead;simp only;generalize m:(⟨max p.ed p.vo.p.r+1,(i:Int)⟩:Bal)=b;rcases k.tp.av b with⟨e,he⟩|⟨e,he,hvs,rs',hp,ht,hm,hpb,hpv,d,a,hq⟩
 .rw[if_pos e];exact λ_=>h
 .rw[if_neg (λg=>g e)];intro f;have A:=Cq he;have C:p.vo.p.key<b.key:=by
   have:=A.1.1;rw[<- m];unfold Ap Ac at this;show 5*p.vo.p.r+p.vo.p.n<5*(max p.ed p.vo.p.r+1)+(i:Int);omega
  refine NdI.mk' (rs:=rs') f ?_ ?_
  .refine k.wrote (q:=(p.av b).1) (r:=⟨b,λ_=>false,λ_=>Eq,λ_=>p.ae.length,0,[]⟩) (.refl σ) w rfl ht hp (λv o=>k.sN v ((hm v).1 o)) ?_ ?_ ?_ ⟨PrmOk.of ht.ok hpb (hpv.trans hvs.symm),nf _⟩ (by rw[hq];rfl)
   .refine⟨.inr ⟨A.2.1,by rw[<- m]⟩,λs c B=>?_,λj _ e=>(by cases e),λj _ v o=>(by cases o),λj _ e=>(by cases e),λj _=>⟨KZ,λe=>(by cases e)⟩⟩;have l:=w.w3 _ _ _ B;rw[show b.n.toNat=i by rw[<- m];exact nS i]at l
    obtain⟨x,z⟩:=k.tp.pre;have t:=k.tp.ok;rw[<- z]at t
    have u:=(DK t).1;rw[z,<- k.tp.vo]at u
    have D:σ.P i<=p.vo.p.key:=u;have l:b.key<=σ.P i:=l;omega
   .have:=k.bp;show _<=b.key;omega
   .rw[ht.vo,hpb];exact nf _
  .show AgL σ (p.av b).1.ae 0;rw[hq];exact h.ag
theorem JZ(k:Nat):∀ m∈Dw p i k,m.kind=5/\m.hU=p.ae.drop m.bu:=by
 induction k with
 | zero=>intro m hm;cases hm
 | succ k ih =>
  intro m hm;rw[Dw]at hm
  rcases O'.1 hm with hm|hm
  .exact ih m hm
  .split at hm
   .rw[D'.1 hm];exact⟨rfl,rfl⟩
   .cases hm
theorem AgI.ug(h:AgI σ M)(s:Stp D n M N):∃ τ ex,σ.le τ/\AgI τ N/\(∀ b s c,τ.W b s c->σ.W b s c\/ex=some (b,s))/\∀ b s,ex=some (b,s)->n=1/\s<40/\∃ i,i<5/\b=(M.ab i).bn.hZ/\(M.ab i).up=true/\s=(M.ab i).ae.length/\∀ c,τ.W b s c->(M.ab i).pd s=some c:=by
 have r:=h.gs;have done:∀ {i:Nat} {p:Nod} {G:List Let} {O:List Tol},NdI σ i p->(∀ l∈G,l∈M.br\/LtI σ l)->∃ τ ex,σ.le τ/\AgI τ (M.set i p G O)/\(∀ b s c,τ.W b s c->σ.W b s c\/ex=some (b,s))/\∀ b s,ex=some (b,s)->n=1/\s<40/\∃ i,i<5/\b=(M.ab i).bn.hZ/\(M.ab i).up=true/\s=(M.ab i).ae.length/\∀ c,τ.W b s c->(M.ab i).pd s=some c:=λ{i p G O} E f=>⟨σ,none,.refl σ,h.set (.refl _ σ) r E f O,λ_ _ _ h=>.inl h,λ_ _ e=>by cases e⟩;have same:∀ l∈M.br,l∈M.br\/LtI σ l:=λl f=>.inl f;have app:∀ {ms:List Let},(∀ m∈ms,LtI σ m)->∀ l∈M.br++ms,l∈M.br\/LtI σ l:=λg l f=>(O'.1 f).imp id (g l);cases s with
 | take _ l f hd hu _=>exact done ((h.nd _ hd.2).take r hu (h.lt l f) hd.1) same
 | br _ G f _=>exact⟨σ,none,.refl σ,⟨r,h.nd,λl g=>h.lt l (f l g)⟩,λ_ _ _ h=>.inl h,λ_ _ e=>by cases e⟩
 | one _ i c hi hu hc he =>
  refine done ?_ same;obtain⟨rs,k⟩:=(h.nd i hi).up hu;have Q:=Dt { M.ab i with ln:=doS (M.ab i).ln c,done:=(M.ab i).done+1 } c;refine NdI.mk' (Q.1.trans hu) (rs:=rs) ?_ (by rw[Q.2.1];exact(h.nd i hi).ag);unfold Nod.fv;split<;>exact k.lr rfl rfl rfl k.rd rfl λx a=>.inl a
 | ask _ i hi hu =>
  obtain⟨rs,k⟩:=(h.nd i hi).up hu;have z:=(h.nd i hi).ag;have C:=(Iy (M.ab i) i).trans hu;generalize E:M.ab i=p at k z C ⊢;refine done (NdI.mk' (rs:=rs) C ?_ ?_) (app ?_)
  .unfold Nod.ib;split
   .exact k.lr rfl rfl rfl k.rd rfl λx a=>.inl a
   .split
    .exact(FG (p:={ p with cl:=(Bd p.vo.p p.cl (p.au.take 40)).2 }) (k.lr rfl rfl rfl k.rd rfl λx a=>.inl a) _).1
    .exact k.lr rfl rfl rfl k.rd rfl λx a=>.inl a
  .unfold Nod.ib;split
   .exact z
   .split
    .show AgL σ (Nod.eo _ _).ae 0;rw[(FG (p:={ p with cl:=(Bd p.vo.p p.cl (p.au.take 40)).2 }) (k.lr rfl rfl rfl k.rd rfl λx a=>.inl a) _).2];exact z
    .exact z
  .intro m u;unfold Nod.ib at u;split at u
   .cases u
   .split at u
    .cases u
    .rw[D'.1 u];exact LtI.none rfl
 | prop _ i hi hu =>
  obtain⟨τ,ex,o,w,V,X,H⟩:=(h.nd i hi).dc r hu;exact⟨τ,ex,o.le,h.set o w V (λl f=>.inl f) _,X,λb s e=>⟨rfl,(H b s e).1,i,hi,(H b s e).2.1,hu,(H b s e).2.2⟩⟩
 | sC _ i hi hu hlt I =>
  obtain⟨rs,k⟩:=(h.nd i hi).up hu;obtain⟨x,a⟩:=k.tp.pre;have w:=r.ext (i:=i) x (by rw[a];exact k.tp.ok) λv t=>k.sN v (by rw[<- a];exact nc _ t);have o:=Pv σ i x;refine⟨σ.ext i x,none,o.le,h.set o w (NdI.mk' (p:={ M.ab i with sy:=((M.ab i).d.length:Int) }) (rs:=rs) hu ⟨?_,λv t=>o.le.sN (k.sN v t),k.rd.mono o.le w λs c J=>k.rd.next s c J,k.bp,λq F=>(k.pe q F).mono o.le w (ng _) k.tp.ok (nf _)⟩ ((h.nd i hi).ag.mono o.le)) (λl f=>.inl f) _,λ_ _ _ h=>.inl h,λ_ _ e=>by cases e⟩;rw[Ie,a];exact k.tp.sC
 | run _ i hi hu q l E hs =>
  have g:=(h.nd i hi).run r hi hu E hs;exact done g.1 (app g.2)
 | rN _ i hi hu hL =>
  obtain⟨rs,k⟩:=(h.nd i hi).up hu;refine done (NdI.mk' (rs:=rs) hu (k.lr rfl rfl rfl ⟨k.rd.hZ,k.rd.next,k.rd.own,k.rd.an,k.rd.prom,k.rd.acc⟩ rfl λx a=>.inl a) (h.nd i hi).ag) (app λm u=>?_);obtain⟨T,U⟩:=JZ 5 m u;exact LtI.news T (by rw[U];exact(h.nd i hi).ag.drop _)
 | lead _ i hi hu _=>exact done ((h.nd i hi).lead r hi hu) same
 | sub _ i d hi hu P =>
  obtain⟨rs,k⟩:=(h.nd i hi).up hu;have z:=(h.nd i hi).ag;refine done ?_ same;unfold Nod.sg Nod.sE;split
  .exact h.nd i hi
  .split
   .exact NdI.mk' (rs:=rs) hu (k.lr rfl rfl rfl k.rd rfl λx a=>.inl a) z
   .split
    .exact h.nd i hi
    .show NdI σ i (Nod.want _ _);unfold Nod.want;split
     .exact h.nd i hi
     .exact NdI.mk' (rs:=rs) hu (k.lr rfl rfl rfl k.rd rfl λx a=>.inl a) z
 | ie _ i c hi hu hc _ =>
  obtain⟨rs,k⟩:=(h.nd i hi).up hu;obtain⟨S,⟨x,a⟩,⟨y,R⟩,P⟩:=k.tp.ie hc;have w:=r.ext (i:=i) x (k.tp.ok.pre ⟨y,by rw[a];exact R⟩) λv t=>k.sN v (by rw[<- R,<- a];exact nh _ (nc _ t));have o:=Pv σ i x;have A:=I4 (p:=M.ab i) k.tp.td hc;exact⟨σ.ext i x,none,o.le,h.set o w ⟨λe=>(by rw[A.2.1]at e;cases e),λ_=>(by rw[Ie,a];exact P),by rw[A.2.2.2];exact AgL.nil _ _⟩ (λl f=>.inl f) _,λ_ _ _ h=>.inl h,λ_ _ e=>by cases e⟩
 | start _ i hi hu _ =>
  have k:=(h.nd i hi).dn hu;have I:AV (M.ab i).d (M.ab i).sy:=⟨k.len,by rw[k.sy];omega,by rw[k.sy];omega⟩;have B:=GM (p:=M.ab i) I;have L:=k.start;have K:(M.ab i).start.bn=eZ/\(M.ab i).start.bw=[.start]:=by
   unfold Nod.start;rw[if_neg (λe=>e (if_pos I))];split<;>exact⟨rfl,rfl⟩
  refine done (NdI.mk' (rs:=σ.dr i) B.2.1 ⟨L,λv t=>r.hv i v t,?_,?_,λq F=>?_⟩ (by rw[B.2.2.2];exact AgL.nil _ _)) same
  .rw[K.1];exact⟨.inl rfl,λs c J=>absurd (r.w2 _ _ _ J).1 (by decide),λj _ e=>(by cases e),λj _ v t=>(by cases t),λj _ e=>(by cases e),λj _=>⟨KZ,λe=>(by cases e)⟩⟩
  .rw[K.1,L.vo];have Y:=L.ok.acc.1;show(0:Int)<=_;unfold Ap Ac at Y;unfold Bal.key;omega
  .rw[K.2]at F
   rw[D'.1 F];trivial
theorem AgI.step(h:AgI σ M)(s:Stp D n M N):∃ τ ex,σ.le τ/\AgI τ N/\(∀ b s c,τ.W b s c->σ.W b s c\/ex=some (b,s))/\∀ b s,ex=some (b,s)->n=1/\s<40/\∃ i,i<5/\b=(M.ab i).bn.hZ:=by
 obtain⟨τ,ex,a,d,f,g⟩:=h.ug s;exact⟨τ,ex,a,d,f,λb s e=>by
  obtain⟨j,k,i,l,m,_⟩:=g b s e;exact⟨j,k,i,l,m⟩⟩
theorem AgI.steps(s:Sts D n M N){σ:Gs}(h:AgI σ M):∃ (τ:Gs) (ex:List (Bal × Nat)),σ.le τ/\AgI τ N/\ex.length<=n/\∀ b s c,τ.W b s c->σ.W b s c\/(b,s)∈ex:=by
 induction s with
 | nil=>exact⟨σ,[],.refl σ,h,nM _,λ_ _ _ h=>.inl h⟩
 | snoc _ s hm ih =>
  obtain⟨τ,ex,a,l,o,i⟩:=ih h;obtain⟨υ,k,d,f,j,m⟩:=l.step s;cases k with
  | none=>exact⟨υ,ex,a.trans d,f,by omega,λb s c g=>(j b s c g).elim (i b s c) λe=>by cases e⟩
  | some x=>exact⟨υ,x::ex,a.trans d,f,by have:=(m x.1 x.2 rfl).1;rw[nQ];omega,λb s c g=>(j b s c g).elim (λg=>(i b s c g).imp id (I' _)) λe=>.inr (by cases e;exact M')⟩
theorem AgI.zero:AgI ⟨λ_=>[],λ_ _ _=>False⟩ Ag :=
 ⟨⟨λ_=>AU.nil,⟨λn s b c ⟨v,g,_⟩=>(by cases g),λn k s b c h ⟨v,g,_⟩=>(by cases g),λn s b c ⟨v,g,_⟩=>(by cases g)⟩,λ_ _ _ _ g=>g.elim,λ_ _ _ g=>g.elim,λ_ _ _ g=>g.elim,λn v g=>(by cases g)⟩,
  λi _=>NdI.mk' (rs:=[]) rfl ⟨TpU.zero,λv g=>(by cases g),⟨.inl rfl,λ_ _ g=>g.elim,λj _ e=>(by cases e),λj _ v f=>(by cases f),λj _ e=>(by cases e),λj _=>⟨KZ,λe=>(by cases e)⟩⟩,nf _,λq d=>(by cases d)⟩ (AgL.nil _ _),λl a=>by cases a⟩
theorem agree{K:List Lac}(k:∀ x∈L++K,LacOk x)(q:(L++K).length<=100000){i j:Nat}(o:i<5)(p:j<5){s:Nat}{c d:Cmd}(m:((Ag.cF L).ab i).ae[s]?=some c)(n:((Ag.cF (L++K)).ab j).ae[s]?=some d):c=d:=by
 rw[E']at q
 have a:∀ x∈L,LacOk x:=λx b=>k x (nh _ b);have r:Sts whT L.length Ag (Ag.cF L):=Cw L MOk.zero (by omega) λx b=>⟨a x b,Gd x⟩;have t:Sts whT K.length (Ag.cF L) (Ag.cF (L++K)):=by
  rw[At];exact Cw K (Fl L a (by omega)) (by omega) λx b=>⟨k x (nc _ b),Gd x⟩
 obtain⟨σ,_,_,g,_⟩:=AgI.zero.steps r;obtain⟨τ,_,l,h,_⟩:=g.steps t;have e:=l.tM ((g.nd i o).ag s c m);have f:=(h.nd j p).ag s d n;obtain⟨u,e⟩:=e;obtain⟨v,f⟩:=f;exact h.gs.tj.agree e f
end
end
end Go.Proofs.YtngmpodijpelnaaGreatDoor
