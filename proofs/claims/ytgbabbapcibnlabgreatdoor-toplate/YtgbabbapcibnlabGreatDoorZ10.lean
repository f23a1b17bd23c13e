/- Part 10 of the walk. -/
import Derived.Laws.IdiomCopy
import Derived.Lib.LazyBuf
import Derived.Test.YtgbabbapcibnlabGreatDoorZ9
set_option maxRecDepth 100000
set_option maxHeartbeats 4000000
open Go.Proofs.Tryz
set_option linter.unusedVariables false
namespace Go.Proofs.YtgbabbapcibnlabGreatDoor
section
def pick(n many:Int):Int:=if n<0 then(-(n+1))%many else n%many
theorem Be(n a:Int)(b:0<a):0<=pick n a/\pick n a<a:=by
 unfold pick;split
 .exact⟨qf _ (by omega),pM _ b⟩
 .exact⟨qf _ (by omega),pM _ b⟩
def wK(a:Int):Int:=1+pick a 5/2
def wV(a e:Int):Int:=if wK a=1 then pick e 1000 else 0
theorem aW(a:Int):1<=wK a/\wK a<=3:=by
 have:=Be a 5 (by omega);unfold wK;omega
theorem aX(a e:Int):0<=wV a e/\wV a e<=1000:=by
 have:=Be e 1000 (by omega);unfold wV;split<;>omega
theorem eX(a d e:Int)(b c:Int)(i:0<=b/\b<=7)(j:0<=c/\c<=1048576):Bm (wK a) b c (pick d 4) (wV a e)=0:=by
 have f:=aW a;have g:=Be d 4 (by omega);have h:=aX a e;refine TI f (by unfold InC;omega) ?_;unfold wV;split
 .exact .inl (by assumption)
 .exact .inr rfl
def I64(n:Int):Prop:=-9223372036854775808<=n/\n<=9223372036854775807
end
section
open Go.RowKit
section
variable{P:Program}{W w:World}{a:Option Addr}{b cap i:Nat}{cur:Array Value}{k:S3}{l:List Int}{n:Int}{t:TypeId}{v:Value}{x y:Operand}
theorem kf(a:Int)(h:-9223372036854775808<=-a/\-a<=9223372036854775807):(Op.unary .neg (iv a)).run P W=.ok (iv (-a)) W:=by
 simp[go_sem];rw[IntKind.wrap_i64];omega
theorem Ur(a b:Int)(i:P.underlying 3=some (.int .i64))(f:0<=a)(g:a<=9223372036854775807)(j:0<b)(h:b<=9223372036854775807):(do Go.eqGuard .rem 3 x y (iv a) (iv b);Go.binOp .rem 3 (iv a) (iv b):Sem Value).run P W=.ok (iv (a%b)) W:=by
 have e:=kg (P:=P) (W:=W) (x:=x) (y:=y) a.toNat b.toNat i (by omega) (by omega) (by omega);have c:((a.toNat:Nat):Int)=a:=oz f;have d:((b.toNat:Nat):Int)=b:=oz (by omega);rw[c,d]at e
 rw[e,pX,c,d]
theorem fE(a:Int)(e:P.underlying 3=some (.int .i64))(b:0<=a)(c:a<=1000):(do Go.eqGuard .quo 3 x y (iv a) (iv 2);Go.binOp .quo 3 (iv a) (iv 2):Sem Value).run P W=.ok (iv (a/2)) W:=by
 have d:a.tdiv 2=a/2:=pK b;simp only[Go.eqGuard,go_sem,Op.intDiv];simp[d];rw[IntKind.wrap_i64];omega
theorem AT(h:I64 n)(a:Int)(d:0<a:=by decide)(b:a<=9223372036854775807:=by decide) :
  Calls prog 10 #[iv n,iv a] w λe w'=>e=.returned (iv (pick n a))/\Bw w w':=by
 unfold I64 at h;refine tIn [] func10 trivial (tR 10 [] λf _ _=>?_);by_cases c:n<0
 .refine tI ((decide (n<0))) true (O' c) (tR 2 [] λg _ _=>tV 1 (iv (n+1)) (λF C=>(AK 7 n underlying3 (by omega))) (tV 2 (iv (-(n+1))) (λF C=>(kf (n+1) (by omega))) (tR 6 [] λi _ _=>tV 2 (iv (-(n+1)%a)) (λF C=>(Ur (x:=(.tmp 10)) (y:=(.tmp 11)) (-(n+1)) a underlying3 (by omega) (by omega) d b)) (tR 2 [] λj _ _=>tE (iv (-(n+1)%a)) λ_ B=>⟨by rw[show pick n a=_ from if_pos c],B⟩))))
 .refine tI ((decide (n<0))) false (E' c) (tR 5 [] λk _ _=>tV 2 (iv (n%a)) (λF C=>(Ur (x:=(.tmp 10)) (y:=(.tmp 11)) n a underlying3 (by omega) (by omega) d b)) (tR 2 [] λl _ _=>tE (iv (n%a)) λ_ B=>⟨by rw[show pick n a=_ from if_neg c],B⟩))
theorem Cf(h:I64 n)(a:Int)(c:0<a:=by decide)(b:a<=9223372036854775807:=by decide) :
  Calls prog 4 #[iv n,iv a] w λe w'=>e=.returned (iv (pick n a))/\Bw w w':=by
 refine tIn [] func4 trivial (tR 8 [] λd _ _=>tC1 2 (λF C=>AT h a c b) λ_=>tR 2 [] λf _ _=>tE (iv (pick n a)) λ_ B=>⟨rfl,B⟩)
theorem Rn{k c s v:Int}(t:I64 k)(r:I64 c)(q:I64 s)(f:I64 n)(M:I64 v) :
  Calls prog 19 #[.agg #[iv k,iv c,iv s,iv n,iv v]] w λe w'=>e=.returned (.agg #[iv (wK k),iv (pick c 4),iv (pick s 6),iv (pick n 4),iv (wV k v)])/\Bw w w':=by
 have O:=Be k 5 (by omega);refine tIn [] func19 trivial (tR 15 [0,0,1,0,17,0,2,0,10,12,0,16,18,0,22,24,0] λa _ _=>IG 27 (λL K g=>∃ (b:Nat),L=[(1,pt (a 0) 0),(2,pt (a 1) 0),(3,pt b 0)]/\K=[⟨(a 0),.cells #[iv k,iv c,iv s,iv n,iv v] 57,.z,false⟩,⟨(a 1),.cells #[iv 0,iv 0,iv 0,iv 0,iv 0] 49,.l,false⟩,⟨b,.cells #[iv (wK k),iv (pick c 4),iv (pick s 6),iv (pick n 4),iv 0] 49,.l,false⟩]/\g=[]) (λJ d=>?_) ?_)
 .refine IH 2 15 ?_ ?_
  .refine tC 2 (λF C=>AT t 5) λN=>?_;rintro _ _ ⟨rfl,b⟩;refine⟨_,_,rfl,b,id,?_⟩;refine tT 3 (iv (pick k 5/2)) (λ_=>(fE (x:=(.tmp 6)) (y:=(.const (iv 2))) (pick k 5) underlying3 (by omega) (by omega))) (tT 4 (iv (wK k)) (λ_=>(Kp (x:=(.const (iv 1))) (y:=(.tmp 7)) 1 (pick k 5/2) underlying3 (by omega))) (IH 7 15 ?_ ?_))
   .refine tC1 7 (λF C=>AT r 4) λ_=>IH 10 15 ?_ ?_
    .refine tC1 10 (λF C=>AT q 6) λ_=>IH 13 15 ?_ ?_
     .refine tC1 13 (λF C=>AT f 4) λ_=>tR 4 [28,31,1,0,33,2,0] λh _ _=>tD d [true,true,true] ⟨(h 0),rfl,rfl,rfl⟩ (λF=>trivial)
     .refine tR 1 [1,0] λi _ _=>tC1 13 (λF C=>AT f 4) λ_=>tR 3 [28,33,2,0] λu _ _=>tD d [true,true,true] ⟨(i 0),rfl,rfl,rfl⟩ (λF=>trivial)
    .refine tR 1 [1,0] λj _ _=>tC1 10 (λF C=>AT q 6) λ_=>tC1 13 (λF C=>AT f 4) λ_=>tR 3 [28,33,2,0] λA _ _=>tD d [true,true,true] ⟨(j 0),rfl,rfl,rfl⟩ (λF=>trivial)
   .refine tR 1 [1,0] λm _ _=>tC1 7 (λF C=>AT r 4) λ_=>tC1 10 (λF C=>AT q 6) λ_=>tC1 13 (λF C=>AT f 4) λ_=>tR 3 [28,33,2,0] λB _ _=>tD d [true,true,true] ⟨(m 0),rfl,rfl,rfl⟩ (λF=>trivial)
  .refine tR 1 [1,0] λo _ _=>tC1 2 (λF C=>AT t 5) λ_=>tT 3 (iv (pick k 5/2)) (λ_=>(fE (x:=(.tmp 6)) (y:=(.const (iv 2))) (pick k 5) underlying3 (by omega) (by omega))) (tT 4 (iv (wK k)) (λ_=>(Kp (x:=(.const (iv 1))) (y:=(.tmp 7)) 1 (pick k 5/2) underlying3 (by omega))) (tC1 7 (λF C=>AT r 4) λ_=>tC1 10 (λF C=>AT q 6) λ_=>tC1 13 (λF C=>AT f 4) λ_=>tR 3 [28,33,2,0] λD _ _=>tD d [true,true,true] ⟨(o 0),rfl,rfl,rfl⟩ (λF=>trivial)))
 rintro _ _ _ ⟨b,rfl,rfl,rfl⟩ _ _ _;refine tR 7 [2] λE _ _=>?_;by_cases p:wK k=1
 .refine tI (((wK k)==1)) true (by simpa using p) (tR 3 [0] λG _ _=>tC1 2 (λF C=>AT M 1000) λ_=>tR 8 [2,0,2,1,0] λH _ _=>tX λF C=>qE1 2 49 1 (a 1) #[iv (wK k),iv (pick c 4),iv (pick s 6),iv (pick n 4),iv (pick v 1000)] λ_=>⟨by rw[show wV k v=_ from if_pos p],CgQ.af C⟩)
 .refine tI (((wK k)==1)) false (by simpa using p) (tR 6 [2,1,0] λI _ _=>tX λF C=>qE1 2 49 1 (a 1) #[iv (wK k),iv (pick c 4),iv (pick s 6),iv (pick n 4),iv 0] λ_=>⟨by rw[show wV k v=_ from if_neg p],CgQ.af C⟩)
theorem gQ(c:Int)(w:World)(f:0<=c)(n:c<=7)(h:AJ w) :
  Calls prog 39 #[.int .i64 c] w λe w'=>∃ v',e=.returned (.tuple #[v',.int .i64 0])/\w'.ownsRow w.heap.size 5 1 v' (Ji c).length ((Ji c).map (Value.int .u8))/\Bw w w':=by
 have l:decide (c<0)=false:=by simp;omega
 have m:decide ((7:Int)<c)=false:=by simp;omega
 have o:IntKind.u8.wrap c=c:=by rw[show IntKind.u8.wrap c=c%256 from rfl];omega
 have p:=Go.Joins.run_convert_bytes_const_at (P:=prog) (w.alloc (.cells #[.int .u8 c] 5)) 24 5 #[.int .u8 99,.int .u8 108,.int .u8 105,.int .u8 101,.int .u8 110,.int .u8 116] 6 6 (w.heap.size+1) (by simp) underlying24 underlying5;go_enter func39,ntmps39
 go_wp2_with fail
 have s0:Sl (w.alloc (.cells #[.int .u8 c] 5)) (.slice (some ⟨w.heap.size,0,none⟩) 1 1) [c]:=Sl.one w c 5 rfl ⟨f,by omega⟩;have b0:Bw w (w.alloc (.cells #[.int .u8 c] 5)):=(Below.refl _ _).alloc (A' _) _;have j:=Sl.sI (w.alloc (.cells #[.int .u8 c] 5)) [99,108,105,101,110,116] 5 (6,7) (g:=w.heap.size+1) (by simp) rfl (by simp);have a:Bw w ((w.alloc (.cells #[.int .u8 c] 5)).alloc (.cells #[.int .u8 99,.int .u8 108,.int .u8 105,.int .u8 101,.int .u8 110,.int .u8 116] 5 (6,7))):=b0.alloc (by simp) _;have b:=s0.af ((Below.refl (w.alloc (.cells #[.int .u8 c] 5)).heap.size _).alloc (A' _) (.cells #[.int .u8 99,.int .u8 108,.int .u8 105,.int .u8 101,.int .u8 110,.int .u8 116] 5 (6,7)));refine(T7 _ _ _ [c] [99,108,105,101,110,116] [] 32 _ b j (Sl.nil _ _) (by simp) (by simp) (by simp) (by omega) (h.af a)).mono ?_;rintro e q ⟨k,rfl,i,d⟩;go_wp2
 go_ret2
 exact⟨k,rfl,Ca i a.size,a.trans (d.mono a.size)⟩
theorem gP(c:Int)(w:World)(h:c<0\/7<c) :
  Calls prog 39 #[.int .i64 c] w λe w'=>e=.returned (.tuple #[.slice none 0 0,.int .i64 2])/\w'=w:=by
 by_cases b:c<0
 .have d0:decide (c<0)=true:=by simp;omega
  go_enter func39,ntmps39
  go_wp2
  go_ret2
  exact⟨rfl,rfl⟩
 .have d0:decide (c<0)=false:=by simp;omega
  have a:decide ((7:Int)<c)=true:=by simp;omega
  go_enter func39,ntmps39
  go_wp2
  go_ret2
  exact⟨rfl,rfl⟩
theorem So(w:World)(d:AJ w) :
  Calls prog 37 #[] w λe w'=>∃ v',e=.returned v'/\w'.ownsRow w.heap.size 5 1 v' F6.length (F6.map (Value.int .u8))/\Bw w w':=by
 have j:=Go.Joins.run_convert_bytes_const_at (P:=prog) (w.alloc (.cells #[.int .u8 255] 5)) 24 5 #[.int .u8 105,.int .u8 115,.int .u8 115,.int .u8 117,.int .u8 101,.int .u8 114] 6 6 (w.heap.size+1) (by simp) underlying24 underlying5;go_enter func37,ntmps37
 go_wp2_with fail
 have s0:Sl (w.alloc (.cells #[.int .u8 255] 5)) (.slice (some ⟨w.heap.size,0,none⟩) 1 1) [255]:=Sl.one w 255 5 rfl ⟨by omega,by omega⟩;have b0:Bw w (w.alloc (.cells #[.int .u8 255] 5)):=(Below.refl _ _).alloc (A' _) _;have h:=Sl.sI (w.alloc (.cells #[.int .u8 255] 5)) [105,115,115,117,101,114] 5 (6,7) (g:=w.heap.size+1) (by simp) rfl (by simp);have a:Bw w ((w.alloc (.cells #[.int .u8 255] 5)).alloc (.cells #[.int .u8 105,.int .u8 115,.int .u8 115,.int .u8 117,.int .u8 101,.int .u8 114] 5 (6,7))):=b0.alloc (by simp) _;have b:=s0.af ((Below.refl (w.alloc (.cells #[.int .u8 255] 5)).heap.size _).alloc (A' _) (.cells #[.int .u8 105,.int .u8 115,.int .u8 115,.int .u8 117,.int .u8 101,.int .u8 114] 5 (6,7)));refine(T7 _ _ _ [255] [105,115,115,117,101,114] [] 32 _ b h (Sl.nil _ _) (by simp) (by simp) (by simp) (by omega) (d.af a)).mono ?_;rintro e k ⟨i,rfl,f,c⟩;go_wp2
 go_ret;exact⟨i,rfl,Ca f a.size,a.trans (c.mono a.size)⟩
theorem jA{B:Nat}{g:Gh}{L:List Sh}(h:Kn B g w L)(k b:Nat)(a:Array Value)(e:TypeId)(t:Tg)(v:Bool)(c:L[k]?=some ⟨b,.cells a e,t,v⟩):w.heap[b]?=some (.cells a e):=(h.row _ (mG c)).1
theorem jZ{ts:Array TypeId}{a b d:Int}(h:(if b<a then b else a)=d):(Builtin.min_ ts t #[iv a,iv b]).run P W=.ok (iv d) W:=by subst h;exact run_min_int2 _ _ _ _ _ _ _
theorem kq(h:0<=n/\n<1073741824):(do Go.eqGuard .sub 3 x y (iv n) (iv (n+1-8));Go.binOp .sub 3 (iv n) (iv (n+1-8)):Sem Value).run prog W=.ok (iv 7) W:=by
 rw[Zt n (n+1-8) underlying3 (by omega),show n-(n+1-8)=7 by omega]
theorem l8(h:i<8):i=0\/i=1\/i=2\/i=3\/i=4\/i=5\/i=6\/i=7:=by omega
theorem lI(h:i<8):(Instr.index 87 (.agg #[.bool false,.bool false,.bool false,.bool false,.bool false,.bool false,.bool false,.bool false]) (iv (i:Int))).run prog W=.ok (.bool false) W:=by
 rcases l8 h with rfl|rfl|rfl|rfl|rfl|rfl|rfl|rfl<;>kernel_rfl
theorem La(h:0<=n/\n<=1073741824) :
  Calls prog 148 #[iv n] w λe w'=>e=.returned (.bool true)/\Bw w w':=by
 refine tIn [] func148 trivial (tR 7 [] λa _ _=>tV 1 (.bool true) (λF C=>(rGe (t:=3) (m:=n) (n:=0) (x:=(.tmp 3)) (y:=(.const (iv 0))) (O' h.1))) (tR 6 [] λb _ _=>tE (.bool (decide (n<=1073741824))) λ_ B=>⟨by rw[O' h.2],B⟩))
theorem Mv :
  Calls prog 149 #[.agg #[S3.v k,iv n,iv 0,.bool false,.bool false,.bool false,.bool false,.bool false,.bool false,.bool false,.bool false]] w λe w'=>e=.returned (.agg #[iv 0,.bool false,.bool false,.bool false,.bool false,.bool false,.bool false,.bool false,.bool false])/\Bw w w':=by
 refine tIn [] func149 trivial (tR 14 [0,0,1,0,0,0,1,0] λa _ _=>tX λF C=>qE1 2 228 1 (a 1) #[iv 0,.bool false,.bool false,.bool false,.bool false,.bool false,.bool false,.bool false,.bool false] λ_=>⟨rfl,CgQ.af C⟩)
theorem V7{t:Int}{b0 b1 b2 b3 b4 b5 b6 b7:Bool}(h:0<=t/\t<=1073741824) :
  Calls prog 174 #[.agg #[iv t,.bool b0,.bool b1,.bool b2,.bool b3,.bool b4,.bool b5,.bool b6,.bool b7]] w λe w'=>e=.returned (iv (t-8))/\Bw w w':=by
 refine tIn [] func174 trivial (tR 9 [0,0,0] λa _ _=>tV 2 (iv (t-8)) (λF C=>(Zt (x:=(.tmp 4)) (y:=(.const (iv 8))) t 8 underlying3 (by omega))) (tR 2 [] λb _ _=>tE (iv (t-8)) λ_ B=>⟨rfl,B⟩))
theorem YK :
  Calls prog 150 #[.agg #[iv 0,.bool false,.bool false,.bool false,.bool false,.bool false,.bool false,.bool false,.bool false]] w λe w'=>e=.returned (.bool true)/\Bw w w':=by
 refine tIn [] func150 trivial (tR 13 [0,0,0] λa _ _=>Dx 28 [(1,pt (a 0) 0),(6,.agg #[.bool false,.bool false,.bool false,.bool false,.bool false,.bool false,.bool false,.bool false]),(7,iv 0)] [true] [⟨(a 0),.cells #[iv 0,.bool false,.bool false,.bool false,.bool false,.bool false,.bool false,.bool false,.bool false] 228,.z,false⟩] [] (λh d c b=>∃ (i:Nat),h=8-i/\d=[(1,pt (a 0) 0),(6,.agg #[.bool false,.bool false,.bool false,.bool false,.bool false,.bool false,.bool false,.bool false]),(7,iv (i:Int))]/\c=[⟨(a 0),.cells #[iv 0,.bool false,.bool false,.bool false,.bool false,.bool false,.bool false,.bool false,.bool false] 228,.z,false⟩]/\b=[]/\i<=8) (8) ⟨0,rfl,rfl,rfl,rfl,by omega⟩ (λF=>F) ?_);rintro k _ _ _ ⟨i,rfl,rfl,rfl,rfl,p⟩ _ _ _ J g;refine tR 5 [] λj _ _=>?_;by_cases f:i<8
 .refine tI ((decide ((i:Int)<8))) true (O' (by omega)) (tR 6 [] λl _ _=>tV 1 (.bool false) (λF C=>(lI f)) (tR 18 [] λm _ _=>tV 0 (iv ((i:Int)+1)) (λF C=>(AK 7 (i:Int) underlying3 (by omega))) (tR 2 [] λn _ _=>tB g (8-(i+1)) (by omega) [true] ⟨i+1,rfl,rfl,rfl,rfl,by omega⟩ (λF=>F))))
 .refine tI ((decide ((i:Int)<8))) false (E' (by omega)) (tR 13 [0] λo _ _=>tE (.bool true) λ_ B=>⟨rfl,B⟩)
theorem NF(b:k.n=32)(c:0<=n/\n<=1073741824) :
  Calls prog 118 #[.agg #[S3.v k,iv n,iv 0,.bool false,.bool false,.bool false,.bool false,.bool false,.bool false,.bool false,.bool false]] w λe w'=>e=.returned (iv 0)/\Bw w w':=by
 refine tIn [] func118 trivial (tR 11 [0,0,0] λd _ _=>tV 3 (.bool false) (λF C=>(H6 (t:=3) (m:=(k.n:Int)) (n:=32) (x:=(.tmp 5)) (y:=(.const (iv 32))) (by rw[b];rfl))) (tR 3 [0] λf _ _=>tC1 7 (λF C=>La c) λ_=>tR 5 [0] λg _ _=>tC1 13 (λF C=>La (n:=0) (by omega)) λ_=>tR 4 [0] λh _ _=>tC1 18 (λF C=>Mv (k:=k) (n:=n)) λ_=>tC1 19 (λF C=>YK) λ_=>tR 9 [] λa _ _=>tE (iv 0) λ_ B=>⟨rfl,B⟩))
theorem Yt(h:0<=n) :
  Calls prog 197 #[.agg #[iv 0,.bool false,.bool false,.bool false,.bool false,.bool false,.bool false,.bool false,.bool false],iv n] w λe w'=>e=.returned (.bool false)/\Bw w w':=by
 refine tIn [] func197 trivial (tR 13 [0,0,0] λa _ _=>tI ((decide (0<=n))) true (O' h) (tR 4 [] λb _ _=>tE (.bool false) λ_ B=>⟨rfl,B⟩))
theorem Sj:(prog.info? 4).map (·.size)=some 1:=by kernel_rfl
theorem iM(w:World):(Go.sizeOf 4).run prog w=.ok 1 w:=by
 have h:=Sj;cases hi:prog.info? 4 with
 | none=>rw[hi]at h;cases h
 | some i =>
  rw[hi]at h
  simp only[mZ,Y']at h;simp[sizeOf,typeInfo,hi,h]
theorem Xe(B d:Nat)(b:d<=8):∃ ad,(∀ W,(Instr.sliceAt 87 (.pointer (some ⟨B,1,none⟩)) (some (.int .i64 (d:Int))) none none).run prog W=.ok (.slice (some ad) (8-d) (8-d)) W)/\(0<8-d->ad=⟨B,1+d,none⟩):=by
 refine⟨if 8=d then⟨B,1,none⟩else(⟨B,1,none⟩:Addr).add (d*1),λW=>?_,λh=>?_⟩
 .have e1:prog.arrayLen 87=8:=by kernel_rfl
  have a:prog.elem 87=4:=by kernel_rfl
  rw[run_sliceAt_array_l (P:=prog) W 87 _ underlying87 .i64 _ (by omega) (by rw[e1];omega),e1,a,iM];simp[Result.andThen,slicedAt]
 .rw[if_neg (by omega),Nat.mul_one];exact Addr.add_mid B 1 d
theorem Ph{j:Nat}(d:w.heap[b]?=some (.cells cur t))(a:cur[j]?=some v):w.setCell ⟨b,j,none⟩ v=w:=by
 have f:cur.setIfInBounds j v=cur:=by
  apply nK;intro i;rw[pF];split
  .rename_i e;subst e;rw[a,if_pos (U'.1 a).1]
  .rfl
 have c:(w.setCell ⟨b,j,none⟩ v).heap=w.heap:=by
  apply nK;intro i;unfold World.setCell;simp only[oJ];split
  .rename_i e;subst e;rw[d];simp[f]
  .rfl
 rw[show w.setCell ⟨b,j,none⟩ v={ w with heap:=(w.setCell ⟨b,j,none⟩ v).heap }from rfl,c]
theorem Na(a:w.heap[b]?=some (.cells cur t)){v:Value}(m o:Nat)(h:∀ j,j<m->cur[o+j]?=some v):w.setCells b o (List.replicate m v)=w:=by
 induction m generalizing o with
 | zero=>rfl
 | succ m ih =>
  rw[List.replicate_succ,World.setCells,Ph a (by simpa using h 0 (by omega))];exact ih (o+1) λj c=>by rw[m8,Nat.add_comm 1 j];exact h (j+1) (by omega)
theorem X6(i y A a:TypeId)(b o d f m s z k:Nat)(v:Value)(r:P.underlying i=some (.slice a))(E:(P.info? a).map (·.size)=some 1)(q:m<=k){e c:Array Value}{t G:TypeId}(n:w.heap[b]?=some (.cells e t))(p:w.heap[d]?=some (.cells c G))(x:∀ j,j<m->e[o+j]?=some v)(B:∀ j,j<m->c[f+j]?=some v)(F:v.oneCell'=true) :
  (Builtin.copy_ #[i,y] A #[.slice (some ⟨b,o,none⟩) k s,.slice (some ⟨d,f,none⟩) m z]).run P w=.ok (iv (m:Int)) w:=by
 have D:∀ {j u},(List.replicate m v)[j]?=some u->j<m/\u=v:=λh=>by
  have:=V'.1 h;obtain⟨l,C⟩:=this;exact⟨by simpa using l,by simpa using C.symm⟩
 have:=run_copy_cells (P:=P) w i y A a b o k s ⟨d,f,none⟩ m z (List.replicate m v) r E (by rw[nB];exact(nm q).symm) (λj u g=>by
  obtain⟨l,rfl⟩:=D g;have:(⟨d,f,none⟩:Addr).add j=⟨d,f+j,none⟩:=by unfold Addr.add;split<;>simp_all
  rw[this,cell_of_row _ _ _ _ _ _ p];exact B j l) (λj g=>by rw[cell_of_row _ _ _ _ _ _ n,x j (by simpa using g)];rfl) (λj g=>frozen_of_row _ _ _ _ _ n) (λu r=>by rw[List.eq_of_mem_replicate r];exact F)
 rw[Na n m o x]at this
 rw[this];simp[goInt]
theorem VZ(h:0<n/\n<=1073741824) :
  Calls prog 199 #[.agg #[iv 0,.bool false,.bool false,.bool false,.bool false,.bool false,.bool false,.bool false,.bool false],iv n] w λe w'=>e=.returned (.agg #[iv n,.bool false,.bool false,.bool false,.bool false,.bool false,.bool false,.bool false,.bool false])/\Bw w w':=by
 obtain⟨d,f,c⟩:∃ d:Nat,(if 8<n-0 then 8 else n-0)=(d:Int)/\d<=8:=⟨(if 8<n-0 then 8 else n-0).toNat,by split<;>omega,by split<;>omega⟩;refine tIn [] func199 trivial (tR 20 [0,0,1,0,1,0,2,0,10,0,2,4,6,8,10,0] λa _ _=>tT 6 (iv (n-0)) (λ_=>(Zt (x:=(.tmp 11)) (y:=(.tmp 13)) n 0 underlying3 (by omega))) (tT 7 (iv (d:Int)) (λ_=>(jZ (ts:=#[3,3]) (t:=3) f)) ?_));obtain⟨ad,i,b⟩:=Xe (a 0) d c;refine tT 8 (.slice (some ad) (8-d) (8-d)) (λ_=>(i _)) (tW 9 (iv ((8-d:Nat):Int)) (S:=Builtin.copy_ #[285,285] 3 #[.slice (some ⟨(a 2),1,none⟩) 8 8,.slice (some ad) (8-d) (8-d)]) (λF K=>?_) ?_)
 .by_cases e:d=8
  .subst e;exact run_copy_none _ _ _ _ 4 _ _ _ _ _ _ underlying285 Sj rfl
  .obtain rfl:=b (by omega);refine X6 _ _ _ 4 _ _ _ _ (8-d) _ _ _ (.bool false) underlying285 Sj (by omega) (jA K 2 (a 2) #[iv n,.bool false,.bool false,.bool false,.bool false,.bool false,.bool false,.bool false,.bool false] 228 .l true (by kernel_rfl)) (jA K 0 (a 0) #[iv 0,.bool false,.bool false,.bool false,.bool false,.bool false,.bool false,.bool false,.bool false] 228 .z true (by kernel_rfl)) (λj g=>?_) (λj g=>?_) rfl
   .rcases l8 (show j<8 by omega)with rfl|rfl|rfl|rfl|rfl|rfl|rfl|rfl<;>rfl
   .obtain⟨q,hq⟩:∃ q,q=1+d+j:=⟨_,rfl⟩;rw[<- hq];rcases(by omega:q=1\/q=2\/q=3\/q=4\/q=5\/q=6\/q=7\/q=8)with rfl|rfl|rfl|rfl|rfl|rfl|rfl|rfl<;>rfl
 refine tR 6 [2,1,0] λk _ _=>tX λF C=>qE1 4 228 1 (a 1) #[iv n,.bool false,.bool false,.bool false,.bool false,.bool false,.bool false,.bool false,.bool false] λ_=>⟨rfl,CgQ.af C⟩
theorem eV(h:0<=n/\n<1073741824) :
  Calls prog 182 #[.agg #[iv 0,.bool false,.bool false,.bool false,.bool false,.bool false,.bool false,.bool false,.bool false],iv n] w λe w'=>e=.returned (.agg #[iv (n+1),.bool false,.bool false,.bool false,.bool false,.bool false,.bool false,.bool false,.bool true])/\Bw w w':=by
 refine tIn [] func182 trivial (tR 13 [1,0,1,0,0] λa _ _=>tI ((decide (0<=n))) true (O' h.1) (tR 3 [0] λc _ _=>tV 2 (iv (n+1)) (λF C=>(AK 10 n underlying3 (by omega))) (tC 3 (λF C=>VZ (n:=n+1) ⟨by omega,by omega⟩) λb=>?_)));rintro _ _ ⟨rfl,b4⟩;refine⟨_,_,rfl,b4,id,?_⟩;refine tR 6 [0,0,0] λd _ _=>tC 2 (λF C=>V7 (t:=n+1) (b0:=false) (b1:=false) (b2:=false) (b3:=false) (b4:=false) (b5:=false) (b6:=false) (b7:=false) ⟨by omega,by omega⟩) λb=>?_;rintro _ _ ⟨rfl,b6⟩;refine⟨_,_,rfl,b6,id,?_⟩;refine tV 3 (iv 7) (λF C=>(kq (x:=(.tmp 13)) (y:=(.tmp 15)) h)) (tR 9 [0,0,0,1,0] λf _ _=>tX λF C=>qE1 4 228 1 (a 1) #[iv (n+1),.bool false,.bool false,.bool false,.bool false,.bool false,.bool false,.bool false,.bool true] λ_=>⟨rfl,CgQ.af C⟩)
theorem Sl.rI(w:World)(b a:Int)(e:TypeId){g:Nat}(f:g=w.heap.size)(c:0<=b/\b<256)(d:a=b):Sl (w.alloc (.cells #[.int .u8 a] e)) (.slice (some ⟨g,0,none⟩) 1 1) [b]:=by
 subst d;exact Sl.one w a e f c
theorem PR(a:Option Addr)(n c:Nat):∀ w,(binOp .eql 24 (.slice a n c) (.slice none 0 0)).run prog w=.ok (.bool a.isNone) w :=
 λw=>run_eql_slice_nil (P:=prog) w 24 5 a n c underlying24
theorem UW(v:Value)(l:List Int)(w:World)(h:Sl w v l) :
  Calls prog 80 #[v] w λe w'=>∃ v',e=.returned v'/\w'.ownsRow w.heap.size 5 1 v' l.length (l.map (Value.int .u8))/\Bw w w':=by
 have o:=h;have t:=h.len;obtain⟨⟨a,c,rfl,s,j,p⟩,q,r⟩:=h;cases a with
 | none =>
  obtain rfl:=j rfl;obtain rfl:l=[]:=Z' (by omega);have n:=PR none 0 0;go_enter func80,ntmps80
  go_wp2
  go_ret;exact⟨_,rfl,World.ownsRow_nil _ _ _ _,Below.refl _ _⟩
 | some ad =>
  have b:(w.alloc (.cells #[] 5)).ownsRow w.heap.size 5 1 (.slice (some ⟨w.heap.size,0,none⟩) 0 0) ([]:List Int).length (([]:List Int).map (Value.int .u8)):=by
   refine⟨rfl,.inr ⟨w.heap.size,0,#[],rfl,A' _,heap_alloc_new _ _,A' _,mH _,rfl,rfl⟩⟩
  have n:=PR (some ad) l.length c;have f:=o.af ((Below.refl w.heap.size w).alloc (A' _) (.cells #[] 5));go_enter func80,ntmps80
  go_wp2_with (at_builtin;refine Aa _ rfl _ _ 24 rfl w.heap.size 5 underlying24 Av _ _ rfl rfl [] l b f (by simp;omega) (by simp) ?_)
  intro v' w' m g;have d:Bw w w':=((Below.refl w.heap.size w).alloc (A' _) (.cells #[] 5)).grown g (by simp) (λk i=>(b.lt k i).1);go_wp2
  go_ret;exact⟨v',rfl,by simpa using m,d⟩
theorem Sc(n:Int)(w:World)(s:0<=n)(t:n<1073741824) :
  Calls prog 119 #[.int .i64 n] w λe w'=>∃ v',e=.returned v'/\w'.ownsRow w.heap.size 5 1 v' (Ad n).length ((Ad n).map (Value.int .u8))/\Bw w w':=by
 go_enter func119,ntmps119
 go_wp2_with fail
 go_loopw [3,4] (λv iv wr=>∃ j:Nat,j<=4/\iv=.int .i64 (3-(j:Int))/\wr.ownsRow w.heap.size 5 1 v ((Ad n).take j).length (((Ad n).take j).map (Value.int .u8))/\Bw w wr) (λ_ iv _=>(intOf iv+1).toNat)
 case atStart=>exact⟨0,by omega,rfl,World.ownsRow_nil _ _ _ _,Below.refl _ _⟩
 case round =>
  obtain⟨j,q,rfl,a,b⟩:=hrel;have f:=a.lt;have r:=b.size;by_cases p:j<4
  .have:j=0\/j=1\/j=2\/j=3:=by omega
   rcases this with rfl|rfl|rfl|rfl
   .rw[show(3:Int)-((0:Nat):Int)=3 from rfl];go_wp2_with (at_builtin;refine Aa _ rfl _ _ 24 rfl w.heap.size 5 underlying24 Av _ _ rfl rfl ((Ad n).take 0) [n/16777216%256] (a.alloc _) (Sl.rI _ (n/16777216%256) _ _ rfl (by omega) (by omega)) (by simp[Ad]) (by simp;omega) ?_)
    intro m i d c;have h:Bw w i:=(b.alloc (by omega) _).grown c (by simp;omega) (λk l=>(f k l).1);have g:Hid (i.ownsRow w.heap.size 5 1 m ((Ad n).take 1).length (((Ad n).take 1).map (Value.int .u8))):=d;clear d c a f b;go_wp2
    go_roundw
    case rel=>exact⟨1,by omega,rfl,g.out,h⟩
    case measure=>simp[intOf]
   .rw[show(3:Int)-((1:Nat):Int)=2 from rfl];go_wp2_with (at_builtin;refine Aa _ rfl _ _ 24 rfl w.heap.size 5 underlying24 Av _ _ rfl rfl ((Ad n).take 1) [n/65536%256] (a.alloc _) (Sl.rI _ (n/65536%256) _ _ rfl (by omega) (by omega)) (by simp[Ad]) (by simp;omega) ?_)
    intro m i d c;have h:Bw w i:=(b.alloc (by omega) _).grown c (by simp;omega) (λk l=>(f k l).1);have g:Hid (i.ownsRow w.heap.size 5 1 m ((Ad n).take 2).length (((Ad n).take 2).map (Value.int .u8))):=d;clear d c a f b;go_wp2
    go_roundw
    case rel=>exact⟨2,by omega,rfl,g.out,h⟩
    case measure=>simp[intOf]
   .rw[show(3:Int)-((2:Nat):Int)=1 from rfl];go_wp2_with (at_builtin;refine Aa _ rfl _ _ 24 rfl w.heap.size 5 underlying24 Av _ _ rfl rfl ((Ad n).take 2) [n/256%256] (a.alloc _) (Sl.rI _ (n/256%256) _ _ rfl (by omega) (by omega)) (by simp[Ad]) (by simp;omega) ?_)
    intro m i d c;have h:Bw w i:=(b.alloc (by omega) _).grown c (by simp;omega) (λk l=>(f k l).1);have g:Hid (i.ownsRow w.heap.size 5 1 m ((Ad n).take 3).length (((Ad n).take 3).map (Value.int .u8))):=d;clear d c a f b;go_wp2
    go_roundw
    case rel=>exact⟨3,by omega,rfl,g.out,h⟩
    case measure=>simp[intOf]
   .rw[show(3:Int)-((3:Nat):Int)=0 from rfl];go_wp2_with (at_builtin;refine Aa _ rfl _ _ 24 rfl w.heap.size 5 underlying24 Av _ _ rfl rfl ((Ad n).take 3) [n%256] (a.alloc _) (Sl.rI _ (n%256) _ _ rfl (by omega) (by omega)) (by simp[Ad]) (by simp;omega) ?_)
    intro m i d c;have h:Bw w i:=(b.alloc (by omega) _).grown c (by simp;omega) (λk l=>(f k l).1);have g:Hid (i.ownsRow w.heap.size 5 1 m ((Ad n).take 4).length (((Ad n).take 4).map (Value.int .u8))):=d;clear d c a f b;go_wp2
    go_roundw
    case rel=>exact⟨4,by omega,rfl,g.out,h⟩
    case measure=>simp[intOf]
  .obtain rfl:j=4:=by omega
   rw[show(3:Int)-((4:Nat):Int)=-1 from rfl];have o:Hid _:=a;clear a f;go_wp2
   go_ret;exact⟨_,rfl,o.out,b⟩
theorem dx(x b:Int)(f:0<=x/\x<36028797018963968)(d:0<=b/\b<256):bits .or .i64 (x*256) b=x*256+b:=by
 obtain⟨x,rfl⟩:=mO f.1;obtain⟨y,rfl⟩:=mO d.1;have e:(x:Int)*256=((x*256:Nat):Int):=by omega
 have key:(BitVec.ofInt 64 ((x*256:Nat):Int) ||| BitVec.ofInt 64 (y:Int)).toNat=x*256+y:=by
  rw[qd,pc,pc];have a:((y:Int)%((2^64:Nat):Int)).toNat=y:=by omega
  have c:(((x*256:Nat):Int)%((2^64:Nat):Int)).toNat=2^8*x:=by omega
  rw[a,c,<- oL (by omega:y<2^8)];omega
 rw[e];show IntKind.i64.wrap ((BitVec.ofInt 64 ((x*256:Nat):Int) ||| BitVec.ofInt 64 (y:Int)).toNat:Nat)=_;rw[key,IntKind.wrap_i64];omega
def Ko(h:List Int):Nat->Int
 | 0=>0
 | k+1=>Ko h k*256+h.getD k 0
theorem SA{h:List Int}(a:∀ x∈h,0<=x/\x<256)(k:Nat):0<=Ko h k/\Ko h k<256^k:=by
 induction k with
 | zero=>simp[Ko]
 | succ k ih =>
  have:=Al a k;rw[Ko,pz];omega
theorem Sl.sJ{n:Nat}(h:Sl w (.slice a n cap) l)(k:Nat)(d:k<l.length):∃ bd od,a=some ⟨bd,od,none⟩/\bd<w.heap.size/\w.cell? ⟨bd,od+k,none⟩=some (.int .u8 (l.getD k 0)):=by
 obtain⟨⟨j,c,e,m,o,f⟩,i,g⟩:=h;simp only[Value.slice.injEq]at e;obtain⟨rfl,rfl,rfl⟩:=e;rcases f with rfl|⟨b,off,rfl,hb,hcell⟩
 .simp at d
 .exact⟨b,off,rfl,hb,hcell k d⟩
theorem OM(v:Value)(l:List Int)(w:World)(h:Sl w v l)(s:l.length=4) :
  Calls prog 196 #[v] w λe w'=>e=.returned (.int .i64 (MQ l))/\w'=w:=by
 have o:Hid (Ko l 4=MQ l):=by
  unfold Hid;show((((0:Int)*256+l.getD 0 0)*256+l.getD 1 0)*256+l.getD 2 0)*256+l.getD 3 0=_;unfold MQ;omega
 have m:Hid (∀ x∈l,0<=x/\x<256):=h.byte;have f:=h;obtain⟨a,c,rfl⟩:=h.shape;rw[s]at f ⊢
 go_enter func196,ntmps196
 go_wp2_with fail
 go_loopw [3,8] (λv iv wr=>∃ j:Nat,j<=4/\iv=.int .i64 (j:Int)/\v=.int .i64 (Ko l j)/\wr=w) (λ_ iv _=>(4-intOf iv).toNat)
 case atStart=>exact⟨0,by omega,rfl,rfl,rfl⟩
 case round =>
  obtain⟨j,u,rfl,rfl,rfl⟩:=hrel;by_cases r:j<4
  .have hii:(j:Int)<4:=by omega
   have g:=SA m.out j;have k:Ko l j<16777216:=by
    have:(256:Int)^j<=256^3:=by
     rcases(by omega:j=0\/j=1\/j=2\/j=3)with rfl|rfl|rfl|rfl<;>decide
    omega
   have n:=Al m.out j;obtain⟨t,od,rfl,p,q⟩:=f.sJ j (by omega);have b:=dx (Ko l j) (l.getD j 0) ⟨g.1,by omega⟩ n;have d:Hid (Ko l j*256+l.getD j 0=Ko l (j+1)):=rfl;have i:=g.1;clear g h f;generalize Ko l j=X at i k b d;generalize l.getD j 0=B at n q b d;go_wp2
   go_roundw
   case rel=>exact⟨j+1,by omega,by go_num,by rw[<- d.out],trivial⟩
   case measure=>simp[intOf];omega
  .obtain rfl:j=4:=by omega
   rw[show((4:Nat):Int)=4 from rfl,o.out];go_wp2
   go_ret;exact⟨rfl,rfl⟩
def MB:Array Value:=(List.replicate 12 (Value.int .u8 0)).toArray
theorem jH(w:World):(Instr.makeSlice 24 (.int .i64 8) (.int .i64 12)).run prog w=.ok (.slice (some ⟨w.heap.size,0,none⟩) 8 12) (w.alloc (.cells MB 5)):=by
 obtain⟨i,c,d,a,b⟩:=info_parts Av;rw[run_makeSlice (P:=prog) w 24 5 i (.int .u8 0) underlying24 c d .i64 .i64 8 12 (by omega) (by omega) (by rw[a];decide) (by rw[b];decide) (by omega),a];have e:madeCells (Value.int .u8 0).cells ((12:Int).toNat*1)=MB:=by kernel_rfl
 rw[e];rfl
theorem Qt(v:Value)(l:List Int)(w:World)(h:Sl w v l)(p:l.length=4) :
  Calls prog 121 #[v] w λe w'=>∃ v',e=.returned v'/\Sl w' v' (CJ l)/\Bw w w':=by
 have m:Hid (∀ x∈CJ l,0<=x/\x<256):=Qs h.byte;have g:Hid ((CJ l).length=12):=Hf p;have c:=jH w;have a:(w.alloc (.cells MB 5)).ownsRow w.heap.size 5 1 (.slice (some ⟨w.heap.size,0,none⟩) 8 12) (List.replicate 8 (0:Int)).length ((List.replicate 8 (0:Int)).map (Value.int .u8)) :=
  ⟨rfl,.inr ⟨w.heap.size,12,MB,rfl,A' _,heap_alloc_new _ _,by decide,by simp[maxLen],rfl,rfl⟩⟩
 have b0:Bw w (w.alloc (.cells MB 5)):=(Below.refl w.heap.size w).alloc (A' _) _;have b:=h.af b0;have f:w.heap.size<=(w.alloc (.cells MB 5)).heap.size:=b0.size;generalize w.alloc (.cells MB 5)=W at c a b0 b f;go_enter func121,ntmps121
 go_wp2_with (at_builtin;refine Aa _ rfl _ _ 24 rfl w.heap.size 5 underlying24 Av _ _ rfl rfl (List.replicate 8 0) l a b (by simp;omega) f ?_)
 intro v' w' j i;have d:Bw w w':=b0.grown i f (λk o=>(a.lt k o).1);have n:Hid (w'.ownsRow w.heap.size 5 1 v' (CJ l).length ((CJ l).map (Value.int .u8))):=by
  unfold Hid;rw[g.out];exact j
 clear j i a b c;go_wp2
 go_ret;exact⟨v',rfl,Sl.pd n.out (by rw[g.out];omega) m.out,d⟩
theorem Sl.first{n:Nat}(h:Sl w (.slice a n cap) l)(m:Nat)(o:m<=l.length)(r:0<m):Sl w (.slice (a.map (·.add 0)) m m) (l.take m):=by
 obtain⟨⟨q,d,e,s,t,f⟩,k,c⟩:=h;simp only[Value.slice.injEq]at e;obtain⟨rfl,rfl,rfl⟩:=e;have j:(l.take m).length=m:=by rw[X'];omega
 rcases f with rfl|⟨b,off,rfl,hb,hcell⟩
 .simp at o;omega
 .have hadd:(⟨b,off,none⟩:Addr).add 0=⟨b,off,none⟩:=by unfold Addr.add;simp
  refine⟨⟨some ⟨b,off,none⟩,m,by rw[j,mZ,hadd],by omega,by simp,.inr ⟨b,off,rfl,hb,λi g=>?_⟩⟩,by omega,λx p=>c x (mr p)⟩;rw[hcell i (by omega),AY (by omega),AY g];simp
theorem XB(a:Option Addr)(n b:Nat)(c:4<=b):∀ W,(Instr.slice 24 (.slice a n b) none (some (.int .i64 4)) (some (.int .i64 4))).run prog W=.ok (.slice (a.map (·.add 0)) 4 4) W:=by
 intro W;rw[run_slice_hm (P:=prog) W 24 a n b underlying24 .i64 .i64 4 4 (by omega) (by omega) (by omega)];have e:prog.elem 24=5:=by kernel_rfl
 rw[e,FJ];simp[Result.andThen,sliced]
end
section
variable{P:Program}{fn:Func}{R:Ending->World->Prop}{w0:World}{Φ:List Fa}{g:Gh}{w:World}
theorem lT{s:Xs}(r Z b n:Nat)(m:List Bool)(a:List Value)(e:TypeId)(J:Nat)(A:a.length=n*J)(S:∀ g',GT P fn R w0 (Fa.ow r e J ⟨some ⟨b,0,none⟩,n,n⟩ a::Φ) ⟨s.K,s.f,AF m s.L⟩ g' w)
  (V:n<=maxLen:=by decide)(E:Tg.n 60 r∈TQ:=by simp[TQ])(G:Φ.all (λf=>f.ro != some r)=true:=by rfl)(X:s.L[Z]?=some ⟨b,.cells a.toArray e,.n 60 r,true⟩:=by kernel_rfl)(v:(AF m s.L).all (λy=>[Tg.n 60 r].all λt=>y.t.ne t)=true:=by kernel_rfl):GT P fn R w0 Φ s g w:=by
 refine⟨λF C=>Ag λh=>?_⟩;obtain⟨H,o,_,p⟩:=h.row _ (mG X);have p:=p (by simp);have c:∀ B T,Tg.n 60 r∈T->Cg B T g w ⟨g.t,λd=>if d=b then a.length else g.k d⟩ w:=λB T v=>⟨rfl,rfl,rfl,A' _,λ_ _=>.inl rfl,λd _=>by
  show g.k d<=if d=b then a.length else g.k d;split
  .rename_i e;rw[e,p];exact mH _
  .exact A' _,λd _ j _=>if_neg λe=>j (by rw[e,o];exact v),λ_ _ _ _=>rfl,λ_ _ _ _=>rfl⟩
 have N:AllF ⟨g.t,λd=>if d=b then a.length else g.k d⟩ w Φ:=F.ch (c w0.heap.size [.n 60 r] (D'.2 rfl)) (by simp) λf Q q W U=>by
  have u:=ng.1 G f Q;rw[W]at u
  have M:q=r:=by simpa using U
  rw[M]at u
  simp at u
 have O:=(S ⟨g.t,λd=>if d=b then a.length else g.k d⟩).ex ⟨⟨A,.inr ⟨b,a.toArray,rfl,H,A' _,V,by simpa using A,by simp[<- A],o,if_pos rfl⟩⟩,N⟩ (C.trans (c _ _ E));refine⟨λ_=>O.ex ⟨λx i=>?_,h.rH.sublist (CA m s.L),λd j=>⟨(h.new d j).1,?_⟩,h.base⟩⟩
 .obtain⟨k1,k2,k3,k4⟩:=h.row x ((CA m s.L).subset i);refine⟨k1,k2,k3,λY=>?_⟩;have D:¬ x.g=b:=λe=>by
   have I:=ng.1 v x i;rw[e,o]at k2
   rw[<- k2]at I
   simp[Tg.ne]at I
  show(if x.g=b then a.length else g.k x.g)=0;rw[if_neg D];exact k4 Y
 .have:¬ d=b:=λe=>by have h7:b<w.heap.size:=rl H;omega
  show(if d=b then a.length else g.k d)=0;rw[if_neg this];exact(h.new d j).2
theorem i5{P:Program}{W:World}(t j e:TypeId)(i:TypeInfo)(g:P.underlying t=some (.slice e))(f:P.info? e=some i)(x y:S3)(d:x.n<=x.c)(h:y.n=0):(Builtin.append_ #[t,t] j #[x.v,y.v]).run P W=.ok x.v W:=by
 obtain⟨b,l,k⟩:=x;obtain⟨m,q,o⟩:=y;simp only at h d;subst h;show(Builtin.append_ #[t,t] j #[.slice b l k,.slice m 0 o]).run P W=.ok (.slice b l k) W;cases m with
 | none=>cases b<;>simp[Builtin.append_,run_underlying g,sizeOf,typeInfo,f,Builtin.lenOf,run_firstCells_none,d,storeCells]
 | some a =>
  have p:=run_firstCells_some (P:=P) W i.size 0 a 0 o [] (by simp) (by simp);cases b<;>simp[Builtin.append_,run_underlying g,sizeOf,typeInfo,f,Builtin.lenOf,run_firstCells_none,p,d,storeCells]
theorem fH{s:Xs}(i:Nat)(r:Nat){x:S3}{xs:List Value}(y:S3)(news:List Value)(t O e:TypeId)(q a:Nat)(z:Value)(M:AllF g w Φ->OwnS g w (.n 60 r) true e q x xs)(S:AllF g w Φ->RdV w y q news)(Ψ:List Fa)(E:AllF g w Φ->AllF g w Ψ)(J:Ψ.all (λf=>f.ro != some r)=true)(I:Tg.n 60 r∈TQ)
  (T:∀ u∈news,u.oneCell'=true)(B:x.n+y.n<=maxLen)(k:(x.n+y.n)*a<=140737488355328)
  (H:∀ x' g' w',x'.n=x.n+y.n->GT P fn R w0 (Fa.ow r e q x' (xs++news)::Ψ) (nxt s i (S3.v x') s.L).s g' w')(K:0<q:=by decide)
  (Q:P.underlying t=some (.slice e):=by kernel_rfl)(d:(P.info? e).map (λi=>(i.zero,i.size,i.bytes))=some (some z,q,a):=by kernel_rfl)(N:Nat.beq z.cells.size q=true:=by kernel_rfl)
  (p:Dw s i=some (Builtin.append_ #[t,t] O #[x.v,y.v]>>=λv=>pure (.value v)):=by kernel_rfl)(D:(nxt s i undef s.L).o.map Ob.l'=(nxt s i undef s.L).o.map Ob.r':=by kernel_rfl)(U:s.L.all (λy=>[Tg.n 60 r].all λt=>y.t.ne t)=true:=by kernel_rfl):GT P fn R w0 Φ s g w:=by
 refine tF λF C=>?_;have G:=S F;have V:x.n<=x.c:=by rcases(M F).ex with⟨_,h,h'⟩|⟨_,_,_,_,h,_⟩<;>omega
 by_cases A:y.n=0
 .obtain⟨inf,hi⟩:∃ inf,P.info? e=some inf:=by cases hh:P.info? e with|none=>rw[hh]at d;cases d|some j=>exact⟨j,rfl⟩
  obtain rfl:news=[]:=Z' (by rw[G.len,A,pO]);refine tV i x.v (λ_ _=>i5 t O e inf Q hi x y V A) ?_ p D;exact tCv (Fa.ow r e q x (xs++[])::Ψ) (λF=>⟨by rw[mz];exact M F,E F⟩) (H x g w (by omega))
 .obtain⟨b,off,ha,_,_⟩:=G.spot (i:=0) (by omega);obtain⟨X,m,c⟩:=y;simp only at ha A B k H p G;subst ha;refine Jx i r (x:=x) (xs:=xs) t O e q a z ⟨b,off,none⟩ m c news M Ψ E J I G.len T (λF _ j u W=>?_) B k H (Nat.pos_of_ne_zero A) K Q d N p D U;rcases(S F).ex with h2|⟨b2,off2,k1,k2,k3⟩
  .exact absurd h2 A
  .cases k1;have:(⟨b,off,none⟩:Addr).add j=⟨b,off+j,none⟩:=by unfold Addr.add;split<;>simp_all
   rw[this];exact k3 j u W
end
section
variable{A K N P R key l:List Int}{B:Nat}{k p u x y z:S3}{n:Int}{v:Value}{w:World}
theorem d8{e:Nat}(h:w.ownsRow B e 1 v l.length (l.map (Value.int .u8))):∃ y:S3,v=y.v/\OwN B w e 1 y (l.map (Value.int .u8)):=by
 rcases h.2 with⟨rfl,h0⟩|⟨g,cap,cur,rfl,h1,h2,h3⟩
 .exact⟨s30,rfl,by rw[mw,h0];rfl,.inl ⟨rfl,rfl,rfl⟩⟩
 .exact⟨⟨some ⟨g,0,none⟩,l.length,cap⟩,rfl,by simp,.inr ⟨g,cur,h1,rfl,h2,h3⟩⟩
theorem RdV.sl(h:RdV w y 1 (l.map (Value.int .u8)))(g:l.length<=140737488351232)(e:∀ x∈l,0<=x/\x<256):Sl w y.v l:=by
 have d:y.n=l.length:=by have:=h.len;simp at this;omega
 refine⟨⟨y.a,y.c,by rw[<- d],by rw[<- d];exact h.cap,h.rM,?_⟩,g,e⟩;rcases h.ex with h0|⟨b,off,h1,h2,h3⟩
 .exact .inl (Z' (by omega))
 .exact .inr ⟨b,off,h1,h2,λi f=>h3 i _ (by simp[f])⟩
theorem Sl.rdv(h:Sl w y.v l):RdV w y 1 (l.map (Value.int .u8)):=by
 have g:=EO h;obtain⟨⟨a,k,i,r,o,n⟩,s,q⟩:=h;simp only[S3.v,Value.slice.injEq]at i;obtain⟨d,p,m⟩:=i;refine⟨by simp[g],by omega,λe=>by rw[m];exact o (d▸e),?_⟩;rcases n with rfl|⟨b,off,h1,h2,h3⟩
 .exact .inl g
 .refine .inr ⟨b,off,d.trans h1,h2,λj u f=>?_⟩;have c:j<l.length:=by simpa using(V'.1 f).1
  rw[h3 j c,<- f];simp[c]
theorem OwN.sr(h:OwN B w 5 1 y (l.map (Value.int .u8)))(e:l.length<=140737488351232)(d:∀ x∈l,0<=x/\x<256):Sl w y.v l/\Nb B y l :=
 ⟨h.rv.sl e d,λ_ a c=>by
  rcases h.ex with⟨h1,_⟩|⟨b,_,h0,h1,_⟩
  .rw[h1]at c;cases c
  .rw[h1]at c;cases c;exact h0⟩
theorem fF(h:Sl w v l)(n:NwV B v):∃ z:S3,v=z.v/\Sl w z.v l/\Nb B z l:=by
 obtain⟨z,rfl,d⟩:=ZQ h;exact⟨z,rfl,d,λ_ a b=>n a z.n z.c (by unfold S3.v;rw[b])⟩
theorem KU(h:Sl w x.v l):Calls prog 80 #[x.v] w λe w'=>∃ z:S3,e=.returned z.v/\Sl w' z.v l/\Nb w.heap.size z l/\Bw w w' :=
 (UW _ l w h).mono λe w' ⟨v,a,b,c⟩=>let ⟨z,h4,h5,h6⟩:=Jo b h.len h.byte;⟨z,by rw[a,h4],h5,h6,c⟩
theorem cL(h:0<=n/\n<1073741824):Calls prog 119 #[iv n] w λe w'=>∃ y:S3,e=.returned y.v/\OwN w.heap.size w' 5 1 y ((Ad n).map (Value.int .u8))/\Bw w w' :=
 (Sc n w h.1 h.2).mono λe w' ⟨v,a,b,c⟩=>let ⟨z,h4,h5⟩:=d8 b;⟨z,by rw[a,h4],h5,c⟩
theorem ef(h:Sl w x.v K)(i:Sl w u.v N)(f:Sl w y.v A)(j:Sl w z.v P)(g:GV K N A=true)(l:P.length<=2000)(k:Dj w):Calls prog 120 #[x.v,u.v,y.v,z.v] w λe w'=>∃ v:S3,e=.returned (.tuple #[v.v,iv 0])/\Sl w' v.v (Gz K N A P)/\Nb w.heap.size v (Gz K N A P)/\Bw w w' :=
 (ZI _ _ _ _ K N A P w h i f j g l k).mono λe w' ⟨v,a,b,c,d⟩=>let ⟨q,h5,h6,h7⟩:=fF b c;⟨q,by rw[a,h5],h6,h7,d⟩
theorem YY{D:List Int}(i:Sl w x.v K)(j:Sl w u.v N)(g:Sl w y.v A)(h:Sl w z.v D)(k:Dj w){E:Int}(f:Fc K N A D=E):Calls prog 198 #[x.v,u.v,y.v,z.v] w λe w'=>∃ v:S3,e=.returned (.tuple #[v.v,iv E])/\Sl w' v.v (Qy K N A D)/\Nb w.heap.size v (Qy K N A D)/\Bw w w' :=
 (VM _ _ _ _ K N A D w i j g h k).mono λe w' ⟨v,a,b,c,d⟩=>let ⟨q,h5,h6,h7⟩:=fF b c;⟨q,by rw[a,h5,f],h6,h7,d⟩
theorem Qu(h:Sl w x.v l)(d:l.length=4):Calls prog 121 #[x.v] w λe w'=>∃ z:S3,e=.returned z.v/\Sl w' z.v (CJ l)/\Bw w w' :=
 (Qt _ l w h d).mono λe w' ⟨v,a,b,c⟩=>let ⟨q,h4,h5⟩:=ZQ b;⟨q,by rw[a,h4],h5,c⟩
theorem VI(h:Sl w x.v l)(d:l.length=4){N:Int}(c:MQ l=N):Calls prog 196 #[x.v] w λe w'=>e=.returned (iv N)/\Bw w w' :=
 (OM _ l w h d).mono λe w' ⟨a,b⟩=>by subst b c;exact⟨a,Below.refl _ _⟩
theorem Sl.sc{a:Option Addr}{n b:Nat}(h:Sl w (.slice a n b) l)(c:Nat)(f:c<=l.length) :
  ∃ a' c',(∀ W,(Instr.slice 24 (.slice a n b) (some (.int .i64 (c:Int))) none none).run prog W=.ok (.slice a' (n-c) c') W)/\∀ w2,Sl w2 (.slice a n b) l->Sl w2 (.slice a' (n-c) c') (l.drop c):=by
 have k:=λw2 (d:Sl w2 (.slice a n b) l)=>d.qX c l.length f (A' _);obtain⟨⟨a',g,e,o,p,m⟩,j,i⟩:=h;simp only[Value.slice.injEq]at e;obtain⟨rfl,rfl,rfl⟩:=e;refine⟨_,_,λW=>?_,λw2 d=>by simpa[sliced]using k w2 d⟩;rw[run_slice_l (P:=prog) W 24 a _ b underlying24 .i64 _ (by omega) (by omega)];have e:prog.elem 24=5:=by kernel_rfl
 rw[e,FJ];simp[Result.andThen,sliced]
theorem gn(h:Sl w x.v l)(g:4<=l.length):∃ y z:S3,(∀ w2,Sl w2 x.v l->Sl w2 y.v (l.take 4)/\Sl w2 z.v (l.drop 4))/\Calls prog 195 #[x.v] w λe w'=>e=.returned (.tuple #[y.v,z.v])/\Bw w w':=by
 have t:=EO h;have s:x.n<=x.c:=h.rdv.cap;obtain⟨b,d,j,o⟩:=h.sc 4 g;have i:=XB x.a x.n x.c (by omega);have m:∀ W,(Instr.sliceAt 24 x.v none (some (iv 4)) (some (iv 4))).run prog W=.ok (.slice (x.a.map (·.add 0)) 4 4) W:=λW=>by rw[run_sliceAt_slice _ _ _ _ _ _ Tz];exact i W
 have k:∀ W,(Instr.sliceAt 24 x.v (some (iv 4)) none none).run prog W=.ok (.slice b (x.n-4) d) W:=λW=>by rw[run_sliceAt_slice _ _ _ _ _ _ Tz];exact j W
 refine⟨⟨x.a.map (·.add 0),4,4⟩,⟨b,x.n-4,d⟩,λw2 f=>⟨f.first 4 g (by omega),o w2 f⟩,?_⟩;refine tIn [] func195 trivial (tR 8 [6,0] λp _ _=>tT 1 (.slice (x.a.map (·.add 0)) 4 4) (λ_=>(m _)) (tR 1 [4] λq _ _=>tT 3 (.slice b (x.n-4) d) (λ_=>(k _)) (tR 3 [8,10] λr _ _=>tE (.tuple #[.slice (x.a.map (·.add 0)) 4 4,.slice b (x.n-4) d]) λ_ B=>⟨rfl,B⟩)))
theorem ic(c:Sl w x.v key)(k:key.length=32) :
  Calls prog 158 #[x.v] w λe w'=>∃ y:S3,e=.returned (.tuple #[.agg #[S3.v y,iv 0,iv 0,.bool false,.bool false,.bool false,.bool false,.bool false,.bool false,.bool false,.bool false],iv 0])/\Sl w' y.v key/\Nb w.heap.size y key/\Bw w w':=by
 have m:x.n=32:=(EO c).trans k;refine tIn [] func158 trivial (tR 12 [1,0] λb _ _=>tI (((x.n:Int) != 32)) false (by rw[m];rfl) (tR 4 [] λp _ _=>tF λ_ f=>?_));have l:=f.size;refine tC 1 (λF C=>KU (c.af (CgQ.af C))) λg=>?_;rintro _ _ ⟨y,rfl,o,d,i⟩;refine⟨_,Fa.sl y key::_,rfl,i,λF=>⟨CI o d g,F⟩,?_⟩;refine tR 4 [0,0] λq _ _=>tX λF C=>qE2 2 3 111 0 (b 0) #[S3.v y,iv 0,iv 0,.bool false,.bool false,.bool false,.bool false,.bool false,.bool false,.bool false,.bool false] (iv 0) λ_=>⟨y,rfl,F.1.s,λh a j=>me l (d h a j),CgQ.af C⟩
theorem eh(j:Sl w k.v K)(i:K.length=32)(d:Sl w p.v P)(G:P.length<=2000)(h:0<=n/\n<1073741824)(m:Dj w) :
  Calls prog 79 #[.agg #[S3.v k,iv n,iv 0,.bool false,.bool false,.bool false,.bool false,.bool false,.bool false,.bool false,.bool false],p.v] w λe w'=>∃ z:S3,e=.returned (.tuple #[z.v,iv 0])/\Sl w' z.v (Kr K n P)/\Nb w.heap.size z (Kr K n P)/\Bw w w':=by
 have c:k.n=32:=(EO j).trans i;have I:=EO d;have f:=d.byte;refine tIn [Fa.sl k K,Fa.sl p P] func79 ⟨⟨j,λ_ _ _=>rfl⟩,⟨d,λ_ _ _=>rfl⟩,trivial⟩ (tR 10 [0,0,0] λO _ _=>tC1 1 (λF C=>NF (n:=n) c ⟨by omega,by omega⟩) λ_=>tR 16 [] λQ _ _=>tI ((decide (2000<(p.n:Int)))) false (E' (by omega)) (tR 8 [0] λR _ _=>tI ((n==1073741824)) false (by simp;omega) (tR 5 [0] λS _ _=>tG 2 [true] 0 (λF C=>cL h) λb=>?_)));rintro _ _ ⟨y,rfl,a,b0⟩;refine⟨_,[Fa.ow 0 5 1 y ((Ad n).map (Value.int .u8)),Fa.sl k K,Fa.sl p P],_,_,_,_,rfl,b0,a,λ_=>⟨λF a _=>⟨a,F⟩,?_⟩⟩;refine tR 9 [12,0,2,0,4,8,10] λT _ _=>tC 3 (λF C=>Qu (F.1.rv.sl (by rw[BF];omega) (AQ n)) rfl) λb=>?_;rintro _ _ ⟨u,rfl,L,A⟩;refine⟨_,_,rfl,A,id,?_⟩;refine tC 6 (λF C=>ef F.2.1.s L (F.1.rv.sl (by rw[BF];omega) (AQ n)) F.2.2.1.s (cx i (Hf rfl) (by rw[BF];omega)) G (m.af m.pos (CgQ.af C))) λb=>?_;rintro _ _ ⟨z,rfl,o,g,B⟩;refine⟨_,Fa.sl z (Gz K (CJ (Ad n)) (Ad n) P)::_,rfl,B,λF=>⟨CI o g b,F⟩,?_⟩;have N:=EO o;have H:(Gz K (CJ (Ad n)) (Ad n) P).length=P.length+16:=by have:=EA K n P;unfold Kr at this;rw[H',BF]at this;omega
 refine tF λF _=>?_;have M:y.n=4:=by have:=F.2.1.len;simp[BF]at this;omega
 refine tR 18 [14,16,18,20,22] λr _ _=>fH 2 0 (x:=y) z ((Gz K (CJ (Ad n)) (Ad n) P).map (Value.int .u8)) 24 24 5 1 1 (.int .u8 0) (λF=>F.2.1) (λF=>F.1.s.rdv) [] (λ_=>trivial) rfl (by simp[TQ]) (by intro q J;obtain⟨_,_,rfl⟩:=mA.1 J;rfl) (by unfold maxLen;omega) (by omega) λq _ _ _=>tR 3 [] λt _ _=>tX λF C=>qE (.tuple #[S3.v q,iv 0]) λ_=>?_;have a:=F.1.own C;rw[<- mB]at a
 obtain⟨D,E⟩:=OwN.sr (l:=Kr K n P) a (by rw[EA];omega) (Wa _ _ f);exact⟨q,rfl,D,E,CgQ.af C⟩
theorem eg(q:Sl w k.v K)(l:K.length=32)(r:Sl w p.v P)(m:P.length<=2000)(h:0<=n/\n<1073741824)(f:Dj w) :
  Calls prog 40 #[.agg #[S3.v k,iv n,iv 0,.bool false,.bool false,.bool false,.bool false,.bool false,.bool false,.bool false,.bool false],p.v] w λe w'=>∃ u z:S3,e=.returned (.tuple #[.agg #[S3.v u,iv (n+1),iv 0,.bool false,.bool false,.bool false,.bool false,.bool false,.bool false,.bool false,.bool false],z.v,iv 0])/\Sl w' z.v (Kr K n P)/\Nb w.heap.size z (Kr K n P)/\Bw w w':=by
 refine tIn [Fa.sl k K,Fa.sl p P] func40 ⟨⟨q,λ_ _ _=>rfl⟩,⟨r,λ_ _ _=>rfl⟩,trivial⟩ (tR 11 [1,0,1,0,0] λc _ _=>tF λ_ g=>?_);have t:=g.size;refine tC 2 (λF C=>eh F.1.s l F.2.1.s m h (f.af f.pos (CgQ.af C))) λd=>?_;rintro _ _ ⟨z,rfl,x,b,i⟩;refine⟨_,Fa.sl z (Kr K n P)::_,rfl,i,λF=>⟨CI x b d,F⟩,?_⟩;refine tR 18 [0] λy _ _=>tC 2 (λF C=>KU F.2.1.s) λd=>?_;rintro _ _ ⟨u,rfl,D,_,j⟩;refine⟨_,_,rfl,j,id,?_⟩;refine tR 7 [0,0,0] λA _ _=>tV 2 (iv (n+1)) (λF C=>(AK 24 n underlying3 (by omega))) (tR 11 [0,0,0,1,0] λB _ _=>tX λF C=>qE3 4 5 6 111 1 (c 1) #[S3.v u,iv (n+1),iv 0,.bool false,.bool false,.bool false,.bool false,.bool false,.bool false,.bool false,.bool false] (S3.v z) (iv 0) λ_=>⟨u,z,rfl,F.1.s,λh a o=>me t (b h a o),CgQ.af C⟩)
theorem fI(d:K.length=32)(e:∀ x∈R,0<=x/\x<256)(b:20<=R.length):Ka K 0 0 noB R=if 2020<R.length then 1 else if 1073741824<=MQ (R.take 4)then 2 else Fc K (CJ (R.take 4)) (R.take 4) (R.drop 4):=by
 have c:(R.take 4).length=4:=by rw[X'];omega
 have a:=(LB c λx f=>e x (mr f)).1;unfold Ka;rw[if_neg (λg=>g (OkC.new d 0 (by omega) (by omega)))];split
 .rfl
 .rw[if_neg (by omega)];split
  .rfl
  .rw[if_neg (by rw[dq a];simp)]
theorem kJ(b:K.length=32)(a:R.length<20):Ka K 0 0 noB R=13:=by
 unfold Ka;rw[if_neg (λg=>g (OkC.new b 0 (by omega) (by omega))),if_neg (by omega),if_pos a]
theorem aI{r:S3}(H:Sl w k.v K)(j:K.length=32)(t:Sl w r.v R)(I:Dj w){E:Int}(b:Ka K 0 0 noB R=E) :
  Calls prog 181 #[.agg #[S3.v k,iv 0,iv 0,.bool false,.bool false,.bool false,.bool false,.bool false,.bool false,.bool false,.bool false],r.v] w λe w'=>∃ (v:S3) (n:Int),e=.returned (.tuple #[v.v,iv n,iv E])/\(E=0->(0<=n/\n<1073741824)/\Sl w' v.v (Mg K R)/\Nb w.heap.size v (Mg K R))/\Bw w w':=by
 have q:k.n=32:=(EO H).trans j;have V:=EO t;have d:=t.byte;refine tIn [Fa.sl k K,Fa.sl r R] func181 ⟨⟨H,λ_ _ _=>rfl⟩,⟨t,λ_ _ _=>rfl⟩,trivial⟩ (tR 11 [0,0,0] λa0 _ _=>tC1 1 (λF C=>NF (n:=0) q ⟨by omega,by omega⟩) λ_=>tR 16 [] λa1 _ _=>?_);by_cases D:2020<R.length
 .refine tI ((decide (2020<(r.n:Int)))) true (O' (by omega)) (tR 6 [] λa2 _ _=>?_);obtain rfl:1=E:=by rw[<- b,fI j d (by omega),if_pos D]
  exact tE (.tuple #[.slice none 0 0,iv 0,iv 1]) λ_ B=>⟨s30,0,rfl,λh=>absurd h (by decide),B⟩
 .refine tI ((decide (2020<(r.n:Int)))) false (E' (by omega)) (tR 8 [] λa3 _ _=>?_);by_cases T:R.length<20
  .refine tI ((decide ((r.n:Int)<20))) true (O' (by omega)) (tR 6 [] λa4 _ _=>?_);obtain rfl:13=E:=by rw[<- b,kJ j T]
   exact tE (.tuple #[.slice none 0 0,iv 0,iv 13]) λ_ B=>⟨s30,0,rfl,λh=>absurd h (by decide),B⟩
  .refine tI ((decide ((r.n:Int)<20))) false (E' (by omega)) (tR 4 [] λa5 _ _=>?_);have p:(R.take 4).length=4:=by rw[X'];omega
   rw[fI j d (by omega),if_neg D]at b
   obtain⟨N,G⟩:∃ N,MQ (R.take 4)=N:=⟨_,rfl⟩;have c:=(LB p λx Z=>d x (mr Z)).1;rw[G]at b c
   refine tF λF _=>?_;obtain⟨y,z,l,f⟩:=gn F.2.1.s (by omega);refine tC1 1 (λF C=>f) λ_=>tR 9 [] λa6 _ _=>tC1 1 (λF C=>VI (l _ F.2.1.s).1 p G) λ_=>tR 8 [] λJ _ _=>?_;by_cases i:1073741824<=N
   .refine tI ((decide (1073741824<=N))) true (O' i) (tR 6 [] λL _ _=>?_);obtain rfl:2=E:=by rw[<- b,if_pos i]
    exact tE (.tuple #[.slice none 0 0,iv 0,iv 2]) λ_ B=>⟨s30,0,rfl,λh=>absurd h (by decide),B⟩
   .refine tI ((decide (1073741824<=N))) false (E' i) ?_;rw[if_neg i]at b
    refine tR 5 [0] λM _ _=>tC1 1 (λF C=>Mv (k:=k) (n:=0)) λ_=>tR 1 [] λO _ _=>tC1 3 (λF C=>Yt c) λ_=>tR 10 [12,0,2,0,4,8,10] λP _ _=>tC 3 (λF C=>Qu (l _ F.2.1.s).1 p) λA=>?_;rintro _ _ ⟨u,rfl,X,m⟩;refine⟨_,_,rfl,m,id,?_⟩;refine tF λ_ S=>?_;have W:=S.size;refine tC 6 (λF C=>YY F.1.s X (l _ F.2.1.s).1 (l _ F.2.1.s).2 (I.af I.pos (CgQ.af C)) b) λA=>?_;rintro _ _ ⟨v,rfl,Y,g,o⟩;refine⟨_,Fa.sl v (Mg K R)::_,rfl,o,λF=>⟨CI Y g A,F⟩,?_⟩;refine tR 15 [14,16,18,20,22] λQ _ _=>tE (.tuple #[S3.v v,iv N,iv E]) λF B=>⟨v,N,rfl,λ_=>⟨⟨c,by omega⟩,F.1.s,λh a U=>me W (g h a U)⟩,B⟩
theorem Uz{r:List Int}(H:Sl w x.v key)(I:key.length=32)(K:Sl w y.v r)(p:Dj w){E:Int}(G:Ka key 0 0 noB r=E) :
  Calls prog 159 #[.agg #[S3.v x,iv 0,iv 0,.bool false,.bool false,.bool false,.bool false,.bool false,.bool false,.bool false,.bool false],y.v] w λe w'=>∃ (c v:S3) (t:Int) (x0 x1 x2 x3 x4 x5 x6 x7:Bool),e=.returned (.tuple #[.agg #[c.v,iv 0,iv t,.bool x0,.bool x1,.bool x2,.bool x3,.bool x4,.bool x5,.bool x6,.bool x7],v.v,iv E])/\Sl w' v.v (if E=0 then Mg key r else[])/\Nb w.heap.size v (if E=0 then Mg key r else[])/\Bw w w':=by
 refine tIn [Fa.sl x key,Fa.sl y r] func159 ⟨⟨H,λ_ _ _=>rfl⟩,⟨K,λ_ _ _=>rfl⟩,trivial⟩ (tR 11 [1,0,1,0,0] λd _ _=>tF λ_ B=>?_);have o:=B.size;refine tC 2 (λF C=>aI F.1.s I F.2.1.s (p.af p.pos (CgQ.af C)) G) λm=>?_;rintro _ _ ⟨v,n,rfl,l,D⟩;refine⟨_,Fa.sl (if E=0 then v else s30) (if E=0 then Mg key r else[])::_,rfl,D,λF=>⟨by split;(rename_i e;exact CI (l e).2.1 (l e).2.2 m);exact Lp _ _,F⟩,?_⟩;refine tR 14 [] λL _ _=>?_;by_cases i:E≠0
 .refine tI ((E != 0)) true (by simpa using i) (tR 8 [1,0] λM _ _=>tX λF C=>qE3 4 5 6 111 1 (d 1) #[S3.v s30,iv 0,iv 0,.bool false,.bool false,.bool false,.bool false,.bool false,.bool false,.bool false,.bool false] (S3.v s30) (iv E) λ_=>⟨s30,s30,0,false,false,false,false,false,false,false,false,rfl,by rw[if_neg i];exact Ez _,λ_ a f=>(by cases f),CgQ.af C⟩)
 .refine tI ((E != 0)) false (by simpa using i) ?_;have b:E=0:=mg.1 i;obtain⟨J,_,g⟩:=l b;refine tR 4 [0] λN _ _=>tC1 1 (λF C=>Mv (k:=x) (n:=0)) λ_=>tR 1 [] λO _ _=>tC1 3 (λF C=>eV J) λ_=>tR 7 [1,0,2,0,0] λP _ _=>tC 2 (λF C=>KU F.2.1.s) λm=>?_;rintro _ _ ⟨u,rfl,Q,_,j⟩;refine⟨_,_,rfl,j,id,?_⟩;refine tR 9 [0,0,5,0,2,2,4,8] λq _ _=>IH 3 5 ?_ ?_
  .refine tR 13 [2,11,0,0,12,15,0,0,0,1,0] λz _ _=>tX λF C=>qE3 4 5 6 111 1 (d 1) #[S3.v u,iv 0,iv (n+1),.bool false,.bool false,.bool false,.bool false,.bool false,.bool false,.bool false,.bool true] (S3.v v) (iv 0) λ_=>⟨u,v,n+1,false,false,false,false,false,false,false,true,by rw[b],by have:=F.1.s;rwa [if_pos b]at this,by rw[if_pos b];exact λh a f=>me o (g h a f),CgQ.af C⟩
  .refine tR 13 [0,0,7,2,12,15,0,0,0,1,0] λA _ _=>tX λF C=>qE3 4 5 6 111 1 (d 1) #[S3.v u,iv 0,iv (n+1),.bool false,.bool false,.bool false,.bool false,.bool false,.bool false,.bool false,.bool true] (S3.v v) (iv 0) λ_=>⟨u,v,n+1,false,false,false,false,false,false,false,true,by rw[b],by have:=F.1.s;rwa [if_pos b]at this,by rw[if_pos b];exact λh a f=>me o (g h a f),CgQ.af C⟩
end
end
end Go.Proofs.YtgbabbapcibnlabGreatDoor
