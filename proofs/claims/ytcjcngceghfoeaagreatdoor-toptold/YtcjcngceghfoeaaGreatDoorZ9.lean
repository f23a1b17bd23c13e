/- Part 9 of the walk. -/
import Derived.Laws.IdiomCopy
import Derived.Lib.LazyBuf
import Derived.Lib.AppendZeros
import Derived.Test.YtcjcngceghfoeaaGreatDoorZ8
set_option maxRecDepth 100000
set_option maxHeartbeats 4000000
open Go.Proofs.Tryz
set_option linter.unusedVariables false
namespace Go.Proofs.YtcjcngceghfoeaaGreatDoor
section
def pick(n many:Int):Int:=if n<0 then(-(n+1))%many else n%many
theorem Bp(n a:Int)(b:0<a):0<=pick n a/\pick n a<a:=by
 unfold pick;split
 .exact⟨qH _ (by omega),qh _ b⟩
 .exact⟨qH _ (by omega),qh _ b⟩
def wK(a:Int):Int:=1+pick a 5/2
def wV(a e:Int):Int:=if wK a=1 then pick e 1000 else 0
theorem bm(a:Int):1<=wK a/\wK a<=3:=by
 have:=Bp a 5 (by omega);unfold wK;omega
theorem bq(a e:Int):0<=wV a e/\wV a e<=1000:=by
 have:=Bp e 1000 (by omega);unfold wV;split<;>omega
theorem fw(a d e:Int)(b c:Int)(i:0<=b/\b<=7)(j:0<=c/\c<=1048576):Bi (wK a) b c (pick d 4) (wV a e)=0:=by
 have f:=bm a;have g:=Bp d 4 (by omega);have h:=bq a e;refine TZ f (by unfold InC;omega) ?_;unfold wV;split
 .exact .inl (by assumption)
 .exact .inr rfl
def I64(n:Int):Prop:=-9223372036854775808<=n/\n<=9223372036854775807
end
section
open Go.RowKit
section
variable{P:Program}{W w:World}{a:Option Addr}{b cap i:Nat}{cur:Array Value}{k:S3}{l:List Int}{n:Int}{t:TypeId}{v:Value}{x y:Operand}
theorem kJ(a:Int)(h:-9223372036854775808<=-a/\-a<=9223372036854775807):(Op.unary .neg (iv a)).run P W=.ok (iv (-a)) W:=by
 simp[go_sem];rw[IntKind.wrap_i64];omega
theorem ZB(a b:Int)(i:P.underlying 3=some (.int .i64))(f:0<=a)(g:a<=9223372036854775807)(j:0<b)(h:b<=9223372036854775807):(do Go.eqGuard .rem 3 x y (iv a) (iv b);Go.binOp .rem 3 (iv a) (iv b):Sem Value).run P W=.ok (iv (a%b)) W:=by
 have e:=kK (P:=P) (W:=W) (x:=x) (y:=y) a.toNat b.toNat i (by omega) (by omega) (by omega);have c:((a.toNat:Nat):Int)=a:=oQ f;have d:((b.toNat:Nat):Int)=b:=oQ (by omega);rw[c,d]at e
 rw[e,qv,c,d]
theorem fV(a:Int)(e:P.underlying 3=some (.int .i64))(b:0<=a)(c:a<=1000):(do Go.eqGuard .quo 3 x y (iv a) (iv 2);Go.binOp .quo 3 (iv a) (iv 2):Sem Value).run P W=.ok (iv (a/2)) W:=by
 have d:a.tdiv 2=a/2:=qf b;simp only[Go.eqGuard,go_sem,Op.intDiv];simp[d];rw[IntKind.wrap_i64];omega
theorem AU(h:I64 n)(a:Int)(d:0<a:=by decide)(b:a<=9223372036854775807:=by decide) :
  Calls prog 13 #[iv n,iv a] w λe w'=>e=.returned (iv (pick n a))/\Bw w w':=by
 unfold I64 at h;refine tIn [] func13 trivial (tR 10 [] λf _ _=>?_);by_cases c:n<0
 .refine tI ((decide (n<0))) true (M' c) (tR 2 [] λg _ _=>tV 1 (iv (n+1)) (λF C=>(AO 7 n underlying3 (by omega))) (tV 2 (iv (-(n+1))) (λF C=>(kJ (n+1) (by omega))) (tR 6 [] λi _ _=>tV 2 (iv (-(n+1)%a)) (λF C=>(ZB (x:=(.tmp 10)) (y:=(.tmp 11)) (-(n+1)) a underlying3 (by omega) (by omega) d b)) (tR 2 [] λj _ _=>tE (iv (-(n+1)%a)) λ_ B=>⟨by rw[show pick n a=_ from if_pos c],B⟩))))
 .refine tI ((decide (n<0))) false (E' c) (tR 5 [] λk _ _=>tV 2 (iv (n%a)) (λF C=>(ZB (x:=(.tmp 10)) (y:=(.tmp 11)) n a underlying3 (by omega) (by omega) d b)) (tR 2 [] λl _ _=>tE (iv (n%a)) λ_ B=>⟨by rw[show pick n a=_ from if_neg c],B⟩))
theorem Ci(h:I64 n)(a:Int)(c:0<a:=by decide)(b:a<=9223372036854775807:=by decide) :
  Calls prog 7 #[iv n,iv a] w λe w'=>e=.returned (iv (pick n a))/\Bw w w':=by
 refine tIn [] func7 trivial (tR 8 [] λd _ _=>tC1 2 (λF C=>AU h a c b) λ_=>tR 2 [] λf _ _=>tE (iv (pick n a)) λ_ B=>⟨rfl,B⟩)
theorem Rw{k c s v:Int}(t:I64 k)(r:I64 c)(q:I64 s)(f:I64 n)(M:I64 v) :
  Calls prog 23 #[.agg #[iv k,iv c,iv s,iv n,iv v]] w λe w'=>e=.returned (.agg #[iv (wK k),iv (pick c 4),iv (pick s 6),iv (pick n 4),iv (wV k v)])/\Bw w w':=by
 have O:=Bp k 5 (by omega);refine tIn [] func23 trivial (tR 15 [0,0,1,0,17,0,2,0,10,12,0,16,18,0,22,24,0] λa _ _=>Ig 27 (λL K g=>∃ (b:Nat),L=[(1,pt (a 0) 0),(2,pt (a 1) 0),(3,pt b 0)]/\K=[⟨(a 0),.cells #[iv k,iv c,iv s,iv n,iv v] 79,.z,false⟩,⟨(a 1),.cells #[iv 0,iv 0,iv 0,iv 0,iv 0] 51,.l,false⟩,⟨b,.cells #[iv (wK k),iv (pick c 4),iv (pick s 6),iv (pick n 4),iv 0] 51,.l,false⟩]/\g=[]) (λJ d=>?_) ?_)
 .refine Ih 2 15 ?_ ?_
  .refine tC 2 (λF C=>AU t 5) λN=>?_;rintro _ _ ⟨rfl,b⟩;refine⟨_,_,rfl,b,id,?_⟩;refine tT 3 (iv (pick k 5/2)) (λ_=>(fV (x:=(.tmp 6)) (y:=(.const (iv 2))) (pick k 5) underlying3 (by omega) (by omega))) (tT 4 (iv (wK k)) (λ_=>(LR (x:=(.const (iv 1))) (y:=(.tmp 7)) 1 (pick k 5/2) underlying3 (by omega))) (Ih 7 15 ?_ ?_))
   .refine tC1 7 (λF C=>AU r 4) λ_=>Ih 10 15 ?_ ?_
    .refine tC1 10 (λF C=>AU q 6) λ_=>Ih 13 15 ?_ ?_
     .refine tC1 13 (λF C=>AU f 4) λ_=>tR 4 [28,31,1,0,33,2,0] λh _ _=>tD d [true,true,true] ⟨(h 0),rfl,rfl,rfl⟩ (λF=>trivial)
     .refine tR 1 [1,0] λi _ _=>tC1 13 (λF C=>AU f 4) λ_=>tR 3 [28,33,2,0] λu _ _=>tD d [true,true,true] ⟨(i 0),rfl,rfl,rfl⟩ (λF=>trivial)
    .refine tR 1 [1,0] λj _ _=>tC1 10 (λF C=>AU q 6) λ_=>tC1 13 (λF C=>AU f 4) λ_=>tR 3 [28,33,2,0] λA _ _=>tD d [true,true,true] ⟨(j 0),rfl,rfl,rfl⟩ (λF=>trivial)
   .refine tR 1 [1,0] λm _ _=>tC1 7 (λF C=>AU r 4) λ_=>tC1 10 (λF C=>AU q 6) λ_=>tC1 13 (λF C=>AU f 4) λ_=>tR 3 [28,33,2,0] λB _ _=>tD d [true,true,true] ⟨(m 0),rfl,rfl,rfl⟩ (λF=>trivial)
  .refine tR 1 [1,0] λo _ _=>tC1 2 (λF C=>AU t 5) λ_=>tT 3 (iv (pick k 5/2)) (λ_=>(fV (x:=(.tmp 6)) (y:=(.const (iv 2))) (pick k 5) underlying3 (by omega) (by omega))) (tT 4 (iv (wK k)) (λ_=>(LR (x:=(.const (iv 1))) (y:=(.tmp 7)) 1 (pick k 5/2) underlying3 (by omega))) (tC1 7 (λF C=>AU r 4) λ_=>tC1 10 (λF C=>AU q 6) λ_=>tC1 13 (λF C=>AU f 4) λ_=>tR 3 [28,33,2,0] λD _ _=>tD d [true,true,true] ⟨(o 0),rfl,rfl,rfl⟩ (λF=>trivial)))
 rintro _ _ _ ⟨b,rfl,rfl,rfl⟩ _ _ _;refine tR 7 [2] λE _ _=>?_;by_cases p:wK k=1
 .refine tI (((wK k)==1)) true (by simpa using p) (tR 3 [0] λG _ _=>tC1 2 (λF C=>AU M 1000) λ_=>tR 8 [2,0,2,1,0] λH _ _=>tX λF C=>qE1 2 51 1 (a 1) #[iv (wK k),iv (pick c 4),iv (pick s 6),iv (pick n 4),iv (pick v 1000)] λ_=>⟨by rw[show wV k v=_ from if_pos p],CgQ.af C⟩)
 .refine tI (((wK k)==1)) false (by simpa using p) (tR 6 [2,1,0] λI _ _=>tX λF C=>qE1 2 51 1 (a 1) #[iv (wK k),iv (pick c 4),iv (pick s 6),iv (pick n 4),iv 0] λ_=>⟨by rw[show wV k v=_ from if_neg p],CgQ.af C⟩)
theorem il(c:Int)(w:World)(f:0<=c)(n:c<=7)(h:AB w) :
  Calls prog 49 #[.int .i64 c] w λe w'=>∃ v',e=.returned (.tuple #[v',.int .i64 0])/\w'.ownsRow w.heap.size 5 1 v' (Jk c).length ((Jk c).map (Value.int .u8))/\Bw w w':=by
 have l:decide (c<0)=false:=by simp;omega
 have m:decide ((7:Int)<c)=false:=by simp;omega
 have o:IntKind.u8.wrap c=c:=by rw[show IntKind.u8.wrap c=c%256 from rfl];omega
 have p:=Go.Joins.run_convert_bytes_const_at (P:=prog) (w.alloc (.cells #[.int .u8 c] 5)) 52 5 #[.int .u8 99,.int .u8 108,.int .u8 105,.int .u8 101,.int .u8 110,.int .u8 116] 6 6 (w.heap.size+1) (by simp) underlying52 underlying5;go_enter func49,ntmps49
 go_wp2_with fail
 have s0:Sl (w.alloc (.cells #[.int .u8 c] 5)) (.slice (some ⟨w.heap.size,0,none⟩) 1 1) [c]:=Sl.one w c 5 rfl ⟨f,by omega⟩;have b0:Bw w (w.alloc (.cells #[.int .u8 c] 5)):=(Below.refl _ _).alloc (A' _) _;have j:=Sl.tA (w.alloc (.cells #[.int .u8 c] 5)) [99,108,105,101,110,116] 5 (6,7) (g:=w.heap.size+1) (by simp) rfl (by simp);have a:Bw w ((w.alloc (.cells #[.int .u8 c] 5)).alloc (.cells #[.int .u8 99,.int .u8 108,.int .u8 105,.int .u8 101,.int .u8 110,.int .u8 116] 5 (6,7))):=b0.alloc (by simp) _;have b:=s0.af ((Below.refl (w.alloc (.cells #[.int .u8 c] 5)).heap.size _).alloc (A' _) (.cells #[.int .u8 99,.int .u8 108,.int .u8 105,.int .u8 101,.int .u8 110,.int .u8 116] 5 (6,7)));refine(TJ _ _ _ [c] [99,108,105,101,110,116] [] 32 _ b j (Sl.nil _ _) (by simp) (by simp) (by simp) (by omega) (h.af a)).mono ?_;rintro e q ⟨k,rfl,i,d⟩;go_wp2
 go_ret2
 exact⟨k,rfl,BK i a.size,a.trans (d.mono a.size)⟩
theorem ik(c:Int)(w:World)(h:c<0\/7<c) :
  Calls prog 49 #[.int .i64 c] w λe w'=>e=.returned (.tuple #[.slice none 0 0,.int .i64 2])/\w'=w:=by
 by_cases b:c<0
 .have d0:decide (c<0)=true:=by simp;omega
  go_enter func49,ntmps49
  go_wp2
  go_ret2
  exact⟨rfl,rfl⟩
 .have d0:decide (c<0)=false:=by simp;omega
  have a:decide ((7:Int)<c)=true:=by simp;omega
  go_enter func49,ntmps49
  go_wp2
  go_ret2
  exact⟨rfl,rfl⟩
theorem S5(w:World)(d:AB w) :
  Calls prog 48 #[] w λe w'=>∃ v',e=.returned v'/\w'.ownsRow w.heap.size 5 1 v' F9.length (F9.map (Value.int .u8))/\Bw w w':=by
 have j:=Go.Joins.run_convert_bytes_const_at (P:=prog) (w.alloc (.cells #[.int .u8 255] 5)) 52 5 #[.int .u8 105,.int .u8 115,.int .u8 115,.int .u8 117,.int .u8 101,.int .u8 114] 6 6 (w.heap.size+1) (by simp) underlying52 underlying5;go_enter func48,ntmps48
 go_wp2_with fail
 have s0:Sl (w.alloc (.cells #[.int .u8 255] 5)) (.slice (some ⟨w.heap.size,0,none⟩) 1 1) [255]:=Sl.one w 255 5 rfl ⟨by omega,by omega⟩;have b0:Bw w (w.alloc (.cells #[.int .u8 255] 5)):=(Below.refl _ _).alloc (A' _) _;have h:=Sl.tA (w.alloc (.cells #[.int .u8 255] 5)) [105,115,115,117,101,114] 5 (6,7) (g:=w.heap.size+1) (by simp) rfl (by simp);have a:Bw w ((w.alloc (.cells #[.int .u8 255] 5)).alloc (.cells #[.int .u8 105,.int .u8 115,.int .u8 115,.int .u8 117,.int .u8 101,.int .u8 114] 5 (6,7))):=b0.alloc (by simp) _;have b:=s0.af ((Below.refl (w.alloc (.cells #[.int .u8 255] 5)).heap.size _).alloc (A' _) (.cells #[.int .u8 105,.int .u8 115,.int .u8 115,.int .u8 117,.int .u8 101,.int .u8 114] 5 (6,7)));refine(TJ _ _ _ [255] [105,115,115,117,101,114] [] 32 _ b h (Sl.nil _ _) (by simp) (by simp) (by simp) (by omega) (d.af a)).mono ?_;rintro e k ⟨i,rfl,f,c⟩;go_wp2
 go_ret;exact⟨i,rfl,BK f a.size,a.trans (c.mono a.size)⟩
theorem jX{B:Nat}{g:Gh}{L:List Sh}(h:Kn B g w L)(k b:Nat)(a:Array Value)(e:TypeId)(t:Tg)(v:Bool)(c:L[k]?=some ⟨b,.cells a e,t,v⟩):w.heap[b]?=some (.cells a e):=(h.row _ (mP c)).1
theorem kG{ts:Array TypeId}{a b d:Int}(h:(if b<a then b else a)=d):(Builtin.min_ ts t #[iv a,iv b]).run P W=.ok (iv d) W:=by subst h;exact run_min_int2 _ _ _ _ _ _ _
theorem kS(h:0<=n/\n<1073741824):(do Go.eqGuard .sub 3 x y (iv n) (iv (n+1-8));Go.binOp .sub 3 (iv n) (iv (n+1-8)):Sem Value).run prog W=.ok (iv 7) W:=by
 rw[ZC n (n+1-8) underlying3 (by omega),show n-(n+1-8)=7 by omega]
theorem l8(h:i<8):i=0\/i=1\/i=2\/i=3\/i=4\/i=5\/i=6\/i=7:=by omega
theorem lY(h:i<8):(Instr.index 43 (.agg #[.bool false,.bool false,.bool false,.bool false,.bool false,.bool false,.bool false,.bool false]) (iv (i:Int))).run prog W=.ok (.bool false) W:=by
 rcases l8 h with rfl|rfl|rfl|rfl|rfl|rfl|rfl|rfl<;>kernel_rfl
theorem Lf(h:0<=n/\n<=1073741824) :
  Calls prog 158 #[iv n] w λe w'=>e=.returned (.bool true)/\Bw w w':=by
 refine tIn [] func158 trivial (tR 7 [] λa _ _=>tV 1 (.bool true) (λF C=>(rGe (t:=3) (m:=n) (n:=0) (x:=(.tmp 3)) (y:=(.const (iv 0))) (M' h.1))) (tR 6 [] λb _ _=>tE (.bool (decide (n<=1073741824))) λ_ B=>⟨by rw[M' h.2],B⟩))
theorem MB :
  Calls prog 159 #[.agg #[S3.v k,iv n,iv 0,.bool false,.bool false,.bool false,.bool false,.bool false,.bool false,.bool false,.bool false]] w λe w'=>e=.returned (.agg #[iv 0,.bool false,.bool false,.bool false,.bool false,.bool false,.bool false,.bool false,.bool false])/\Bw w w':=by
 refine tIn [] func159 trivial (tR 14 [0,0,1,0,0,0,1,0] λa _ _=>tX λF C=>qE1 2 249 1 (a 1) #[iv 0,.bool false,.bool false,.bool false,.bool false,.bool false,.bool false,.bool false,.bool false] λ_=>⟨rfl,CgQ.af C⟩)
theorem VI{t:Int}{b0 b1 b2 b3 b4 b5 b6 b7:Bool}(h:0<=t/\t<=1073741824) :
  Calls prog 181 #[.agg #[iv t,.bool b0,.bool b1,.bool b2,.bool b3,.bool b4,.bool b5,.bool b6,.bool b7]] w λe w'=>e=.returned (iv (t-8))/\Bw w w':=by
 refine tIn [] func181 trivial (tR 9 [0,0,0] λa _ _=>tV 2 (iv (t-8)) (λF C=>(ZC (x:=(.tmp 4)) (y:=(.const (iv 8))) t 8 underlying3 (by omega))) (tR 2 [] λb _ _=>tE (iv (t-8)) λ_ B=>⟨rfl,B⟩))
theorem YR :
  Calls prog 160 #[.agg #[iv 0,.bool false,.bool false,.bool false,.bool false,.bool false,.bool false,.bool false,.bool false]] w λe w'=>e=.returned (.bool true)/\Bw w w':=by
 refine tIn [] func160 trivial (tR 13 [0,0,0] λa _ _=>D1 28 [(1,pt (a 0) 0),(6,.agg #[.bool false,.bool false,.bool false,.bool false,.bool false,.bool false,.bool false,.bool false]),(7,iv 0)] [true] [⟨(a 0),.cells #[iv 0,.bool false,.bool false,.bool false,.bool false,.bool false,.bool false,.bool false,.bool false] 249,.z,false⟩] [] (λh d c b=>∃ (i:Nat),h=8-i/\d=[(1,pt (a 0) 0),(6,.agg #[.bool false,.bool false,.bool false,.bool false,.bool false,.bool false,.bool false,.bool false]),(7,iv (i:Int))]/\c=[⟨(a 0),.cells #[iv 0,.bool false,.bool false,.bool false,.bool false,.bool false,.bool false,.bool false,.bool false] 249,.z,false⟩]/\b=[]/\i<=8) (8) ⟨0,rfl,rfl,rfl,rfl,by omega⟩ (λF=>F) ?_);rintro k _ _ _ ⟨i,rfl,rfl,rfl,rfl,p⟩ _ _ _ J g;refine tR 5 [] λj _ _=>?_;by_cases f:i<8
 .refine tI ((decide ((i:Int)<8))) true (M' (by omega)) (tR 6 [] λl _ _=>tV 1 (.bool false) (λF C=>(lY f)) (tR 18 [] λm _ _=>tV 0 (iv ((i:Int)+1)) (λF C=>(AO 7 (i:Int) underlying3 (by omega))) (tR 2 [] λn _ _=>tB g (8-(i+1)) (by omega) [true] ⟨i+1,rfl,rfl,rfl,rfl,by omega⟩ (λF=>F))))
 .refine tI ((decide ((i:Int)<8))) false (E' (by omega)) (tR 13 [0] λo _ _=>tE (.bool true) λ_ B=>⟨rfl,B⟩)
theorem NK(b:k.n=32)(c:0<=n/\n<=1073741824) :
  Calls prog 130 #[.agg #[S3.v k,iv n,iv 0,.bool false,.bool false,.bool false,.bool false,.bool false,.bool false,.bool false,.bool false]] w λe w'=>e=.returned (iv 0)/\Bw w w':=by
 refine tIn [] func130 trivial (tR 11 [0,0,0] λd _ _=>tV 3 (.bool false) (λF C=>(He (t:=3) (m:=(k.n:Int)) (n:=32) (x:=(.tmp 5)) (y:=(.const (iv 32))) (by rw[b];rfl))) (tR 3 [0] λf _ _=>tC1 7 (λF C=>Lf c) λ_=>tR 5 [0] λg _ _=>tC1 13 (λF C=>Lf (n:=0) (by omega)) λ_=>tR 4 [0] λh _ _=>tC1 18 (λF C=>MB (k:=k) (n:=n)) λ_=>tC1 19 (λF C=>YR) λ_=>tR 9 [] λa _ _=>tE (iv 0) λ_ B=>⟨rfl,B⟩))
theorem Y0(h:0<=n) :
  Calls prog 202 #[.agg #[iv 0,.bool false,.bool false,.bool false,.bool false,.bool false,.bool false,.bool false,.bool false],iv n] w λe w'=>e=.returned (.bool false)/\Bw w w':=by
 refine tIn [] func202 trivial (tR 13 [0,0,0] λa _ _=>tI ((decide (0<=n))) true (M' h) (tR 4 [] λb _ _=>tE (.bool false) λ_ B=>⟨rfl,B⟩))
theorem S1:(prog.info? 4).map (·.size)=some 1:=by kernel_rfl
theorem je(w:World):(Go.sizeOf 4).run prog w=.ok 1 w:=by
 have h:=S1;cases hi:prog.info? 4 with
 | none=>rw[hi]at h;cases h
 | some i =>
  rw[hi]at h
  simp only[nm,Y']at h;simp[sizeOf,typeInfo,hi,h]
theorem Xl(B d:Nat)(b:d<=8):∃ ad,(∀ W,(Instr.sliceAt 43 (.pointer (some ⟨B,1,none⟩)) (some (.int .i64 (d:Int))) none none).run prog W=.ok (.slice (some ad) (8-d) (8-d)) W)/\(0<8-d->ad=⟨B,1+d,none⟩):=by
 refine⟨if 8=d then⟨B,1,none⟩else(⟨B,1,none⟩:Addr).add (d*1),λW=>?_,λh=>?_⟩
 .have e1:prog.arrayLen 43=8:=by kernel_rfl
  have a:prog.elem 43=4:=by kernel_rfl
  rw[run_sliceAt_array_l (P:=prog) W 43 _ underlying43 .i64 _ (by omega) (by rw[e1];omega),e1,a,je];simp[Result.andThen,slicedAt]
 .rw[if_neg (by omega),Nat.mul_one];exact Addr.add_mid B 1 d
theorem Pp{j:Nat}(d:w.heap[b]?=some (.cells cur t))(a:cur[j]?=some v):w.setCell ⟨b,j,none⟩ v=w:=by
 have f:cur.setIfInBounds j v=cur:=by
  apply n8;intro i;rw[pZ];split
  .rename_i e;subst e;rw[a,if_pos (U'.1 a).1]
  .rfl
 have c:(w.setCell ⟨b,j,none⟩ v).heap=w.heap:=by
  apply n8;intro i;unfold World.setCell;simp only[o0];split
  .rename_i e;subst e;rw[d];simp[f]
  .rfl
 rw[show w.setCell ⟨b,j,none⟩ v={ w with heap:=(w.setCell ⟨b,j,none⟩ v).heap }from rfl,c]
theorem Ni(a:w.heap[b]?=some (.cells cur t)){v:Value}(m o:Nat)(h:∀ j,j<m->cur[o+j]?=some v):w.setCells b o (List.replicate m v)=w:=by
 induction m generalizing o with
 | zero=>rfl
 | succ m ih =>
  rw[List.replicate_succ,World.setCells,Pp a (by simpa using h 0 (by omega))];exact ih (o+1) λj c=>by rw[nB,Nat.add_comm 1 j];exact h (j+1) (by omega)
theorem XD(i y A a:TypeId)(b o d f m s z k:Nat)(v:Value)(r:P.underlying i=some (.slice a))(E:(P.info? a).map (·.size)=some 1)(q:m<=k){e c:Array Value}{t G:TypeId}(n:w.heap[b]?=some (.cells e t))(p:w.heap[d]?=some (.cells c G))(x:∀ j,j<m->e[o+j]?=some v)(B:∀ j,j<m->c[f+j]?=some v)(F:v.oneCell'=true) :
  (Builtin.copy_ #[i,y] A #[.slice (some ⟨b,o,none⟩) k s,.slice (some ⟨d,f,none⟩) m z]).run P w=.ok (iv (m:Int)) w:=by
 have D:∀ {j u},(List.replicate m v)[j]?=some u->j<m/\u=v:=λh=>by
  have:=V'.1 h;obtain⟨l,C⟩:=this;exact⟨by simpa using l,by simpa using C.symm⟩
 have:=run_copy_cells (P:=P) w i y A a b o k s ⟨d,f,none⟩ m z (List.replicate m v) r E (by rw[nR];exact(nH q).symm) (λj u g=>by
  obtain⟨l,rfl⟩:=D g;have:(⟨d,f,none⟩:Addr).add j=⟨d,f+j,none⟩:=by unfold Addr.add;split<;>simp_all
  rw[this,cell_of_row _ _ _ _ _ _ p];exact B j l) (λj g=>by rw[cell_of_row _ _ _ _ _ _ n,x j (by simpa using g)];rfl) (λj g=>frozen_of_row _ _ _ _ _ n) (λu r=>by rw[po r];exact F)
 rw[Ni n m o x]at this
 rw[this];simp[goInt]
theorem Wm(h:0<n/\n<=1073741824) :
  Calls prog 204 #[.agg #[iv 0,.bool false,.bool false,.bool false,.bool false,.bool false,.bool false,.bool false,.bool false],iv n] w λe w'=>e=.returned (.agg #[iv n,.bool false,.bool false,.bool false,.bool false,.bool false,.bool false,.bool false,.bool false])/\Bw w w':=by
 obtain⟨d,f,c⟩:∃ d:Nat,(if 8<n-0 then 8 else n-0)=(d:Int)/\d<=8:=⟨(if 8<n-0 then 8 else n-0).toNat,by split<;>omega,by split<;>omega⟩;refine tIn [] func204 trivial (tR 20 [0,0,1,0,1,0,2,0,10,0,2,4,6,8,10,0] λa _ _=>tT 6 (iv (n-0)) (λ_=>(ZC (x:=(.tmp 11)) (y:=(.tmp 13)) n 0 underlying3 (by omega))) (tT 7 (iv (d:Int)) (λ_=>(kG (ts:=#[3,3]) (t:=3) f)) ?_));obtain⟨ad,i,b⟩:=Xl (a 0) d c;refine tT 8 (.slice (some ad) (8-d) (8-d)) (λ_=>(i _)) (tW 9 (iv ((8-d:Nat):Int)) (S:=Builtin.copy_ #[297,297] 3 #[.slice (some ⟨(a 2),1,none⟩) 8 8,.slice (some ad) (8-d) (8-d)]) (λF K=>?_) ?_)
 .by_cases e:d=8
  .subst e;exact run_copy_none _ _ _ _ 4 _ _ _ _ _ _ underlying297 S1 rfl
  .obtain rfl:=b (by omega);refine XD _ _ _ 4 _ _ _ _ (8-d) _ _ _ (.bool false) underlying297 S1 (by omega) (jX K 2 (a 2) #[iv n,.bool false,.bool false,.bool false,.bool false,.bool false,.bool false,.bool false,.bool false] 249 .l true (by kernel_rfl)) (jX K 0 (a 0) #[iv 0,.bool false,.bool false,.bool false,.bool false,.bool false,.bool false,.bool false,.bool false] 249 .z true (by kernel_rfl)) (λj g=>?_) (λj g=>?_) rfl
   .rcases l8 (show j<8 by omega)with rfl|rfl|rfl|rfl|rfl|rfl|rfl|rfl<;>rfl
   .obtain⟨q,hq⟩:∃ q,q=1+d+j:=⟨_,rfl⟩;rw[<- hq];rcases(by omega:q=1\/q=2\/q=3\/q=4\/q=5\/q=6\/q=7\/q=8)with rfl|rfl|rfl|rfl|rfl|rfl|rfl|rfl<;>rfl
 refine tR 6 [2,1,0] λk _ _=>tX λF C=>qE1 4 249 1 (a 1) #[iv n,.bool false,.bool false,.bool false,.bool false,.bool false,.bool false,.bool false,.bool false] λ_=>⟨rfl,CgQ.af C⟩
theorem fu(h:0<=n/\n<1073741824) :
  Calls prog 189 #[.agg #[iv 0,.bool false,.bool false,.bool false,.bool false,.bool false,.bool false,.bool false,.bool false],iv n] w λe w'=>e=.returned (.agg #[iv (n+1),.bool false,.bool false,.bool false,.bool false,.bool false,.bool false,.bool false,.bool true])/\Bw w w':=by
 refine tIn [] func189 trivial (tR 13 [1,0,1,0,0] λa _ _=>tI ((decide (0<=n))) true (M' h.1) (tR 3 [0] λc _ _=>tV 2 (iv (n+1)) (λF C=>(AO 10 n underlying3 (by omega))) (tC 3 (λF C=>Wm (n:=n+1) ⟨by omega,by omega⟩) λb=>?_)));rintro _ _ ⟨rfl,b4⟩;refine⟨_,_,rfl,b4,id,?_⟩;refine tR 6 [0,0,0] λd _ _=>tC 2 (λF C=>VI (t:=n+1) (b0:=false) (b1:=false) (b2:=false) (b3:=false) (b4:=false) (b5:=false) (b6:=false) (b7:=false) ⟨by omega,by omega⟩) λb=>?_;rintro _ _ ⟨rfl,b6⟩;refine⟨_,_,rfl,b6,id,?_⟩;refine tV 3 (iv 7) (λF C=>(kS (x:=(.tmp 13)) (y:=(.tmp 15)) h)) (tR 9 [0,0,0,1,0] λf _ _=>tX λF C=>qE1 4 249 1 (a 1) #[iv (n+1),.bool false,.bool false,.bool false,.bool false,.bool false,.bool false,.bool false,.bool true] λ_=>⟨rfl,CgQ.af C⟩)
theorem Sl.sf(w:World)(b a:Int)(e:TypeId){g:Nat}(f:g=w.heap.size)(c:0<=b/\b<256)(d:a=b):Sl (w.alloc (.cells #[.int .u8 a] e)) (.slice (some ⟨g,0,none⟩) 1 1) [b]:=by
 subst d;exact Sl.one w a e f c
theorem PY(a:Option Addr)(n c:Nat):∀ w,(binOp .eql 52 (.slice a n c) (.slice none 0 0)).run prog w=.ok (.bool a.isNone) w :=
 λw=>run_eql_slice_nil (P:=prog) w 52 5 a n c underlying52
theorem Vj(v:Value)(l:List Int)(w:World)(h:Sl w v l) :
  Calls prog 94 #[v] w λe w'=>∃ v',e=.returned v'/\w'.ownsRow w.heap.size 5 1 v' l.length (l.map (Value.int .u8))/\Bw w w':=by
 have o:=h;have t:=h.len;obtain⟨⟨a,c,rfl,s,j,p⟩,q,r⟩:=h;cases a with
 | none =>
  obtain rfl:=j rfl;obtain rfl:l=[]:=j' (by omega);have n:=PY none 0 0;go_enter func94,ntmps94
  go_wp2
  go_ret;exact⟨_,rfl,World.ownsRow_nil _ _ _ _,Below.refl _ _⟩
 | some ad =>
  have b:(w.alloc (.cells #[] 5)).ownsRow w.heap.size 5 1 (.slice (some ⟨w.heap.size,0,none⟩) 0 0) ([]:List Int).length (([]:List Int).map (Value.int .u8)):=by
   refine⟨rfl,.inr ⟨w.heap.size,0,#[],rfl,A' _,heap_alloc_new _ _,A' _,mV _,rfl,rfl⟩⟩
  have n:=PY (some ad) l.length c;have f:=o.af ((Below.refl w.heap.size w).alloc (A' _) (.cells #[] 5));go_enter func94,ntmps94
  go_wp2_with (at_builtin;refine Aa _ rfl _ _ 52 rfl w.heap.size 5 underlying52 Aw _ _ rfl rfl [] l b f (by simp;omega) (by simp) ?_)
  intro v' w' m g;have d:Bw w w':=((Below.refl w.heap.size w).alloc (A' _) (.cells #[] 5)).grown g (by simp) (λk i=>(b.lt k i).1);go_wp2
  go_ret;exact⟨v',rfl,by simpa using m,d⟩
theorem Ss(n:Int)(w:World)(s:0<=n)(t:n<1073741824) :
  Calls prog 131 #[.int .i64 n] w λe w'=>∃ v',e=.returned v'/\w'.ownsRow w.heap.size 5 1 v' (Ab n).length ((Ab n).map (Value.int .u8))/\Bw w w':=by
 go_enter func131,ntmps131
 go_wp2_with fail
 go_loopw [3,4] (λv iv wr=>∃ j:Nat,j<=4/\iv=.int .i64 (3-(j:Int))/\wr.ownsRow w.heap.size 5 1 v ((Ab n).take j).length (((Ab n).take j).map (Value.int .u8))/\Bw w wr) (λ_ iv _=>(intOf iv+1).toNat)
 case atStart=>exact⟨0,by omega,rfl,World.ownsRow_nil _ _ _ _,Below.refl _ _⟩
 case round =>
  obtain⟨j,q,rfl,a,b⟩:=hrel;have f:=a.lt;have r:=b.size;by_cases p:j<4
  .have:j=0\/j=1\/j=2\/j=3:=by omega
   rcases this with rfl|rfl|rfl|rfl
   .rw[show(3:Int)-((0:Nat):Int)=3 from rfl];go_wp2_with (at_builtin;refine Aa _ rfl _ _ 52 rfl w.heap.size 5 underlying52 Aw _ _ rfl rfl ((Ab n).take 0) [n/16777216%256] (a.alloc _) (Sl.sf _ (n/16777216%256) _ _ rfl (by omega) (by omega)) (by simp[Ab]) (by simp;omega) ?_)
    intro m i d c;have h:Bw w i:=(b.alloc (by omega) _).grown c (by simp;omega) (λk l=>(f k l).1);have g:Hid (i.ownsRow w.heap.size 5 1 m ((Ab n).take 1).length (((Ab n).take 1).map (Value.int .u8))):=d;clear d c a f b;go_wp2
    go_roundw
    case rel=>exact⟨1,by omega,rfl,g.out,h⟩
    case measure=>simp[intOf]
   .rw[show(3:Int)-((1:Nat):Int)=2 from rfl];go_wp2_with (at_builtin;refine Aa _ rfl _ _ 52 rfl w.heap.size 5 underlying52 Aw _ _ rfl rfl ((Ab n).take 1) [n/65536%256] (a.alloc _) (Sl.sf _ (n/65536%256) _ _ rfl (by omega) (by omega)) (by simp[Ab]) (by simp;omega) ?_)
    intro m i d c;have h:Bw w i:=(b.alloc (by omega) _).grown c (by simp;omega) (λk l=>(f k l).1);have g:Hid (i.ownsRow w.heap.size 5 1 m ((Ab n).take 2).length (((Ab n).take 2).map (Value.int .u8))):=d;clear d c a f b;go_wp2
    go_roundw
    case rel=>exact⟨2,by omega,rfl,g.out,h⟩
    case measure=>simp[intOf]
   .rw[show(3:Int)-((2:Nat):Int)=1 from rfl];go_wp2_with (at_builtin;refine Aa _ rfl _ _ 52 rfl w.heap.size 5 underlying52 Aw _ _ rfl rfl ((Ab n).take 2) [n/256%256] (a.alloc _) (Sl.sf _ (n/256%256) _ _ rfl (by omega) (by omega)) (by simp[Ab]) (by simp;omega) ?_)
    intro m i d c;have h:Bw w i:=(b.alloc (by omega) _).grown c (by simp;omega) (λk l=>(f k l).1);have g:Hid (i.ownsRow w.heap.size 5 1 m ((Ab n).take 3).length (((Ab n).take 3).map (Value.int .u8))):=d;clear d c a f b;go_wp2
    go_roundw
    case rel=>exact⟨3,by omega,rfl,g.out,h⟩
    case measure=>simp[intOf]
   .rw[show(3:Int)-((3:Nat):Int)=0 from rfl];go_wp2_with (at_builtin;refine Aa _ rfl _ _ 52 rfl w.heap.size 5 underlying52 Aw _ _ rfl rfl ((Ab n).take 3) [n%256] (a.alloc _) (Sl.sf _ (n%256) _ _ rfl (by omega) (by omega)) (by simp[Ab]) (by simp;omega) ?_)
    intro m i d c;have h:Bw w i:=(b.alloc (by omega) _).grown c (by simp;omega) (λk l=>(f k l).1);have g:Hid (i.ownsRow w.heap.size 5 1 m ((Ab n).take 4).length (((Ab n).take 4).map (Value.int .u8))):=d;clear d c a f b;go_wp2
    go_roundw
    case rel=>exact⟨4,by omega,rfl,g.out,h⟩
    case measure=>simp[intOf]
  .obtain rfl:j=4:=by omega
   rw[show(3:Int)-((4:Nat):Int)=-1 from rfl];have o:Hid _:=a;clear a f;go_wp2
   go_ret;exact⟨_,rfl,o.out,b⟩
theorem dH(x b:Int)(f:0<=x/\x<36028797018963968)(d:0<=b/\b<256):bits .or .i64 (x*256) b=x*256+b:=by
 obtain⟨x,rfl⟩:=mZ f.1;obtain⟨y,rfl⟩:=mZ d.1;have e:(x:Int)*256=((x*256:Nat):Int):=by omega
 have key:(BitVec.ofInt 64 ((x*256:Nat):Int) ||| BitVec.ofInt 64 (y:Int)).toNat=x*256+y:=by
  rw[qD,pF,pF];have a:((y:Int)%((2^64:Nat):Int)).toNat=y:=by omega
  have c:(((x*256:Nat):Int)%((2^64:Nat):Int)).toNat=2^8*x:=by omega
  rw[a,c,<- pa (by omega:y<2^8)];omega
 rw[e];show IntKind.i64.wrap ((BitVec.ofInt 64 ((x*256:Nat):Int) ||| BitVec.ofInt 64 (y:Int)).toNat:Nat)=_;rw[key,IntKind.wrap_i64];omega
def Ku(h:List Int):Nat->Int
 | 0=>0
 | k+1=>Ku h k*256+h.getD k 0
theorem SP{h:List Int}(a:∀ x∈h,0<=x/\x<256)(k:Nat):0<=Ku h k/\Ku h k<256^k:=by
 induction k with
 | zero=>simp[Ku]
 | succ k ih =>
  have:=Al a k;rw[Ku,pS];omega
theorem Sl.tH{n:Nat}(h:Sl w (.slice a n cap) l)(k:Nat)(d:k<l.length):∃ bd od,a=some ⟨bd,od,none⟩/\bd<w.heap.size/\w.cell? ⟨bd,od+k,none⟩=some (.int .u8 (l.getD k 0)):=by
 obtain⟨⟨j,c,e,m,o,f⟩,i,g⟩:=h;simp only[Value.slice.injEq]at e;obtain⟨rfl,rfl,rfl⟩:=e;rcases f with rfl|⟨b,off,rfl,hb,hcell⟩
 .simp at d
 .exact⟨b,off,rfl,hb,hcell k d⟩
theorem OW(v:Value)(l:List Int)(w:World)(h:Sl w v l)(s:l.length=4) :
  Calls prog 201 #[v] w λe w'=>e=.returned (.int .i64 (MX l))/\w'=w:=by
 have o:Hid (Ku l 4=MX l):=by
  unfold Hid;show((((0:Int)*256+l.getD 0 0)*256+l.getD 1 0)*256+l.getD 2 0)*256+l.getD 3 0=_;unfold MX;omega
 have m:Hid (∀ x∈l,0<=x/\x<256):=h.byte;have f:=h;obtain⟨a,c,rfl⟩:=h.shape;rw[s]at f ⊢
 go_enter func201,ntmps201
 go_wp2_with fail
 go_loopw [3,8] (λv iv wr=>∃ j:Nat,j<=4/\iv=.int .i64 (j:Int)/\v=.int .i64 (Ku l j)/\wr=w) (λ_ iv _=>(4-intOf iv).toNat)
 case atStart=>exact⟨0,by omega,rfl,rfl,rfl⟩
 case round =>
  obtain⟨j,u,rfl,rfl,rfl⟩:=hrel;by_cases r:j<4
  .have hii:(j:Int)<4:=by omega
   have g:=SP m.out j;have k:Ku l j<16777216:=by
    have:(256:Int)^j<=256^3:=by
     rcases(by omega:j=0\/j=1\/j=2\/j=3)with rfl|rfl|rfl|rfl<;>decide
    omega
   have n:=Al m.out j;obtain⟨t,od,rfl,p,q⟩:=f.tH j (by omega);have b:=dH (Ku l j) (l.getD j 0) ⟨g.1,by omega⟩ n;have d:Hid (Ku l j*256+l.getD j 0=Ku l (j+1)):=rfl;have i:=g.1;clear g h f;generalize Ku l j=X at i k b d;generalize l.getD j 0=B at n q b d;go_wp2
   go_roundw
   case rel=>exact⟨j+1,by omega,by go_num,by rw[<- d.out],trivial⟩
   case measure=>simp[intOf];omega
  .obtain rfl:j=4:=by omega
   rw[show((4:Nat):Int)=4 from rfl,o.out];go_wp2
   go_ret;exact⟨rfl,rfl⟩
def MI:Array Value:=(List.replicate 12 (Value.int .u8 0)).toArray
theorem kh(w:World):(Instr.makeSlice 52 (.int .i64 8) (.int .i64 12)).run prog w=.ok (.slice (some ⟨w.heap.size,0,none⟩) 8 12) (w.alloc (.cells MI 5)):=by
 obtain⟨i,c,d,a,b⟩:=info_parts Aw;rw[run_makeSlice (P:=prog) w 52 5 i (.int .u8 0) underlying52 c d .i64 .i64 8 12 (by omega) (by omega) (by rw[a];decide) (by rw[b];decide) (by omega),a];have e:madeCells (Value.int .u8 0).cells ((12:Int).toNat*1)=MI:=by kernel_rfl
 rw[e];rfl
theorem Q3(v:Value)(l:List Int)(w:World)(h:Sl w v l)(p:l.length=4) :
  Calls prog 133 #[v] w λe w'=>∃ v',e=.returned v'/\Sl w' v' (CL l)/\Bw w w':=by
 have m:Hid (∀ x∈CL l,0<=x/\x<256):=Q2 h.byte;have g:Hid ((CL l).length=12):=Hk p;have c:=kh w;have a:(w.alloc (.cells MI 5)).ownsRow w.heap.size 5 1 (.slice (some ⟨w.heap.size,0,none⟩) 8 12) (List.replicate 8 (0:Int)).length ((List.replicate 8 (0:Int)).map (Value.int .u8)) :=
  ⟨rfl,.inr ⟨w.heap.size,12,MI,rfl,A' _,heap_alloc_new _ _,by decide,by simp[maxLen],rfl,rfl⟩⟩
 have b0:Bw w (w.alloc (.cells MI 5)):=(Below.refl w.heap.size w).alloc (A' _) _;have b:=h.af b0;have f:w.heap.size<=(w.alloc (.cells MI 5)).heap.size:=b0.size;generalize w.alloc (.cells MI 5)=W at c a b0 b f;go_enter func133,ntmps133
 go_wp2_with (at_builtin;refine Aa _ rfl _ _ 52 rfl w.heap.size 5 underlying52 Aw _ _ rfl rfl (List.replicate 8 0) l a b (by simp;omega) f ?_)
 intro v' w' j i;have d:Bw w w':=b0.grown i f (λk o=>(a.lt k o).1);have n:Hid (w'.ownsRow w.heap.size 5 1 v' (CL l).length ((CL l).map (Value.int .u8))):=by
  unfold Hid;rw[g.out];exact j
 clear j i a b c;go_wp2
 go_ret;exact⟨v',rfl,Sl.nn n.out (by rw[g.out];omega) m.out,d⟩
theorem Sl.first{n:Nat}(h:Sl w (.slice a n cap) l)(m:Nat)(o:m<=l.length)(r:0<m):Sl w (.slice (a.map (·.add 0)) m m) (l.take m):=by
 obtain⟨⟨q,d,e,s,t,f⟩,k,c⟩:=h;simp only[Value.slice.injEq]at e;obtain⟨rfl,rfl,rfl⟩:=e;have j:(l.take m).length=m:=by rw[X'];omega
 rcases f with rfl|⟨b,off,rfl,hb,hcell⟩
 .simp at o;omega
 .have hadd:(⟨b,off,none⟩:Addr).add 0=⟨b,off,none⟩:=by unfold Addr.add;simp
  refine⟨⟨some ⟨b,off,none⟩,m,by rw[j,nm,hadd],by omega,by simp,.inr ⟨b,off,rfl,hb,λi g=>?_⟩⟩,by omega,λx p=>c x (mL p)⟩;rw[hcell i (by omega),AZ (by omega),AZ g];simp
theorem XH(a:Option Addr)(n b:Nat)(c:4<=b):∀ W,(Instr.slice 52 (.slice a n b) none (some (.int .i64 4)) (some (.int .i64 4))).run prog W=.ok (.slice (a.map (·.add 0)) 4 4) W:=by
 intro W;rw[run_slice_hm (P:=prog) W 52 a n b underlying52 .i64 .i64 4 4 (by omega) (by omega) (by omega)];have e:prog.elem 52=5:=by kernel_rfl
 rw[e,FO];simp[Result.andThen,sliced]
end
section
variable{P:Program}{fn:Func}{R:Ending->World->Prop}{w0:World}{Φ:List Fa}{g:Gh}{w:World}
theorem iN{P:Program}{W:World}(t j e:TypeId)(i:TypeInfo)(g:P.underlying t=some (.slice e))(f:P.info? e=some i)(x y:S3)(d:x.n<=x.c)(h:y.n=0):(Builtin.append_ #[t,t] j #[x.v,y.v]).run P W=.ok x.v W:=by
 obtain⟨b,l,k⟩:=x;obtain⟨m,q,o⟩:=y;simp only at h d;subst h;show(Builtin.append_ #[t,t] j #[.slice b l k,.slice m 0 o]).run P W=.ok (.slice b l k) W;cases m with
 | none=>cases b<;>simp[Builtin.append_,run_underlying g,sizeOf,typeInfo,f,Builtin.lenOf,run_firstCells_none,d,storeCells]
 | some a =>
  have p:=run_firstCells_some (P:=P) W i.size 0 a 0 o [] (by simp) (by simp);cases b<;>simp[Builtin.append_,run_underlying g,sizeOf,typeInfo,f,Builtin.lenOf,run_firstCells_none,p,d,storeCells]
theorem lw{s:Xs}(i:Nat)(r:Nat){x:S3}{xs:List Value}(y:S3)(news:List Value)(t O e:TypeId)(q a:Nat)(z:Value)(M:AllF g w Φ->OwnS g w (.n 60 r) true e q x xs)(S:AllF g w Φ->RdV w y q news)(Ψ:List Fa)(E:AllF g w Φ->AllF g w Ψ)(J:Ψ.all (λf=>f.ro != some r)=true)(I:Tg.n 60 r∈TQ)
  (T:∀ u∈news,u.oneCell'=true)(B:x.n+y.n<=maxLen)(k:(x.n+y.n)*a<=140737488355328)
  (H:∀ x' g' w',x'.n=x.n+y.n->GT P fn R w0 (Fa.ow r e q x' (xs++news)::Ψ) (nxt s i (S3.v x') s.L).s g' w')(K:0<q:=by decide)
  (Q:P.underlying t=some (.slice e):=by kernel_rfl)(d:(P.info? e).map (λi=>(i.zero,i.size,i.bytes))=some (some z,q,a):=by kernel_rfl)(N:Nat.beq z.cells.size q=true:=by kernel_rfl)
  (p:Du s i=some (Builtin.append_ #[t,t] O #[x.v,y.v]>>=λv=>pure (.value v)):=by kernel_rfl)(D:(nxt s i undef s.L).o.map Ob.l'=(nxt s i undef s.L).o.map Ob.r':=by kernel_rfl)(U:s.L.all (λy=>[Tg.n 60 r].all λt=>y.t.ne t)=true:=by kernel_rfl):GT P fn R w0 Φ s g w:=by
 refine tF λF C=>?_;have G:=S F;have V:x.n<=x.c:=by rcases(M F).ex with⟨_,h,h'⟩|⟨_,_,_,_,h,_⟩<;>omega
 by_cases A:y.n=0
 .obtain⟨inf,hi⟩:∃ inf,P.info? e=some inf:=by cases hh:P.info? e with|none=>rw[hh]at d;cases d|some j=>exact⟨j,rfl⟩
  obtain rfl:news=[]:=j' (by rw[G.len,A,qj]);refine tV i x.v (λ_ _=>iN t O e inf Q hi x y V A) ?_ p D;exact tCv (Fa.ow r e q x (xs++[])::Ψ) (λF=>⟨by rw[mT];exact M F,E F⟩) (H x g w (by omega))
 .obtain⟨b,off,ha,_,_⟩:=G.spot (i:=0) (by omega);obtain⟨X,m,c⟩:=y;simp only at ha A B k H p G;subst ha;refine Mh i r (x:=x) (xs:=xs) t O e q a z ⟨b,off,none⟩ m c news M Ψ E J I G.len T (λF _ j u W=>?_) B k H (qk A) K Q d N p D U;rcases(S F).ex with h2|⟨b2,off2,k1,k2,k3⟩
  .exact absurd h2 A
  .cases k1;have:(⟨b,off,none⟩:Addr).add j=⟨b,off+j,none⟩:=by unfold Addr.add;split<;>simp_all
   rw[this];exact k3 j u W
end
section
variable{A D K N P R key l:List Int}{B cap:Nat}{a:Option Addr}{c n:Int}{k p u x y z:S3}{v:Value}{w:World}
theorem dK{e:Nat}(h:w.ownsRow B e 1 v l.length (l.map (Value.int .u8))):∃ y:S3,v=y.v/\OwN B w e 1 y (l.map (Value.int .u8)):=by
 rcases h.2 with⟨rfl,h0⟩|⟨g,cap,cur,rfl,h1,h2,h3⟩
 .exact⟨s30,rfl,by rw[mO,h0];rfl,.inl ⟨rfl,rfl,rfl⟩⟩
 .exact⟨⟨some ⟨g,0,none⟩,l.length,cap⟩,rfl,by simp,.inr ⟨g,cur,h1,rfl,h2,h3⟩⟩
theorem RdV.sl(h:RdV w y 1 (l.map (Value.int .u8)))(g:l.length<=140737488351232)(e:∀ x∈l,0<=x/\x<256):Sl w y.v l:=by
 have d:y.n=l.length:=by have:=h.len;simp at this;omega
 refine⟨⟨y.a,y.c,by rw[<- d],by rw[<- d];exact h.cap,h.so,?_⟩,g,e⟩;rcases h.ex with h0|⟨b,off,h1,h2,h3⟩
 .exact .inl (j' (by omega))
 .exact .inr ⟨b,off,h1,h2,λi f=>h3 i _ (by simp[f])⟩
theorem Sl.rdv(h:Sl w y.v l):RdV w y 1 (l.map (Value.int .u8)):=by
 have g:=EW h;obtain⟨⟨a,k,i,r,o,n⟩,s,q⟩:=h;simp only[S3.v,Value.slice.injEq]at i;obtain⟨d,p,m⟩:=i;refine⟨by simp[g],by omega,λe=>by rw[m];exact o (d▸e),?_⟩;rcases n with rfl|⟨b,off,h1,h2,h3⟩
 .exact .inl g
 .refine .inr ⟨b,off,d.trans h1,h2,λj u f=>?_⟩;have c:j<l.length:=by simpa using(V'.1 f).1
  rw[h3 j c,<- f];simp[c]
theorem OwN.sV(h:OwN B w 5 1 y (l.map (Value.int .u8)))(e:l.length<=140737488351232)(d:∀ x∈l,0<=x/\x<256):Sl w y.v l/\Nb B y l :=
 ⟨h.rv.sl e d,λ_ a c=>by
  rcases h.ex with⟨h1,_⟩|⟨b,_,h0,h1,_⟩
  .rw[h1]at c;cases c
  .rw[h1]at c;cases c;exact h0⟩
theorem fX(h:Sl w v l)(n:NwV B v):∃ z:S3,v=z.v/\Sl w z.v l/\Nb B z l:=by
 obtain⟨z,rfl,d⟩:=ah h;exact⟨z,rfl,d,λ_ a b=>n a z.n z.c (by unfold S3.v;rw[b])⟩
theorem KX(h:Sl w x.v l):Calls prog 94 #[x.v] w λe w'=>∃ z:S3,e=.returned z.v/\Sl w' z.v l/\Nb w.heap.size z l/\Bw w w' :=
 (Vj _ l w h).mono λe w' ⟨v,a,b,c⟩=>let ⟨z,h4,h5,h6⟩:=Jq b h.len h.byte;⟨z,by rw[a,h4],h5,h6,c⟩
theorem cV(h:0<=n/\n<1073741824):Calls prog 131 #[iv n] w λe w'=>∃ y:S3,e=.returned y.v/\OwN w.heap.size w' 5 1 y ((Ab n).map (Value.int .u8))/\Bw w w' :=
 (Ss n w h.1 h.2).mono λe w' ⟨v,a,b,c⟩=>let ⟨z,h4,h5⟩:=dK b;⟨z,by rw[a,h4],h5,c⟩
theorem eB(h:Sl w x.v K)(i:Sl w u.v N)(f:Sl w y.v A)(j:Sl w z.v P)(g:Hc K N A=true)(l:P.length<=2000)(k:Di w):Calls prog 132 #[x.v,u.v,y.v,z.v] w λe w'=>∃ v:S3,e=.returned (.tuple #[v.v,iv 0])/\Sl w' v.v (G7 K N A P)/\Nb w.heap.size v (G7 K N A P)/\Bw w w' :=
 (ZR _ _ _ _ K N A P w h i f j g l k).mono λe w' ⟨v,a,b,c,d⟩=>let ⟨q,h5,h6,h7⟩:=fX b c;⟨q,by rw[a,h5],h6,h7,d⟩
theorem Zg(i:Sl w x.v K)(j:Sl w u.v N)(g:Sl w y.v A)(h:Sl w z.v D)(k:Di w){E:Int}(f:Fi K N A D=E):Calls prog 203 #[x.v,u.v,y.v,z.v] w λe w'=>∃ v:S3,e=.returned (.tuple #[v.v,iv E])/\Sl w' v.v (Q8 K N A D)/\Nb w.heap.size v (Q8 K N A D)/\Bw w w' :=
 (VX _ _ _ _ K N A D w i j g h k).mono λe w' ⟨v,a,b,c,d⟩=>let ⟨q,h5,h6,h7⟩:=fX b c;⟨q,by rw[a,h5,f],h6,h7,d⟩
theorem Q4(h:Sl w x.v l)(d:l.length=4):Calls prog 133 #[x.v] w λe w'=>∃ z:S3,e=.returned z.v/\Sl w' z.v (CL l)/\Bw w w' :=
 (Q3 _ l w h d).mono λe w' ⟨v,a,b,c⟩=>let ⟨q,h4,h5⟩:=ah b;⟨q,by rw[a,h4],h5,c⟩
theorem VT(h:Sl w x.v l)(d:l.length=4){N:Int}(c:MX l=N):Calls prog 201 #[x.v] w λe w'=>e=.returned (iv N)/\Bw w w' :=
 (OW _ l w h d).mono λe w' ⟨a,b⟩=>by subst b c;exact⟨a,Below.refl _ _⟩
theorem Sl.sK{n:Nat}(h:Sl w (.slice a n cap) l)(b:Nat)(d:b<=l.length) :
  ∃ a' c',(∀ W,(Instr.slice 52 (.slice a n cap) (some (.int .i64 (b:Int))) none none).run prog W=.ok (.slice a' (n-b) c') W)/\∀ w2,Sl w2 (.slice a n cap) l->Sl w2 (.slice a' (n-b) c') (l.drop b):=by
 have j:=λw2 (c:Sl w2 (.slice a n cap) l)=>c.rI b l.length d (A' _);obtain⟨⟨a',f,e,m,o,k⟩,i,g⟩:=h;simp only[Value.slice.injEq]at e;obtain⟨rfl,rfl,rfl⟩:=e;refine⟨_,_,λW=>?_,λw2 c=>by simpa[sliced]using j w2 c⟩;rw[run_slice_l (P:=prog) W 52 a _ cap underlying52 .i64 _ (by omega) (by omega)];have e:prog.elem 52=5:=by kernel_rfl
 rw[e,FO];simp[Result.andThen,sliced]
theorem gO(h:Sl w x.v l)(g:4<=l.length):∃ y z:S3,(∀ w2,Sl w2 x.v l->Sl w2 y.v (l.take 4)/\Sl w2 z.v (l.drop 4))/\Calls prog 200 #[x.v] w λe w'=>e=.returned (.tuple #[y.v,z.v])/\Bw w w':=by
 have t:=EW h;have s:x.n<=x.c:=h.rdv.cap;obtain⟨b,d,j,o⟩:=h.sK 4 g;have i:=XH x.a x.n x.c (by omega);have m:∀ W,(Instr.sliceAt 52 x.v none (some (iv 4)) (some (iv 4))).run prog W=.ok (.slice (x.a.map (·.add 0)) 4 4) W:=λW=>by rw[run_sliceAt_slice _ _ _ _ _ _ TD];exact i W
 have k:∀ W,(Instr.sliceAt 52 x.v (some (iv 4)) none none).run prog W=.ok (.slice b (x.n-4) d) W:=λW=>by rw[run_sliceAt_slice _ _ _ _ _ _ TD];exact j W
 refine⟨⟨x.a.map (·.add 0),4,4⟩,⟨b,x.n-4,d⟩,λw2 f=>⟨f.first 4 g (by omega),o w2 f⟩,?_⟩;refine tIn [] func200 trivial (tR 8 [6,0] λp _ _=>tT 1 (.slice (x.a.map (·.add 0)) 4 4) (λ_=>(m _)) (tR 1 [4] λq _ _=>tT 3 (.slice b (x.n-4) d) (λ_=>(k _)) (tR 3 [8,10] λr _ _=>tE (.tuple #[.slice (x.a.map (·.add 0)) 4 4,.slice b (x.n-4) d]) λ_ B=>⟨rfl,B⟩)))
theorem i6(c:Sl w x.v key)(k:key.length=32) :
  Calls prog 168 #[x.v] w λe w'=>∃ y:S3,e=.returned (.tuple #[.agg #[S3.v y,iv 0,iv 0,.bool false,.bool false,.bool false,.bool false,.bool false,.bool false,.bool false,.bool false],iv 0])/\Sl w' y.v key/\Nb w.heap.size y key/\Bw w w':=by
 have m:x.n=32:=(EW c).trans k;refine tIn [] func168 trivial (tR 12 [1,0] λb _ _=>tI (((x.n:Int) != 32)) false (by rw[m];rfl) (tR 4 [] λp _ _=>tF λ_ f=>?_));have l:=f.size;refine tC 1 (λF C=>KX (c.af (CgQ.af C))) λg=>?_;rintro _ _ ⟨y,rfl,o,d,i⟩;refine⟨_,Fa.sl y key::_,rfl,i,λF=>⟨Ct o d g,F⟩,?_⟩;refine tR 4 [0,0] λq _ _=>tX λF C=>qE2 2 3 130 0 (b 0) #[S3.v y,iv 0,iv 0,.bool false,.bool false,.bool false,.bool false,.bool false,.bool false,.bool false,.bool false] (iv 0) λ_=>⟨y,rfl,F.1.s,λh a j=>my l (d h a j),CgQ.af C⟩
theorem eD(j:Sl w k.v K)(i:K.length=32)(d:Sl w p.v P)(G:P.length<=2000)(h:0<=n/\n<1073741824)(m:Di w) :
  Calls prog 93 #[.agg #[S3.v k,iv n,iv 0,.bool false,.bool false,.bool false,.bool false,.bool false,.bool false,.bool false,.bool false],p.v] w λe w'=>∃ z:S3,e=.returned (.tuple #[z.v,iv 0])/\Sl w' z.v (Kw K n P)/\Nb w.heap.size z (Kw K n P)/\Bw w w':=by
 have c:k.n=32:=(EW j).trans i;have I:=EW d;have f:=d.byte;refine tIn [Fa.sl k K,Fa.sl p P] func93 ⟨⟨j,λ_ _ _=>rfl⟩,⟨d,λ_ _ _=>rfl⟩,trivial⟩ (tR 10 [0,0,0] λO _ _=>tC1 1 (λF C=>NK (n:=n) c ⟨by omega,by omega⟩) λ_=>tR 16 [] λQ _ _=>tI ((decide (2000<(p.n:Int)))) false (E' (by omega)) (tR 8 [0] λR _ _=>tI ((n==1073741824)) false (by simp;omega) (tR 5 [0] λS _ _=>tG 2 [true] 0 (λF C=>cV h) λb=>?_)));rintro _ _ ⟨y,rfl,a,b0⟩;refine⟨_,[Fa.ow 0 5 1 y ((Ab n).map (Value.int .u8)),Fa.sl k K,Fa.sl p P],_,_,_,_,rfl,b0,a,λ_=>⟨λF a _=>⟨a,F⟩,?_⟩⟩;refine tR 9 [12,0,2,0,4,8,10] λT _ _=>tC 3 (λF C=>Q4 (F.1.rv.sl (by rw[BE];omega) (Av n)) rfl) λb=>?_;rintro _ _ ⟨u,rfl,L,A⟩;refine⟨_,_,rfl,A,id,?_⟩;refine tC 6 (λF C=>eB F.2.1.s L (F.1.rv.sl (by rw[BE];omega) (Av n)) F.2.2.1.s (cI i (Hk rfl) (by rw[BE];omega)) G (m.af m.pos (CgQ.af C))) λb=>?_;rintro _ _ ⟨z,rfl,o,g,B⟩;refine⟨_,Fa.sl z (G7 K (CL (Ab n)) (Ab n) P)::_,rfl,B,λF=>⟨Ct o g b,F⟩,?_⟩;have N:=EW o;have H:(G7 K (CL (Ab n)) (Ab n) P).length=P.length+16:=by have:=EI K n P;unfold Kw at this;rw[H',BE]at this;omega
 refine tF λF _=>?_;have M:y.n=4:=by have:=F.2.1.len;simp[BE]at this;omega
 refine tR 18 [14,16,18,20,22] λr _ _=>lw 2 0 (x:=y) z ((G7 K (CL (Ab n)) (Ab n) P).map (Value.int .u8)) 52 52 5 1 1 (.int .u8 0) (λF=>F.2.1) (λF=>F.1.s.rdv) [] (λ_=>trivial) rfl (by simp[TQ]) (by intro q J;obtain⟨_,_,rfl⟩:=mQ.1 J;rfl) (by unfold maxLen;omega) (by omega) λq _ _ _=>tR 3 [] λt _ _=>tX λF C=>qE (.tuple #[S3.v q,iv 0]) λ_=>?_;have a:=F.1.own C;rw[<- mS]at a
 obtain⟨D,E⟩:=OwN.sV (l:=Kw K n P) a (by rw[EI];omega) (Wn _ _ f);exact⟨q,rfl,D,E,CgQ.af C⟩
theorem eC(q:Sl w k.v K)(l:K.length=32)(r:Sl w p.v P)(m:P.length<=2000)(h:0<=n/\n<1073741824)(f:Di w) :
  Calls prog 50 #[.agg #[S3.v k,iv n,iv 0,.bool false,.bool false,.bool false,.bool false,.bool false,.bool false,.bool false,.bool false],p.v] w λe w'=>∃ u z:S3,e=.returned (.tuple #[.agg #[S3.v u,iv (n+1),iv 0,.bool false,.bool false,.bool false,.bool false,.bool false,.bool false,.bool false,.bool false],z.v,iv 0])/\Sl w' z.v (Kw K n P)/\Nb w.heap.size z (Kw K n P)/\Bw w w':=by
 refine tIn [Fa.sl k K,Fa.sl p P] func50 ⟨⟨q,λ_ _ _=>rfl⟩,⟨r,λ_ _ _=>rfl⟩,trivial⟩ (tR 11 [1,0,1,0,0] λc _ _=>tF λ_ g=>?_);have t:=g.size;refine tC 2 (λF C=>eD F.1.s l F.2.1.s m h (f.af f.pos (CgQ.af C))) λd=>?_;rintro _ _ ⟨z,rfl,x,b,i⟩;refine⟨_,Fa.sl z (Kw K n P)::_,rfl,i,λF=>⟨Ct x b d,F⟩,?_⟩;refine tR 18 [0] λy _ _=>tC 2 (λF C=>KX F.2.1.s) λd=>?_;rintro _ _ ⟨u,rfl,D,_,j⟩;refine⟨_,_,rfl,j,id,?_⟩;refine tR 7 [0,0,0] λA _ _=>tV 2 (iv (n+1)) (λF C=>(AO 24 n underlying3 (by omega))) (tR 11 [0,0,0,1,0] λB _ _=>tX λF C=>qE3 4 5 6 130 1 (c 1) #[S3.v u,iv (n+1),iv 0,.bool false,.bool false,.bool false,.bool false,.bool false,.bool false,.bool false,.bool false] (S3.v z) (iv 0) λ_=>⟨u,z,rfl,F.1.s,λh a o=>my t (b h a o),CgQ.af C⟩)
theorem fZ(d:K.length=32)(e:∀ x∈R,0<=x/\x<256)(b:20<=R.length):Kc K 0 0 noB R=if 2020<R.length then 1 else if 1073741824<=MX (R.take 4)then 2 else Fi K (CL (R.take 4)) (R.take 4) (R.drop 4):=by
 have c:(R.take 4).length=4:=by rw[X'];omega
 have a:=(LG c λx f=>e x (mL f)).1;unfold Kc;rw[if_neg (λg=>g (OkC.new d 0 (by omega) (by omega)))];split
 .rfl
 .rw[if_neg (by omega)];split
  .rfl
  .rw[if_neg (by rw[dE a];simp)]
theorem lx(b:K.length=32)(a:R.length<20):Kc K 0 0 noB R=13:=by
 unfold Kc;rw[if_neg (λg=>g (OkC.new b 0 (by omega) (by omega))),if_neg (by omega),if_pos a]
theorem aO{r:S3}(H:Sl w k.v K)(j:K.length=32)(t:Sl w r.v R)(I:Di w){E:Int}(b:Kc K 0 0 noB R=E) :
  Calls prog 188 #[.agg #[S3.v k,iv 0,iv 0,.bool false,.bool false,.bool false,.bool false,.bool false,.bool false,.bool false,.bool false],r.v] w λe w'=>∃ (v:S3) (n:Int),e=.returned (.tuple #[v.v,iv n,iv E])/\(E=0->(0<=n/\n<1073741824)/\Sl w' v.v (Mn K R)/\Nb w.heap.size v (Mn K R))/\Bw w w':=by
 have q:k.n=32:=(EW H).trans j;have V:=EW t;have d:=t.byte;refine tIn [Fa.sl k K,Fa.sl r R] func188 ⟨⟨H,λ_ _ _=>rfl⟩,⟨t,λ_ _ _=>rfl⟩,trivial⟩ (tR 11 [0,0,0] λa0 _ _=>tC1 1 (λF C=>NK (n:=0) q ⟨by omega,by omega⟩) λ_=>tR 16 [] λa1 _ _=>?_);by_cases D:2020<R.length
 .refine tI ((decide (2020<(r.n:Int)))) true (M' (by omega)) (tR 6 [] λa2 _ _=>?_);obtain rfl:1=E:=by rw[<- b,fZ j d (by omega),if_pos D]
  exact tE (.tuple #[.slice none 0 0,iv 0,iv 1]) λ_ B=>⟨s30,0,rfl,λh=>absurd h (by decide),B⟩
 .refine tI ((decide (2020<(r.n:Int)))) false (E' (by omega)) (tR 8 [] λa3 _ _=>?_);by_cases T:R.length<20
  .refine tI ((decide ((r.n:Int)<20))) true (M' (by omega)) (tR 6 [] λa4 _ _=>?_);obtain rfl:13=E:=by rw[<- b,lx j T]
   exact tE (.tuple #[.slice none 0 0,iv 0,iv 13]) λ_ B=>⟨s30,0,rfl,λh=>absurd h (by decide),B⟩
  .refine tI ((decide ((r.n:Int)<20))) false (E' (by omega)) (tR 4 [] λa5 _ _=>?_);have p:(R.take 4).length=4:=by rw[X'];omega
   rw[fZ j d (by omega),if_neg D]at b
   obtain⟨N,G⟩:∃ N,MX (R.take 4)=N:=⟨_,rfl⟩;have c:=(LG p λx Z=>d x (mL Z)).1;rw[G]at b c
   refine tF λF _=>?_;obtain⟨y,z,l,f⟩:=gO F.2.1.s (by omega);refine tC1 1 (λF C=>f) λ_=>tR 9 [] λa6 _ _=>tC1 1 (λF C=>VT (l _ F.2.1.s).1 p G) λ_=>tR 8 [] λJ _ _=>?_;by_cases i:1073741824<=N
   .refine tI ((decide (1073741824<=N))) true (M' i) (tR 6 [] λL _ _=>?_);obtain rfl:2=E:=by rw[<- b,if_pos i]
    exact tE (.tuple #[.slice none 0 0,iv 0,iv 2]) λ_ B=>⟨s30,0,rfl,λh=>absurd h (by decide),B⟩
   .refine tI ((decide (1073741824<=N))) false (E' i) ?_;rw[if_neg i]at b
    refine tR 5 [0] λM _ _=>tC1 1 (λF C=>MB (k:=k) (n:=0)) λ_=>tR 1 [] λO _ _=>tC1 3 (λF C=>Y0 c) λ_=>tR 10 [12,0,2,0,4,8,10] λP _ _=>tC 3 (λF C=>Q4 (l _ F.2.1.s).1 p) λA=>?_;rintro _ _ ⟨u,rfl,X,m⟩;refine⟨_,_,rfl,m,id,?_⟩;refine tF λ_ S=>?_;have W:=S.size;refine tC 6 (λF C=>Zg F.1.s X (l _ F.2.1.s).1 (l _ F.2.1.s).2 (I.af I.pos (CgQ.af C)) b) λA=>?_;rintro _ _ ⟨v,rfl,Y,g,o⟩;refine⟨_,Fa.sl v (Mn K R)::_,rfl,o,λF=>⟨Ct Y g A,F⟩,?_⟩;refine tR 15 [14,16,18,20,22] λQ _ _=>tE (.tuple #[S3.v v,iv N,iv E]) λF B=>⟨v,N,rfl,λ_=>⟨⟨c,by omega⟩,F.1.s,λh a U=>my W (g h a U)⟩,B⟩
theorem UG{r:List Int}(H:Sl w x.v key)(I:key.length=32)(K:Sl w y.v r)(p:Di w){E:Int}(G:Kc key 0 0 noB r=E) :
  Calls prog 169 #[.agg #[S3.v x,iv 0,iv 0,.bool false,.bool false,.bool false,.bool false,.bool false,.bool false,.bool false,.bool false],y.v] w λe w'=>∃ (c v:S3) (t:Int) (x0 x1 x2 x3 x4 x5 x6 x7:Bool),e=.returned (.tuple #[.agg #[c.v,iv 0,iv t,.bool x0,.bool x1,.bool x2,.bool x3,.bool x4,.bool x5,.bool x6,.bool x7],v.v,iv E])/\Sl w' v.v (if E=0 then Mn key r else[])/\Nb w.heap.size v (if E=0 then Mn key r else[])/\Bw w w':=by
 refine tIn [Fa.sl x key,Fa.sl y r] func169 ⟨⟨H,λ_ _ _=>rfl⟩,⟨K,λ_ _ _=>rfl⟩,trivial⟩ (tR 11 [1,0,1,0,0] λd _ _=>tF λ_ B=>?_);have o:=B.size;refine tC 2 (λF C=>aO F.1.s I F.2.1.s (p.af p.pos (CgQ.af C)) G) λm=>?_;rintro _ _ ⟨v,n,rfl,l,D⟩;refine⟨_,Fa.sl (if E=0 then v else s30) (if E=0 then Mn key r else[])::_,rfl,D,λF=>⟨by split;(rename_i e;exact Ct (l e).2.1 (l e).2.2 m);exact Sg _ _,F⟩,?_⟩;refine tR 14 [] λL _ _=>?_;by_cases i:E≠0
 .refine tI ((E != 0)) true (by simpa using i) (tR 8 [1,0] λM _ _=>tX λF C=>qE3 4 5 6 130 1 (d 1) #[S3.v s30,iv 0,iv 0,.bool false,.bool false,.bool false,.bool false,.bool false,.bool false,.bool false,.bool false] (S3.v s30) (iv E) λ_=>⟨s30,s30,0,false,false,false,false,false,false,false,false,rfl,by rw[if_neg i];exact EB _,λ_ a f=>(by cases f),CgQ.af C⟩)
 .refine tI ((E != 0)) false (by simpa using i) ?_;have b:E=0:=mz.1 i;obtain⟨J,_,g⟩:=l b;refine tR 4 [0] λN _ _=>tC1 1 (λF C=>MB (k:=x) (n:=0)) λ_=>tR 1 [] λO _ _=>tC1 3 (λF C=>fu J) λ_=>tR 7 [1,0,2,0,0] λP _ _=>tC 2 (λF C=>KX F.2.1.s) λm=>?_;rintro _ _ ⟨u,rfl,Q,_,j⟩;refine⟨_,_,rfl,j,id,?_⟩;refine tR 9 [0,0,5,0,2,2,4,8] λq _ _=>Ih 3 5 ?_ ?_
  .refine tR 13 [2,11,0,0,12,15,0,0,0,1,0] λz _ _=>tX λF C=>qE3 4 5 6 130 1 (d 1) #[S3.v u,iv 0,iv (n+1),.bool false,.bool false,.bool false,.bool false,.bool false,.bool false,.bool false,.bool true] (S3.v v) (iv 0) λ_=>⟨u,v,n+1,false,false,false,false,false,false,false,true,by rw[b],by have:=F.1.s;rwa [if_pos b]at this,by rw[if_pos b];exact λh a f=>my o (g h a f),CgQ.af C⟩
  .refine tR 13 [0,0,7,2,12,15,0,0,0,1,0] λA _ _=>tX λF C=>qE3 4 5 6 130 1 (d 1) #[S3.v u,iv 0,iv (n+1),.bool false,.bool false,.bool false,.bool false,.bool false,.bool false,.bool false,.bool true] (S3.v v) (iv 0) λ_=>⟨u,v,n+1,false,false,false,false,false,false,false,true,by rw[b],by have:=F.1.s;rwa [if_pos b]at this,by rw[if_pos b];exact λh a f=>my o (g h a f),CgQ.af C⟩
def NV(k:Nat):Int:=if k=1 then 2 else if k=2 then 1 else if k=3 then 4 else 0
theorem NTab.right(h:NTab w)(k:Nat)(a:k<=3):w.cell? ⟨2,k*3,none⟩=some (.int .i64 (NV k)):=by
 rcases(by omega:k=0\/k=1\/k=2\/k=3)with rfl|rfl|rfl|rfl
 .exact h.cell 0 (by omega)
 .exact h.cell 3 (by omega)
 .exact h.cell 6 (by omega)
 .exact h.cell 9 (by omega)
theorem V4(k:Nat)(r:Int)(c:k<=3)(a:0<=r)(b:r<=7):(bits .and .i64 r (NV k)=0)↔¬ MK (k:Int) r:=by
 have all:∀ (i:Fin 4) (j:Fin 8),(bits .and .i64 ((j.val:Nat):Int) (NV i.val)=0)↔¬ MK ((i.val:Nat):Int) ((j.val:Nat):Int):=by decide +kernel
 obtain⟨m,rfl⟩:=mZ a;exact all ⟨k,by omega⟩ ⟨m,by omega⟩
theorem R3(b d f k c s n v a:Int)(w:World)(K:NTab w) :
  Calls prog 109 #[.agg (tkA b d f),.agg (cmA k c s n v),.int .i64 a] w λe w'=>e=.returned (.int .i64 (Fw b d f k c s n v a))/\Bw w w':=by
 have j:Bw w (w.alloc (.cells (tkA b d f) 81)):=(Below.refl _ _).alloc (A' _) _;have i:=Bt.made w b d f;have M:(w.alloc (.cells (tkA b d f) 81)).heap.size=w.heap.size+1:=by simp
 have l:Below (w.alloc (.cells (tkA b d f) 81)).heap.size (w.alloc (.cells (tkA b d f) 81)) ((w.alloc (.cells (tkA b d f) 81)).alloc (.cells (cmA k c s n v) 51)):=(Below.refl _ _).alloc (A' _) _;have o:=Bc.made (w.alloc (.cells (tkA b d f) 81)) k c s n v;replace i:=i.af l;have z:=j.trans (l.mono j.size);have r:=K.af z;rw[M]at o
 clear j l K M;have H:=GM k c s n v;have I:=IQ b d f;generalize T:(w.alloc (.cells (tkA b d f) 81)).alloc (.cells (cmA k c s n v) 51)=W at z i o r;go_enter func109,ntmps109
 go_wp2_with (refine wpList_load_row rfl 81 _ rfl w.heap.size rfl 81 _ (0,0) _ i.row underlying81 rfl I ?_)
 clear T;refine(Jl b d f _).mono ?_;rintro e X ⟨rfl,j⟩;have C:Bw w X:=z.trans (j.mono z.size);replace i:=i.af j;replace o:=o.af j;replace r:=r.af j;clear j z;by_cases q:D2 b d f
 .rw[M' q];go_wp2_with (refine wpList_load_row rfl 51 _ rfl (w.heap.size+1) rfl 51 _ (0,0) _ o.row underlying51 rfl H ?_)
  refine(Ex k c s n v _ r).mono ?_;rintro e t ⟨rfl,l⟩;have D:Bw w t:=C.trans (l.mono C.size);replace i:=i.af l;replace o:=o.af l;replace r:=r.af l;clear l C;by_cases A:Bi k c s n v=0
  .have hz:=Fd A;obtain⟨m,rfl⟩:=mZ hz.1.1;have Z:(0:Int)<=(m:Int):=by omega
   have k1:(m:Int)<4:=by omega
   have k2:m<4:=by omega
   have G:=r.right m (by omega);have B:=V4 m d (by omega) q.2.1.1 q.2.1.2;obtain⟨N,O,P,Q,S⟩:=Fc o.row;obtain⟨U,V,L⟩:=J6 i.row;have x:Hid (D2 b d f):=q;have y:Hid (Bi (m:Int) c s n v=0):=A;rw[A];clear q A hz i o r;by_cases u:c=b
   .have h3':decide (c=b)=true:=M' u;by_cases E:bits .and .i64 d (NV m)=0
    .have h:Hid (11=Fw b d f (m:Int) c s n v a):=(KO x.out y.out (λg=>B.1 E g.1)).symm;have Y:Hid (c=b):=u;clear B x y;subst u;clear h3';generalize NV m=R at G E;go_wp2_with fail
     go_quiet (fail)
     have p:Bw w (t.drewN nq):=Aq D nq;generalize t.drewN nq=w3 at p ⊢;go_wp2
     go_ret;exact⟨CT h.out,p⟩
    .have HR:Hid (MK (m:Int) d/\c=b):=⟨Classical.not_not.1 λg=>E (B.2 g),u⟩;clear B;subst u;clear h3';generalize NV m=R at G E;go_wp2_with fail
     go_quiet (fail)
     have p:Bw w (t.drewN nq):=Aq D nq;have J:(t.drewN nq).cell? ⟨w.heap.size,2,none⟩=some (.int .i64 f):=by simpa using L
     generalize t.drewN nq=w3 at p J ⊢;clear N O P Q S U V L G;go_wp2_with fail
     refine(Fq a f _).mono ?_;rintro e w4 ⟨rfl,rfl⟩;by_cases F:0<=a/\a<=f
     .rw[M' F];have h:Hid (0=Fw c d f (m:Int) c s n v a):=(bG x.out y.out ⟨HR.out.1,rfl⟩ F).symm;go_wp2
      go_ret;exact⟨CT h.out,p⟩
     .rw[E' F];have h:Hid (10=Fw c d f (m:Int) c s n v a):=(Vc x.out y.out ⟨HR.out.1,rfl⟩ F).symm;go_wp2
      go_ret;exact⟨CT h.out,p⟩
   .have h3':decide (c=b)=false:=E' u;have h:Hid (11=Fw b d f (m:Int) c s n v a):=(KO x.out y.out (λg=>u g.2)).symm;clear B x y;go_wp2_with fail
    go_quiet (fail)
    have p:Bw w (t.drewN nq):=Aq D nq;generalize t.drewN nq=w3 at p ⊢;go_wp2
    go_ret;exact⟨CT h.out,p⟩
  .have h:Hid (Bi k c s n v=Fw b d f k c s n v a):=(Xi q A).symm;go_wp2
   go_ret;exact⟨CT h.out,D⟩
 .rw[E' q];have h:Hid (2=Fw b d f k c s n v a):=(Xj q).symm;go_wp2
  go_ret;exact⟨CT h.out,C⟩
theorem Y4(a:0<=c)(h:c<=7)(g:AB w) :
  Calls prog 49 #[iv c] w λe w'=>∃ y:S3,e=.returned (.tuple #[y.v,iv 0])/\Sl w' y.v (Jk c)/\Nb w.heap.size y (Jk c)/\Bw w w':=by
 refine(il c w a h g).mono ?_;rintro e w' ⟨v,rfl,f,b⟩;obtain⟨y,rfl,i,d⟩:=Jq f (by rw[DN];decide) (VD c);exact⟨y,rfl,i,d,b⟩
theorem jZ(h:7<c):Calls prog 49 #[iv c] w λe w'=>e=.returned (.tuple #[S3.v s30,iv 2])/\Bw w w':=by
 refine(ik c w (by omega)).mono ?_;rintro e w' ⟨rfl,rfl⟩;exact⟨rfl,Below.refl _ _⟩
theorem Jj(d:AB w):Calls prog 48 #[] w λe w'=>∃ y:S3,e=.returned y.v/\Sl w' y.v F9/\Nb w.heap.size y F9/\Bw w w':=by
 refine(S5 w d).mono ?_;rintro e w' ⟨v,rfl,c,a⟩;obtain⟨y,rfl,f,b⟩:=Jq c (by rw[JJ];decide) VA;exact⟨y,rfl,f,b,a⟩
theorem Sl.tL{n:Nat}(h:Sl w (.slice a n cap) l)(b:Nat)(d:b<=l.length) :
  ∃ a' c',(∀ W,(Instr.slice 52 (.slice a n cap) none (some (.int .i64 (b:Int))) none).run prog W=.ok (.slice a' b c') W)/\∀ w2,Sl w2 (.slice a n cap) l->Sl w2 (.slice a' b c') (l.take b):=by
 have j:=λw2 (c:Sl w2 (.slice a n cap) l)=>c.rI 0 b (by omega) d;obtain⟨⟨a',f,e,m,o,k⟩,i,g⟩:=h;simp only[Value.slice.injEq]at e;obtain⟨rfl,rfl,rfl⟩:=e;refine⟨_,_,λW=>?_,λw2 c=>by simpa[sliced]using j w2 c⟩;rw[run_slice_h (P:=prog) W 52 a _ cap underlying52 .i64 _ (by omega) (by omega)];have e:prog.elem 52=5:=by kernel_rfl
 rw[e,FO];simp[Result.andThen,sliced]
theorem slF(h:Sl w x.v l)(a:Nat)(b:a<=l.length):∃ y:S3,(∀ W,(Instr.sliceAt 52 x.v (some (iv (a:Int))) none none).run prog W=.ok y.v W)/\∀ w2,Sl w2 x.v l->Sl w2 y.v (l.drop a):=by
 obtain⟨c,d,e,f⟩:=h.sK a b;exact⟨⟨c,x.n-a,d⟩,λW=>by rw[run_sliceAt_slice _ _ _ _ _ _ TD];exact e W,f⟩
theorem slU(h:Sl w x.v l)(a:Nat)(b:a<=l.length):∃ y:S3,(∀ W,(Instr.sliceAt 52 x.v none (some (iv (a:Int))) none).run prog W=.ok y.v W)/\∀ w2,Sl w2 x.v l->Sl w2 y.v (l.take a):=by
 obtain⟨c,d,e,f⟩:=h.tL a b;exact⟨⟨c,a,d⟩,λW=>by rw[run_sliceAt_slice _ _ _ _ _ _ TD];exact e W,f⟩
theorem LO(j:Sl w x.v key)(i:Sl w y.v l)(k:AB w){E:Int}(f:EA key l=E) :
  Calls prog 139 #[x.v,y.v] w λe w'=>∃ a b c:Int,e=.returned (.tuple #[.agg #[iv a,iv b,iv c],iv E])/\(E=0->a=l.getD 0 0/\b=l.getD 1 0/\c=Ad l 2)/\Bw w w':=by
 subst f;refine(Wi x.v y.v key l w j i k).mono ?_;rintro e w' ⟨rfl,h⟩;by_cases d:EA key l=0
 .rw[U5 d];exact⟨_,_,_,rfl,λ_=>⟨rfl,rfl,rfl⟩,h⟩
 .rw[IB d];exact⟨0,0,0,rfl,λg=>absurd g d,h⟩
theorem Vq(h:Sl w x.v l)(f:NTab w){E:Int}(d:Cq l=E) :
  Calls prog 140 #[x.v] w λe w'=>∃ m:Cmd,e=.returned (.tuple #[.agg #[iv m.k,iv m.c,iv m.s,iv m.n,iv m.v],iv E])/\(E=0->m=⟨Ad l 0,Ad l 4,Ad l 8,Ad l 12,Ad l 16⟩)/\Bw w w':=by
 subst d;refine(Lg x.v l w h f).mono ?_;rintro e w' ⟨rfl,b⟩;by_cases a:Cq l=0
 .rw[show Kk l=_ from if_pos a];exact⟨⟨Ad l 0,Ad l 4,Ad l 8,Ad l 12,Ad l 16⟩,rfl,λ_=>rfl,b⟩
 .rw[show Kk l=_ from if_neg a];exact⟨⟨0,0,0,0,0⟩,rfl,λg=>absurd g a,b⟩
theorem VY(h:Sl w x.v l)(hT:AB w)(H:Di w){E:Int}(q:OZ l=E){D:List Int}(g:SV l=D) :
  Calls prog 138 #[x.v] w λe w'=>∃ y:S3,e=.returned (.tuple #[y.v,iv E])/\Sl w' y.v D/\Nb w.heap.size y D/\Bw w w':=by
 have S:=EW h;have N:=h.byte;unfold SV at g;rw[q]at g
 refine tIn [Fa.sl x l] func138 ⟨⟨h,λ_ _ _=>rfl⟩,trivial⟩ (tR 12 [] λa0 _ _=>?_);by_cases p:l=[]
 .refine tI (((x.n:Int)==0)) true (by rw[S,p];rfl) (tR 5 [] λa1 _ _=>?_);obtain rfl:13=E:=by rw[<- q];unfold OZ;rw[if_pos p]
  exact tE (.tuple #[.slice none 0 0,iv 13]) λ_ B=>⟨s30,rfl,by rw[<- g,if_neg (by decide)];exact EB _,λ_ a m=>(by cases m),B⟩
 .refine tI (((x.n:Int)==0)) false (by rw[S];simpa using p) ?_;obtain⟨c,i⟩:∃ c,l.getD 0 0=c:=⟨_,rfl⟩;have b:0<l.length:=List.length_pos_iff.2 p;have r:0<=c/\c<256:=by rw[<- i];exact N _ (by rw[mU,G' b];exact m7 b)
  have d:OZ l=if 7<c then 2 else Kc (Jk c) 0 0 noB (l.drop 1):=by unfold OZ;rw[if_neg p,i]
  rw[q]at d
  refine tR 4 [] λa2 _ _=>tF λF _=>?_;obtain⟨Z,od,O,_,A⟩:=QU F.1.s b;rw[i]at A
  refine tV 1 (pt Z od) (λF C=>(O _)) (tV 2 (.int .u8 c) (λF C=>(Dj underlying5 rfl A)) (tV 3 (iv c) (λF C=>(rUi r)) ?_));by_cases M:7<c
  .refine tC1 4 (λF C=>jZ M) λ_=>tR 19 [] λa3 _ _=>?_;obtain rfl:2=E:=by rw[<- q];rw[q,d,if_pos M]
   exact tE (.tuple #[.slice none 0 0,iv 2]) λ_ B=>⟨s30,rfl,by rw[<- g,if_neg (by decide)];exact EB _,λ_ a m=>(by cases m),B⟩
  .refine tC 4 (λF C=>Y4 r.1 (by omega) (hT.af (CgQ.af C))) λj=>?_;rintro _ _ ⟨y,rfl,hy,R,Y⟩;refine⟨_,Fa.sl y (Jk c)::_,rfl,Y,λF=>⟨Ct hy R j,F⟩,?_⟩;refine tR 17 [] λT _ _=>tC 1 (λF C=>i6 F.1.s (DN c)) λj=>?_;rintro _ _ ⟨u,rfl,hu,P,J⟩;refine⟨_,Fa.sl u (Jk c)::_,rfl,J,λF=>⟨Ct hu P j,F⟩,?_⟩;refine tR 19 [1,0,0,0,12,0,0,2] λU _ _=>?_;rw[if_neg M]at d
   refine tF λF o=>?_;have I:=o.size;obtain⟨z,hz,G⟩:=slF F.2.2.1.s 1 b;refine tT 2 (S3.v z) (λ_=>(hz _)) (Ih 3 8 ?_ ?_)
   .refine tF λF o=>?_;have I:=o.size;refine tC 3 (λF C=>UG F.1.s (DN c) (G _ F.2.2.1.s) (H.af H.pos (CgQ.af C)) d.symm) λj=>?_;rintro _ _ ⟨k,v,t,x0,x1,x2,x3,x4,x5,x6,x7,rfl,Q,f,K⟩;refine⟨_,Fa.sl v D::_,rfl,K,λF=>⟨Ct (by rw[<- g,i];exact Q) (by rw[<- g,i];exact f) j,F⟩,?_⟩;refine tR 16 [8,10,12,14,17,1,0,19,1,0,20,22] λV _ _=>tE (.tuple #[S3.v v,iv E]) λF B=>⟨v,rfl,F.1.s,by rw[<- g,i];exact λh a m=>my I (f h a m),B⟩
   .refine tR 1 [1,0] λW _ _=>tF λF o=>?_;have I:=o.size;refine tC 3 (λF C=>UG F.1.s (DN c) (G _ F.2.2.1.s) (H.af H.pos (CgQ.af C)) d.symm) λj=>?_;rintro _ _ ⟨k,v,t,x0,x1,x2,x3,x4,x5,x6,x7,rfl,Q,f,L⟩;refine⟨_,Fa.sl v D::_,rfl,L,λF=>⟨Ct (by rw[<- g,i];exact Q) (by rw[<- g,i];exact f) j,F⟩,?_⟩;refine tR 15 [8,10,12,14,19,1,0,20,22] λX _ _=>tE (.tuple #[S3.v v,iv E]) λF B=>⟨v,rfl,F.1.s,by rw[<- g,i];exact λh a m=>my I (f h a m),B⟩
theorem Rr(h:Sl w x.v l)(G:AB w)(hq:Di w)(hN:NTab w){E:Int}(j:unE l=E) :
  Calls prog 108 #[x.v] w λe w'=>∃ (a b c:Int) (m:Cmd),e=.returned (.tuple #[.agg #[iv a,iv b,iv c],.agg #[iv m.k,iv m.c,iv m.s,iv m.n,iv m.v],iv E])/\(E=0->a=(unT l).getD 0 0/\b=(unT l).getD 1 0/\c=Ad (unT l) 2/\m=⟨Ad (unQ l) 0,Ad (unQ l) 4,Ad (unQ l) 8,Ad (unQ l) 12,Ad (unQ l) 16⟩)/\Bw w w':=by
 obtain⟨r,I⟩:∃ r,OZ l=r:=⟨_,rfl⟩;obtain⟨D,P⟩:∃ D,SV l=D:=⟨_,rfl⟩;have f:unT l=D.take 22:=by unfold unT;rw[P]
 have t:unQ l=D.drop 22:=by unfold unQ;rw[P]
 unfold unE at j;rw[I,P]at j
 refine tIn [Fa.sl x l] func108 ⟨⟨h,λ_ _ _=>rfl⟩,trivial⟩ (tR 9 [1,0,1,0] λd _ _=>tC 1 (λF C=>VY F.1.s (G.af (CgQ.af C)) (hq.af hq.pos (CgQ.af C)) I P) λp=>?_);rintro _ _ ⟨y,rfl,hy,a0,b2⟩;refine⟨_,Fa.sl y D::_,rfl,b2,λF=>⟨Ct hy a0 p,F⟩,?_⟩;have K:=EW hy;refine tR 12 [] λa9 _ _=>?_;by_cases H:r≠0
 .refine tI ((r != 0)) true (by simpa using H) ?_;obtain rfl:r=E:=by rw[<- j,if_pos H]
  refine tR 9 [0,0,1,0] λb0 _ _=>tX λF C=>qE5 2 3 4 81 51 0 (d 0) 1 (d 1) #[iv 0,iv 0,iv 0] #[iv 0,iv 0,iv 0,iv 0,iv 0] (iv r) λ_=>⟨0,0,0,⟨0,0,0,0,0⟩,rfl,λg=>absurd g H,CgQ.af C⟩
 .refine tI ((r != 0)) false (by simpa using H) ?_;rw[if_neg H]at j
  refine tR 8 [] λb1 _ _=>?_;by_cases h2:D.length≠42
  .refine tI (((y.n:Int) != 42)) true (by rw[K];simp;omega) ?_;obtain rfl:3=E:=by rw[<- j,if_pos h2]
   refine tR 8 [0,0,1,0] λb3 _ _=>tX λF C=>qE5 2 3 4 81 51 0 (d 0) 1 (d 1) #[iv 0,iv 0,iv 0] #[iv 0,iv 0,iv 0,iv 0,iv 0] (iv 3) λ_=>⟨0,0,0,⟨0,0,0,0,0⟩,rfl,λg=>absurd g (by decide),CgQ.af C⟩
  .refine tI (((y.n:Int) != 42)) false (by rw[K];simp;omega) ?_;rw[if_neg h2,f,t]at j
   obtain⟨o,q⟩:∃ o,EA F9 (D.take 22)=o:=⟨_,rfl⟩;rw[q]at j
   refine tF λF _=>?_;obtain⟨u,hu,A⟩:=slU F.1.s 22 (by omega);refine tR 2 [] λb4 _ _=>Ig 45 (λee LL L=>∃ (a b c:Int) (W:Nat),ee=[(2,pt (d 0) 0),(3,pt (d 1) 0),(4,iv 0),(5,S3.v y),(6,iv o),(7,pt W 0)]/\LL=[⟨(d 0),.cells #[iv 0,iv 0,iv 0] 81,.l,false⟩,⟨(d 1),.cells #[iv 0,iv 0,iv 0,iv 0,iv 0] 51,.l,false⟩,⟨W,.cells #[iv a,iv b,iv c] 81,.l,false⟩]/\L=[Fa.sl y D]/\(o=0->a=(D.take 22).getD 0 0/\b=(D.take 22).getD 1 0/\c=Ad (D.take 22) 2)) (λJ X=>?_) ?_
   .refine tR 2 [10,2] λb5 _ _=>tT 2 (S3.v u) (λ_=>(hu _)) (Ih 0 7 ?_ ?_)
    .refine tC 0 (λF C=>Jj (G.af (CgQ.af C))) λp=>?_;rintro _ _ ⟨i,rfl,Y,hin,Q⟩;refine⟨_,Fa.sl i F9::_,rfl,Q,λF=>⟨Ct Y hin p,F⟩,?_⟩;refine Ih 3 7 ?_ ?_
     .refine tC 3 (λF C=>LO F.1.s (A _ F.2.1.s) (G.af (CgQ.af C)) q) λp=>?_;rintro _ _ ⟨a,b,c,rfl,z,R⟩;refine⟨_,_,rfl,R,id,?_⟩;refine tR 7 [8,10,12,15,1,0,17,2,0,18] λM _ _=>tD X [true,true,true] ⟨a,b,c,(M 0),rfl,rfl,rfl,z⟩ (λF=>⟨F.2.1,trivial⟩)
     .refine tR 1 [1,0] λN _ _=>tC 3 (λF C=>LO F.1.s (A _ F.2.1.s) (G.af (CgQ.af C)) q) λp=>?_;rintro _ _ ⟨a,b,c,rfl,z,S⟩;refine⟨_,_,rfl,S,id,?_⟩;refine tR 6 [8,10,12,17,2,0,18] λa1 _ _=>tD X [true,true,true] ⟨a,b,c,(N 0),rfl,rfl,rfl,z⟩ (λF=>⟨F.2.1,trivial⟩)
    .refine tR 1 [1,0] λO _ _=>tC 0 (λF C=>Jj (G.af (CgQ.af C))) λp=>?_;rintro _ _ ⟨i,rfl,Y,hin,T⟩;refine⟨_,Fa.sl i F9::_,rfl,T,λF=>⟨Ct Y hin p,F⟩,?_⟩;refine tC 3 (λF C=>LO F.1.s (A _ F.2.1.s) (G.af (CgQ.af C)) q) λp=>?_;rintro _ _ ⟨a,b,c,rfl,z,U⟩;refine⟨_,_,rfl,U,id,?_⟩;refine tR 6 [8,10,12,17,2,0,18] λa2 _ _=>tD X [true,true,true] ⟨a,b,c,(O 0),rfl,rfl,rfl,z⟩ (λF=>⟨F.2.1,trivial⟩)
   rintro _ _ _ ⟨a,b,c,W,rfl,rfl,rfl,z⟩ _ _ _;refine tR 6 [] λa3 _ _=>?_;by_cases B:o≠0
   .refine tI ((o != 0)) true (by simpa using B) ?_;obtain rfl:o=E:=by rw[<- j,if_pos B]
    refine tR 9 [0,0,1,0] λa4 _ _=>tX λF C=>qE5 2 3 4 81 51 0 (d 0) 1 (d 1) #[iv 0,iv 0,iv 0] #[iv 0,iv 0,iv 0,iv 0,iv 0] (iv o) λ_=>⟨0,0,0,⟨0,0,0,0,0⟩,rfl,λg=>absurd g B,CgQ.af C⟩
   .refine tI ((o != 0)) false (by simpa using B) ?_;rw[if_neg B]at j
    obtain⟨ha,hb,hc⟩:=z (mz.1 B);refine tR 4 [] λa5 _ _=>tF λF _=>?_;obtain⟨v,hv,Z⟩:=slF F.1.s 22 (by omega);refine tV 1 (S3.v v) (λF C=>(hv _)) (tC 2 (λF C=>Vq (Z _ F.1.s) (hN.af (CgQ.af C)) j) λp=>?_);rintro _ _ ⟨m,rfl,hm,V⟩;refine⟨_,_,rfl,V,id,?_⟩;refine tR 11 [1,0,3,0,3,0,2,4] λa6 _ _=>Ih 1 3 ?_ ?_
    .refine tR 5 [3,7,0,0,9,1,0,10] λa7 _ _=>tX λF C=>qE5 2 3 4 81 51 0 (d 0) 1 (d 1) #[iv a,iv b,iv c] #[iv m.k,iv m.c,iv m.s,iv m.n,iv m.v] (iv E) λ_=>⟨a,b,c,m,rfl,λg=>⟨by rw[f];exact ha,by rw[f];exact hb,by rw[f];exact hc,by rw[t];exact hm g⟩,CgQ.af C⟩
    .refine tR 5 [0,0,3,3,9,1,0,10] λa8 _ _=>tX λF C=>qE5 2 3 4 81 51 0 (d 0) 1 (d 1) #[iv a,iv b,iv c] #[iv m.k,iv m.c,iv m.s,iv m.n,iv m.v] (iv E) λ_=>⟨a,b,c,m,rfl,λg=>⟨by rw[f];exact ha,by rw[f];exact hb,by rw[f];exact hc,by rw[t];exact hm g⟩,CgQ.af C⟩
theorem Vd{a b:Int}{m:Cmd}{d:Int}(g:NTab w){F:Int}(f:Fw a b c m.k m.c m.s m.n m.v d=F):Calls prog 109 #[.agg #[iv a,iv b,iv c],.agg #[iv m.k,iv m.c,iv m.s,iv m.n,iv m.v],iv d] w λe w'=>e=.returned (iv F)/\Bw w w':=by subst f;exact R3 a b c m.k m.c m.s m.n m.v d w g
theorem VN(v:Value)(l:List Int)(now:Int)(w:World)(h:Sl w v l)(hT:AB w)(R:Di w)(P:NTab w) :
  Calls prog 60 #[v,iv now] w λe w'=>e=.returned (.tuple #[.agg (opA l now),iv (opE l now)])/\Bw w w':=by
 obtain⟨x,rfl,h⟩:=ah h;obtain⟨E,I⟩:∃ E,unE l=E:=⟨_,rfl⟩;obtain⟨i,f⟩:∃ i,opE l now=i:=⟨_,rfl⟩;have K:=h.byte;have G:=iB (l:=l) (now:=now);have H:=iC (l:=l) (now:=now);rw[f]at G H ⊢
 unfold opE at f;rw[I]at f
 refine tIn [Fa.sl x l] func60 ⟨⟨h,λ_ _ _=>rfl⟩,trivial⟩ (tR 8 [1,0] λa _ _=>tC 1 (λF C=>Rr F.1.s (hT.af (CgQ.af C)) (R.af R.pos (CgQ.af C)) (P.af (CgQ.af C)) I) λNz=>?_);rintro _ _ ⟨ta,tb,tc,m,rfl,hu,Z⟩;refine⟨_,_,rfl,Z,id,?_⟩;refine tR 16 [0,0,0,0,1,0,2,0] λj _ _=>?_;by_cases o:E≠0
 .refine tI ((E != 0)) true (by simpa using o) (tR 7 [0,0] λa0 _ _=>?_);obtain rfl:E=i:=by rw[<- f,if_pos o]
  rw[G o];exact tX λ_ C=>qE2 4 5 51 0 (a 0) (cmA 0 0 0 0 0) (iv E) λ_=>⟨rfl,CgQ.af C⟩
 .refine tI ((E != 0)) false (by simpa using o) ?_;have q:E=0:=mz.1 o;obtain⟨e1,e2,e3,p⟩:=hu q;have d:=l9 (I.trans q);rw[if_neg o,<- e1,<- e2,<- e3]at f
  rw[show Ad (unQ l) 0=m.k by rw[p],show Ad (unQ l) 4=m.c by rw[p],show Ad (unQ l) 8=m.s by rw[p],show Ad (unQ l) 12=m.n by rw[p],show Ad (unQ l) 16=m.v by rw[p]]at f H
  obtain⟨c,L⟩:∃ c,l.getD 0 0=c:=⟨_,rfl⟩;have M:0<=c/\c<256:=by rw[<- L];exact K _ (by rw[mU,G' d];exact m7 d)
  rw[L]at f
  refine tR 3 [] λa1 _ _=>Ig 42 (λee Y u=>∃ (b:Bool),ee=[(0,S3.v x),(1,iv now),(4,pt (a 0) 0),(6,pt (j 0) 0),(7,pt (j 1) 0),(31,.bool b)]/\Y=[⟨(a 0),.cells #[iv 0,iv 0,iv 0,iv 0,iv 0] 51,.l,false⟩,⟨(j 0),.cells #[iv ta,iv tb,iv tc] 81,.z,false⟩,⟨(j 1),.cells #[iv m.k,iv m.c,iv m.s,iv m.n,iv m.v] 51,.z,false⟩]/\u=[Fa.sl x l]/\b=decide (m.k≠0/\m.c≠c)) (λJ O=>?_) ?_
  .refine tR 3 [12,0,2,2] λa2 _ _=>?_;by_cases A:m.k=0
   .refine tT 2 (.bool false) (λ_=>(He (t:=3) (m:=m.k) (n:=0) (x:=(.tmp 21)) (y:=(.const (iv 0))) (by simpa using A))) (tR 10 [6,8,10,12,14,16,18,20,22] λa3 _ _=>tD O [true,true,true] ⟨false,rfl,rfl,rfl,(E' λg=>g.1 A).symm⟩ (λF=>F))
   .refine tT 2 (.bool true) (λ_=>(He (t:=3) (m:=m.k) (n:=0) (x:=(.tmp 21)) (y:=(.const (iv 0))) (by simpa using A))) (tR 4 [6,8,10,2,12] λa4 _ _=>tF λF _=>?_);obtain⟨bd,od,N,_,r⟩:=QU F.1.s d;rw[L]at r
    refine tT 7 (pt bd od) (λ_=>(N _)) (tV 8 (.int .u8 c) (λF C=>(Dj underlying5 rfl r)) (tT 9 (iv c) (λ_=>(rUi M)) (tR 3 [20,22] λS _ _=>?_)));exact tD O [true,true,true] ⟨m.c != c,rfl,rfl,rfl,(by by_cases g:m.c=c<;>simp[g,A])⟩ (λF=>F)
  rintro _ _ _ ⟨b,rfl,rfl,rfl,Q⟩ _ _ _;by_cases B:m.k≠0/\m.c≠c
  .refine tI (b) true (by rw[Q];exact M' B) (tR 6 [0,0] λT _ _=>?_);obtain rfl:11=i:=by rw[<- f,if_pos B]
   rw[G (by decide)];exact tX λ_ C=>qE2 4 5 51 0 (a 0) (cmA 0 0 0 0 0) (iv 11) λ_=>⟨rfl,CgQ.af C⟩
  .refine tI (b) false (by rw[Q];exact E' B) ?_;rw[if_neg B]at f
   refine tR 7 [1,2] λU _ _=>tC1 3 (λF C=>Vd (m:=m) (P.af (CgQ.af C)) f) λ_=>tR 7 [] λV _ _=>?_;by_cases D:i≠0
   .refine tI ((i != 0)) true (by simpa using D) (tR 7 [0,0] λW _ _=>?_);rw[G D];exact tX λ_ C=>qE2 4 5 51 0 (a 0) (cmA 0 0 0 0 0) (iv i) λ_=>⟨rfl,CgQ.af C⟩
   .refine tI ((i != 0)) false (by simpa using D) ?_;obtain rfl:i=0:=mz.1 D;refine tR 7 [2,0,0] λX _ _=>?_;rw[H rfl];exact tX λ_ C=>qE2 4 5 51 0 (a 0) (cmA m.k m.c m.s m.n m.v) (iv 0) λ_=>⟨rfl,CgQ.af C⟩
theorem NC(a:List (List Int))(j:Nat)(h:j<a.length):(a.take (j+1)).flatten=(a.take j).flatten++a.getD j []:=by
 rw[mN h,List.flatten_append];simp[List.getD,List.getElem?_eq_getElem h]
theorem Ug(a:List (List Int))(h:∀ l∈a,l.length<=1000):a.flatten.length<=1000*a.length:=by
 induction a with
 | nil=>simp
 | cons x r ih =>
  have c:=h x (by simp);have d:=ih (λl b=>h l (by simp[b]));simp only[List.flatten_cons,H',mY];omega
theorem MJ(n:Nat):(Builtin.zeroCells (Value.int .u8 0).cells n).size=n:=by
 simp[Builtin.zeroCells,Value.cells]
theorem Yr(n:Nat)(w:World)(o:0<n)(t:n<=20000) :
  Calls prog 88 #[.slice none 0 0,.int .i64 (n:Int)] w λe w'=>∃ v',e=.returned v'/\w'.ownsRow w.heap.size 5 1 v' 0 []/\Bw w w':=by
 obtain⟨r,l,d,f,g⟩:=info_parts Aw;have i:=λs=>Lib.run_append_nil_zeros (P:=prog) w 52 3 s 5 r (.int .u8 0) .i64 .i64 underlying52 underlying3 l d n o (by rw[f];decide) (by omega) (by rw[g];omega);have c:=grownCap_ge w n 0 5;have b:=grownCap_le_maxLen w n 0 5 (by unfold maxLen;omega);have a:(Builtin.zeroCells (Value.int .u8 0).cells n++Builtin.zeroCells (Value.int .u8 0).cells (grownCap w n 0 5-n)).size=grownCap w n 0 5*1:=by rw[Array.size_append,MJ,MJ];omega
 generalize Builtin.zeroCells (Value.int .u8 0).cells n++Builtin.zeroCells (Value.int .u8 0).cells (grownCap w n 0 5-n)=Z at i a;generalize grownCap w n 0 5=cap at i a c b;have k:Bw w (w.drew.alloc (.cells Z 5)):=((Below.refl w.heap.size w).drew).alloc (by exact A' _) _;have j:(w.drew.alloc (.cells Z 5)).heap[w.heap.size]?=some (.cells Z 5):=heap_alloc_new _ _;generalize w.drew.alloc (.cells Z 5)=W at i k j;have p:W.ownsRow w.heap.size 5 1 (.slice (some ⟨w.heap.size,0,none⟩) 0 cap) 0 []:=⟨by simp,.inr ⟨w.heap.size,cap,Z,rfl,A' _,j,by omega,b,a,by simp⟩⟩;have q:∀ h,(Instr.slice 52 (.slice (some ⟨w.heap.size,0,none⟩) n cap) none (some (.int .i64 0)) none).run prog h=.ok (.slice (some ⟨w.heap.size,0,none⟩) 0 cap) h:=λh=>by
  rw[run_slice_h (P:=prog) h 52 (some ⟨w.heap.size,0,none⟩) n cap underlying52 .i64 0 (by omega) (by omega)];have e:prog.elem 52=5:=by kernel_rfl
  rw[e,FO];simp[Result.andThen,sliced,Addr.add_mid]
 have m:(0:Int)<(n:Int):=by omega
 clear j a b c l d f g;go_enter func88,ntmps88
 go_wp2_with (at_builtin;refine Lib.wpList_append_run _ rfl _ _ _ _ rfl _ _ rfl rfl _ _ (i _) ?_)
 go_ret;exact⟨_,rfl,p,k⟩
theorem La(g n M:Nat)(K:List Value)(a:List (List Int))(w:World)(hg:g<w.heap.size)(hn:n<=10)(C:a.length=n)(R:∀ i,i<n->w.cell? ⟨g,i,none⟩=some (K.getD i undef))(U:∀ i,i<n->Sl w (K.getD i undef) (a.getD i []))(y:∀ l∈a,l.length<=1000)(T:0<a.flatten.length) :
  Calls prog 45 #[.slice (some ⟨g,0,none⟩) n M] w λe w'=>∃ v',e=.returned v'/\w'.ownsRow w.heap.size 5 1 v' a.flatten.length (a.flatten.map (Value.int .u8))/\Bw w w':=by
 have c:Hid (a.length=n):=C;have O:Hid _:=R;have P:Hid _:=U;have I:Hid _:=y;have X:Hid _:=T;clear C R U y T;go_enter func45,ntmps45
 go_wp2_with fail
 go_loopw [3,11] (λsv i wr=>∃ j:Nat,j<=n/\i=.int .i64 j/\sv=.int .i64 ((a.take j).flatten.length:Int)/\w=wr) (λ_ i _=>n-(intOf i).toNat)
 case atStart=>exact⟨0,by omega,rfl,by simp,rfl⟩
 case round =>
  obtain⟨j,hj,rfl,rfl,rfl⟩:=hrel;have d:=Ug (a.take j) (λl y=>I.out l (mL y));by_cases m:j<n
  .have t:(a.take j).flatten.length<=10000:=by rw[X']at d;omega
   have r:Hid ((a.take (j+1)).flatten.length=(a.take j).flatten.length+(a.getD j []).length):=by unfold Hid;rw[NC a j (by rw[c.out];exact m),H']
   have q:=P.out j m;have J:=O.out j m;have u:(a.getD j []).length<=1000:=by
    have f:j<a.length:=by rw[c.out];exact m
    have:a.getD j []=a[j]:=by simp[List.getD,List.getElem?_eq_getElem f]
    rw[this];exact I.out _ (m7 f)
   generalize K.getD j undef=vj at q J;generalize a.getD j []=lj at q r u;generalize (a.take j).flatten.length=pre at r t;clear d;obtain⟨⟨aj,kj,rfl,_,_,_⟩,_,_⟩:=q;generalize lj.length=nj at *;go_wp2
   go_roundw
   case rel=>exact⟨j+1,by omega,by go_num,by rw[r.out];go_num,by simp⟩
   case measure=>simp[intOf];omega
  .obtain rfl:j=n:=by omega
   have Q:Hid (a.take j=a):=mJ (by rw[c.out];exact A' _);have V:a.flatten.length<=10000:=by rw[Q.out,c.out]at d;omega
   rw[Q.out];clear d;have L:=X.out;generalize G:a.flatten.length=Z at V L;have Y:Hid (a.flatten.length=Z):=G;clear G;go_wp2_with fail
   refine(Yr Z w L (by omega)).mono ?_;rintro e w1 ⟨v1,rfl,x,A⟩;clear L V;obtain⟨g1,c1,rfl⟩:=Cz x;have z:Hid (w1.ownsRow w.heap.size 5 1 (.slice g1 0 c1) (a.take 0).flatten.length ((a.take 0).flatten.map (Value.int .u8))):=by unfold Hid;simpa using x
   clear x;go_wp2_with fail
   go_loopw [6,27] (λv i wr=>∃ k:Nat,k<=j/\i=.int .i64 k/\Hid (wr.ownsRow w.heap.size 5 1 v (a.take k).flatten.length ((a.take k).flatten.map (Value.int .u8)))/\Bw w wr) (λ_ i _=>j-(intOf i).toNat)
   case atStart=>exact⟨0,by omega,rfl,z,A⟩
   case round =>
    obtain⟨k,S,rfl,h,s⟩:=hrel;have b:=h.out;clear h z A;have D:=b.lt;by_cases o:k<j
    .have d:=Ug (a.take k) (λl y=>I.out l (mL y));have t:(a.take k).flatten.length<=10000:=by rw[X']at d;omega
     have r:Hid ((a.take (k+1)).flatten=(a.take k).flatten++a.getD k []):=NC a k (by rw[c.out];exact o);have q:=(P.out k o).af s;have J:=(s.cell (p:=⟨g,k,none⟩) hg).trans (O.out k o);have u:(a.getD k []).length<=1000:=by
      have f:k<a.length:=by rw[c.out];exact o
      have:a.getD k []=a[k]:=by simp[List.getD,List.getElem?_eq_getElem f]
      rw[this];exact I.out _ (m7 f)
     generalize K.getD k undef=vj at q J;generalize a.getD k []=lj at q r u;generalize (a.take k).flatten=pre at b r t;clear d;have H:=q;obtain⟨⟨aj,kj,rfl,_,_,_⟩,_,_⟩:=q;go_wp2_with (at_builtin;refine Aa _ rfl _ _ 52 rfl w.heap.size 5 underlying52 Aw _ _ rfl rfl pre lj b H (by omega) s.size ?_)
     intro v2 W E B;have F:W.ownsRow w.heap.size 5 1 v2 (pre++lj).length ((pre++lj).map (Value.int .u8)):=by simpa using E
     have N:Bw w W:=s.grown B s.size (λk S=>(D k S).1);clear E B b D s H J;go_wp2
     go_roundw
     case rel=>exact⟨k+1,by omega,by go_num,by rw[r.out];exact F,N⟩
     case measure=>simp[intOf];omega
    .have HJ:Hid (a.take k=a):=by unfold Hid;exact mJ (by rw[c.out];omega)
     go_wp2
     go_ret;refine⟨u6,rfl,?_,s⟩;rw[HJ.out]at b
     exact b
theorem bX(f h a:Value)(b c d:List Int)(w:World)(e:TypeId)(g:Nat)(o:g=w.heap.size)(k:Sl w f b)(m:Sl w h c)(n:Sl w a d)(p:b.length<=1000)(q:c.length<=1000)(r:d.length<=1000)(s:0<b.length) :
  Calls prog 45 #[.slice (some ⟨g,0,none⟩) 3 3] (w.alloc (.cells #[f,h,a] e)) λe w'=>∃ v',e=.returned v'/\w'.ownsRow w.heap.size 5 1 v' (b++(c++d)).length ((b++(c++d)).map (Value.int .u8))/\Bw w w':=by
 subst o;have j:Bw w (w.alloc (.cells #[f,h,a] e)):=(Below.refl _ _).alloc (A' _) _;refine(La w.heap.size 3 3 [f,h,a] [b,c,d] (w.alloc (.cells #[f,h,a] e)) (by simp) (by omega) rfl ?_ ?_ ?_ ?_).mono ?_
 .intro i hi;rw[cell_of_row _ _ i _ _ _ (heap_alloc_new w _)];obtain rfl|rfl|rfl:i=0\/i=1\/i=2:=by omega
  all_goals rfl
 .intro i hi;obtain rfl|rfl|rfl:i=0\/i=1\/i=2:=by omega
  .exact k.af j
  .exact m.af j
  .exact n.af j
 .intro l hl;simp only[mG,Q',or_false]at hl;rcases hl with rfl|rfl|rfl
  .exact p
  .exact q
  .exact r
 .simp;omega
 .rintro e w2 ⟨a,rfl,ho,hb⟩;exact⟨a,rfl,BK (by simpa using ho) (by simp),j.trans (hb.mono (by simp))⟩
theorem bW{c d:Value}{a b:List Int}{e:TypeId}{g:Nat}(f:w.heap[g]?=some (.cells #[c,d] e))(h:Sl w c a)(j:Sl w d b)(k:a.length<=1000)(m:b.length<=1000)(n:0<a.length) :
  Calls prog 45 #[.slice (some ⟨g,0,none⟩) 2 2] w λe w'=>∃ v',e=.returned v'/\w'.ownsRow w.heap.size 5 1 v' (a++b).length ((a++b).map (Value.int .u8))/\Bw w w':=by
 refine(La g 2 2 [c,d] [a,b] w (U'.1 f).1 (by omega) rfl ?_ ?_ ?_ ?_).mono ?_
 .intro i hi;rw[cell_of_row _ _ i _ _ _ f];obtain rfl|rfl:i=0\/i=1:=by omega
  all_goals rfl
 .intro i hi;obtain rfl|rfl:i=0\/i=1:=by omega
  .exact h
  .exact j
 .intro l hl;simp only[mG,Q',or_false]at hl;rcases hl with rfl|rfl
  .exact k
  .exact m
 .simp;omega
 .rintro e w2 ⟨v2,rfl,ho,hb⟩;exact⟨v2,rfl,by simpa using ho,hb⟩
end
end
end Go.Proofs.YtcjcngceghfoeaaGreatDoor
