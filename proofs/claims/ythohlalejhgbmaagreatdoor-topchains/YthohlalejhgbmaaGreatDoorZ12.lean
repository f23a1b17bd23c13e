/- Part 12 of the walk. -/
import Derived.Lib.LazyBuf
import Derived.Test.YthohlalejhgbmaaGreatDoorZ11
set_option maxRecDepth 100000
set_option maxHeartbeats 4000000
open Go.Proofs.Tryz
set_option linter.unusedVariables false
namespace Go.Proofs.YthohlalejhgbmaaGreatDoor
section
def pick(n many:Int):Int:=if n<0 then(-(n+1))%many else n%many
theorem Bn(n a:Int)(b:0<a):0<=pick n a/\pick n a<a:=by
 unfold pick;split
 .exact⟨nG _ (by omega),na _ b⟩
 .exact⟨nG _ (by omega),na _ b⟩
def wK(a:Int):Int:=1+pick a 5/2
def wV(a e:Int):Int:=if wK a=1 then pick e 1000 else 0
theorem Ze(a:Int):1<=wK a/\wK a<=3:=by
 have:=Bn a 5 (by omega);unfold wK;omega
theorem Zf(a e:Int):0<=wV a e/\wV a e<=1000:=by
 have:=Bn e 1000 (by omega);unfold wV;split<;>omega
theorem di(a d e:Int)(b c:Int)(i:0<=b/\b<=7)(j:0<=c/\c<=1048576):AW (wK a) b c (pick d 4) (wV a e)=0:=by
 have f:=Ze a;have g:=Bn d 4 (by omega);have h:=Zf a e;refine SQ f (by unfold InC;omega) ?_;unfold wV;split
 .exact .inl (by assumption)
 .exact .inr rfl
def I64(n:Int):Prop:=-9223372036854775808<=n/\n<=9223372036854775807
end
section
open Go.RowKit
section
variable{B c cap n:Nat}{P:Program}{W W' w w':World}{a:Option Addr}{k v:Value}{l:List Bool}{p r:List Int}{s t:Int}{ty:TypeId}{x y:Operand}{xs:List Value}
theorem iH(a:Int)(h:-9223372036854775808<=-a/\-a<=9223372036854775807):(Op.unary .neg (iv a)).run P W=.ok (iv (-a)) W:=by
 simp[go_sem];rw[IntKind.wrap_i64];omega
theorem Yh(a b:Int)(i:P.underlying 3=some (.int .i64))(f:0<=a)(g:a<=9223372036854775807)(j:0<b)(h:b<=9223372036854775807):(do Go.eqGuard .rem 3 x y (iv a) (iv b);Go.binOp .rem 3 (iv a) (iv b):Sem Value).run P W=.ok (iv (a%b)) W:=by
 have e:=iI (P:=P) (W:=W) (x:=x) (y:=y) a.toNat b.toNat i (by omega) (by omega) (by omega);have c:((a.toNat:Nat):Int)=a:=lY f;have d:((b.toNat:Nat):Int)=b:=lY (by omega);rw[c,d]at e
 rw[e,nz,c,d]
theorem dK(a:Int)(e:P.underlying 3=some (.int .i64))(b:0<=a)(c:a<=1000):(do Go.eqGuard .quo 3 x y (iv a) (iv 2);Go.binOp .quo 3 (iv a) (iv 2):Sem Value).run P W=.ok (iv (a/2)) W:=by
 have d:a.tdiv 2=a/2:=m8 b;simp only[Go.eqGuard,go_sem,Op.intDiv];simp[d];rw[IntKind.wrap_i64];omega
theorem AL{n:Int}(h:I64 n)(a:Int)(d:0<a:=by decide)(b:a<=9223372036854775807:=by decide) :
  Calls prog 35 #[iv n,iv a] w λe w'=>e=.returned (iv (pick n a))/\Bw w w':=by
 unfold I64 at h;refine tIn [] func35 trivial (tR 10 [] λf _ _=>?_);by_cases c:n<0
 .refine tI ((decide (n<0))) true (I' c) (tR 2 [] λg _ _=>tV 1 (iv (n+1)) (λF C=>(AR 7 n underlying3 (by omega))) (tV 2 (iv (-(n+1))) (λF C=>(iH (n+1) (by omega))) (tR 6 [] λi _ _=>tV 2 (iv (-(n+1)%a)) (λF C=>(Yh (x:=(.tmp 10)) (y:=(.tmp 11)) (-(n+1)) a underlying3 (by omega) (by omega) d b)) (tR 2 [] λj _ _=>tE (iv (-(n+1)%a)) λ_ B=>⟨by rw[show pick n a=_ from if_pos c],B⟩))))
 .refine tI ((decide (n<0))) false (D' c) (tR 5 [] λk _ _=>tV 2 (iv (n%a)) (λF C=>(Yh (x:=(.tmp 10)) (y:=(.tmp 11)) n a underlying3 (by omega) (by omega) d b)) (tR 2 [] λl _ _=>tE (iv (n%a)) λ_ B=>⟨by rw[show pick n a=_ from if_neg c],B⟩))
theorem Cf{n:Int}(h:I64 n)(a:Int)(c:0<a:=by decide)(b:a<=9223372036854775807:=by decide) :
  Calls prog 16 #[iv n,iv a] w λe w'=>e=.returned (iv (pick n a))/\Bw w w':=by
 refine tIn [] func16 trivial (tR 8 [] λd _ _=>tC1 2 (λF C=>AL h a c b) λ_=>tR 2 [] λf _ _=>tE (iv (pick n a)) λ_ B=>⟨rfl,B⟩)
theorem Q6{k c n v:Int}(t:I64 k)(r:I64 c)(q:I64 s)(f:I64 n)(M:I64 v) :
  Calls prog 36 #[.agg #[iv k,iv c,iv s,iv n,iv v]] w λe w'=>e=.returned (.agg #[iv (wK k),iv (pick c 4),iv (pick s 6),iv (pick n 4),iv (wV k v)])/\Bw w w':=by
 have O:=Bn k 5 (by omega);refine tIn [] func36 trivial (tR 15 [0,0,1,0,17,0,2,0,10,12,0,16,18,0,22,24,0] λa _ _=>JY 27 (λL K g=>∃ (b:Nat),L=[(1,pt (a 0) 0),(2,pt (a 1) 0),(3,pt b 0)]/\K=[⟨(a 0),.cells #[iv k,iv c,iv s,iv n,iv v] 113,.z,false⟩,⟨(a 1),.cells #[iv 0,iv 0,iv 0,iv 0,iv 0] 47,.l,false⟩,⟨b,.cells #[iv (wK k),iv (pick c 4),iv (pick s 6),iv (pick n 4),iv 0] 47,.l,false⟩]/\g=[]) (λJ d=>?_) ?_)
 .refine Hh 2 15 ?_ ?_
  .refine tC 2 (λF C=>AL t 5) λN=>?_;rintro _ _ ⟨rfl,b⟩;refine⟨_,_,rfl,b,id,?_⟩;refine tT 3 (iv (pick k 5/2)) (λ_=>(dK (x:=(.tmp 6)) (y:=(.const (iv 2))) (pick k 5) underlying3 (by omega) (by omega))) (tT 4 (iv (wK k)) (λ_=>(Sn (x:=(.const (iv 1))) (y:=(.tmp 7)) 1 (pick k 5/2) underlying3 (by omega))) (Hh 7 15 ?_ ?_))
   .refine tC1 7 (λF C=>AL r 4) λ_=>Hh 10 15 ?_ ?_
    .refine tC1 10 (λF C=>AL q 6) λ_=>Hh 13 15 ?_ ?_
     .refine tC1 13 (λF C=>AL f 4) λ_=>tR 4 [28,31,1,0,33,2,0] λh _ _=>tD d [true,true,true] ⟨(h 0),rfl,rfl,rfl⟩ (λF=>trivial)
     .refine tR 1 [1,0] λi _ _=>tC1 13 (λF C=>AL f 4) λ_=>tR 3 [28,33,2,0] λu _ _=>tD d [true,true,true] ⟨(i 0),rfl,rfl,rfl⟩ (λF=>trivial)
    .refine tR 1 [1,0] λj _ _=>tC1 10 (λF C=>AL q 6) λ_=>tC1 13 (λF C=>AL f 4) λ_=>tR 3 [28,33,2,0] λA _ _=>tD d [true,true,true] ⟨(j 0),rfl,rfl,rfl⟩ (λF=>trivial)
   .refine tR 1 [1,0] λm _ _=>tC1 7 (λF C=>AL r 4) λ_=>tC1 10 (λF C=>AL q 6) λ_=>tC1 13 (λF C=>AL f 4) λ_=>tR 3 [28,33,2,0] λB _ _=>tD d [true,true,true] ⟨(m 0),rfl,rfl,rfl⟩ (λF=>trivial)
  .refine tR 1 [1,0] λo _ _=>tC1 2 (λF C=>AL t 5) λ_=>tT 3 (iv (pick k 5/2)) (λ_=>(dK (x:=(.tmp 6)) (y:=(.const (iv 2))) (pick k 5) underlying3 (by omega) (by omega))) (tT 4 (iv (wK k)) (λ_=>(Sn (x:=(.const (iv 1))) (y:=(.tmp 7)) 1 (pick k 5/2) underlying3 (by omega))) (tC1 7 (λF C=>AL r 4) λ_=>tC1 10 (λF C=>AL q 6) λ_=>tC1 13 (λF C=>AL f 4) λ_=>tR 3 [28,33,2,0] λD _ _=>tD d [true,true,true] ⟨(o 0),rfl,rfl,rfl⟩ (λF=>trivial)))
 rintro _ _ _ ⟨b,rfl,rfl,rfl⟩ _ _ _;refine tR 7 [2] λE _ _=>?_;by_cases p:wK k=1
 .refine tI (((wK k)==1)) true (by simpa using p) (tR 3 [0] λG _ _=>tC1 2 (λF C=>AL M 1000) λ_=>tR 8 [2,0,2,1,0] λH _ _=>tX λF C=>qE1 2 47 1 (a 1) #[iv (wK k),iv (pick c 4),iv (pick s 6),iv (pick n 4),iv (pick v 1000)] λ_=>⟨by rw[show wV k v=_ from if_pos p],CgQ.ab C⟩)
 .refine tI (((wK k)==1)) false (by simpa using p) (tR 6 [2,1,0] λI _ _=>tX λF C=>qE1 2 47 1 (a 1) #[iv (wK k),iv (pick c 4),iv (pick s 6),iv (pick n 4),iv 0] λ_=>⟨by rw[show wV k v=_ from if_neg p],CgQ.ab C⟩)
theorem fc(c:Int)(w:World)(f:0<=c)(n:c<=7)(h:Ax w) :
  Calls prog 76 #[.int .i64 c] w λe w'=>∃ v',e=.returned (.tuple #[v',.int .i64 0])/\w'.ownsRow w.heap.size 5 1 v' (Gz c).length ((Gz c).map (Value.int .u8))/\Bw w w':=by
 have l:decide (c<0)=false:=by simp;omega
 have m:decide ((7:Int)<c)=false:=by simp;omega
 have o:IntKind.u8.wrap c=c:=by rw[show IntKind.u8.wrap c=c%256 from rfl];omega
 have p:=Go.Joins.run_convert_bytes_const_at (P:=prog) (w.alloc (.cells #[.int .u8 c] 5)) 48 5 #[.int .u8 99,.int .u8 108,.int .u8 105,.int .u8 101,.int .u8 110,.int .u8 116] 6 6 (w.heap.size+1) (by simp) underlying48 underlying5;go_enter func76,ntmps76
 go_wp2_with fail
 have s0:Sl (w.alloc (.cells #[.int .u8 c] 5)) (.slice (some ⟨w.heap.size,0,none⟩) 1 1) [c]:=Sl.one w c 5 rfl ⟨f,by omega⟩;have b0:Bw w (w.alloc (.cells #[.int .u8 c] 5)):=(Below.refl _ _).alloc (A' _) _;have j:=Sl.pP (w.alloc (.cells #[.int .u8 c] 5)) [99,108,105,101,110,116] 5 (6,7) (g:=w.heap.size+1) (by simp) rfl (by simp);have a:Bw w ((w.alloc (.cells #[.int .u8 c] 5)).alloc (.cells #[.int .u8 99,.int .u8 108,.int .u8 105,.int .u8 101,.int .u8 110,.int .u8 116] 5 (6,7))):=b0.alloc (by simp) _;have b:=s0.ab ((Below.refl (w.alloc (.cells #[.int .u8 c] 5)).heap.size _).alloc (A' _) (.cells #[.int .u8 99,.int .u8 108,.int .u8 105,.int .u8 101,.int .u8 110,.int .u8 116] 5 (6,7)));refine(SH _ _ _ [c] [99,108,105,101,110,116] [] 32 _ b j (Sl.nil _ _) (by simp) (by simp) (by simp) (by omega) (h.ab a)).mono ?_;rintro e q ⟨k,rfl,i,d⟩;go_wp2
 go_ret2
 exact⟨k,rfl,AJ i a.size,a.trans (d.mono a.size)⟩
theorem fb(c:Int)(w:World)(h:c<0\/7<c) :
  Calls prog 76 #[.int .i64 c] w λe w'=>e=.returned (.tuple #[.slice none 0 0,.int .i64 2])/\w'=w:=by
 by_cases b:c<0
 .have d0:decide (c<0)=true:=by simp;omega
  go_enter func76,ntmps76
  go_wp2
  go_ret2
  exact⟨rfl,rfl⟩
 .have d0:decide (c<0)=false:=by simp;omega
  have a:decide ((7:Int)<c)=true:=by simp;omega
  go_enter func76,ntmps76
  go_wp2
  go_ret2
  exact⟨rfl,rfl⟩
theorem R5(w:World)(d:Ax w) :
  Calls prog 75 #[] w λe w'=>∃ v',e=.returned v'/\w'.ownsRow w.heap.size 5 1 v' Gy.length (Gy.map (Value.int .u8))/\Bw w w':=by
 have j:=Go.Joins.run_convert_bytes_const_at (P:=prog) (w.alloc (.cells #[.int .u8 255] 5)) 48 5 #[.int .u8 105,.int .u8 115,.int .u8 115,.int .u8 117,.int .u8 101,.int .u8 114] 6 6 (w.heap.size+1) (by simp) underlying48 underlying5;go_enter func75,ntmps75
 go_wp2_with fail
 have s0:Sl (w.alloc (.cells #[.int .u8 255] 5)) (.slice (some ⟨w.heap.size,0,none⟩) 1 1) [255]:=Sl.one w 255 5 rfl ⟨by omega,by omega⟩;have b0:Bw w (w.alloc (.cells #[.int .u8 255] 5)):=(Below.refl _ _).alloc (A' _) _;have h:=Sl.pP (w.alloc (.cells #[.int .u8 255] 5)) [105,115,115,117,101,114] 5 (6,7) (g:=w.heap.size+1) (by simp) rfl (by simp);have a:Bw w ((w.alloc (.cells #[.int .u8 255] 5)).alloc (.cells #[.int .u8 105,.int .u8 115,.int .u8 115,.int .u8 117,.int .u8 101,.int .u8 114] 5 (6,7))):=b0.alloc (by simp) _;have b:=s0.ab ((Below.refl (w.alloc (.cells #[.int .u8 255] 5)).heap.size _).alloc (A' _) (.cells #[.int .u8 105,.int .u8 115,.int .u8 115,.int .u8 117,.int .u8 101,.int .u8 114] 5 (6,7)));refine(SH _ _ _ [255] [105,115,115,117,101,114] [] 32 _ b h (Sl.nil _ _) (by simp) (by simp) (by simp) (by omega) (d.ab a)).mono ?_;rintro e k ⟨i,rfl,f,c⟩;go_wp2
 go_ret;exact⟨i,rfl,AJ f a.size,a.trans (c.mono a.size)⟩
theorem Sl.oU(w:World)(b a:Int)(e:TypeId){g:Nat}(f:g=w.heap.size)(c:0<=b/\b<256)(d:a=b):Sl (w.alloc (.cells #[.int .u8 a] e)) (.slice (some ⟨g,0,none⟩) 1 1) [b]:=by
 subst d;exact Sl.one w a e f c
theorem Po(a:Option Addr)(n c:Nat):∀ w,(binOp .eql 48 (.slice a n c) (.slice none 0 0)).run prog w=.ok (.bool a.isNone) w :=
 λw=>run_eql_slice_nil (P:=prog) w 48 5 a n c underlying48
theorem GY{a e:Nat}(h:w.ownsRow a e 1 v n xs)(b:∀ k,v.ownBlock=some k->w'.heap[k]?=w.heap[k]?):w'.ownsRow a e 1 v n xs:=by
 refine⟨h.1,?_⟩;rcases h.2 with h2|⟨g,cap,cur,hv,hb,hg,hr⟩
 .exact .inl h2
 .exact .inr ⟨g,cap,cur,hv,hb,(b g (by rw[hv];rfl)).trans hg,hr⟩
theorem IB(v:Value)(l:List Int)(w:World)(h:Sl w v l) :
  Calls prog 119 #[v] w λe w'=>∃ v',e=.returned v'/\w'.ownsRow w.heap.size 5 1 v' l.length (l.map (Value.int .u8))/\Bw w w':=by
 have o:=h;have t:=h.len;obtain⟨⟨a,c,rfl,s,j,p⟩,q,r⟩:=h;cases a with
 | none =>
  obtain rfl:=j rfl;obtain rfl:l=[]:=Z' (by omega);have n:=Po none 0 0;go_enter func119,ntmps119
  go_wp2
  go_ret;exact⟨_,rfl,World.ownsRow_nil _ _ _ _,Below.refl _ _⟩
 | some ad =>
  have b:(w.alloc (.cells #[] 5)).ownsRow w.heap.size 5 1 (.slice (some ⟨w.heap.size,0,none⟩) 0 0) ([]:List Int).length (([]:List Int).map (Value.int .u8)):=by
   refine⟨rfl,.inr ⟨w.heap.size,0,#[],rfl,A' _,heap_alloc_new _ _,A' _,j' _,rfl,rfl⟩⟩
  have n:=Po (some ad) l.length c;have f:=o.ab ((Below.refl w.heap.size w).alloc (A' _) (.cells #[] 5));go_enter func119,ntmps119
  go_wp2_with (at_builtin;refine Aa _ rfl _ _ 48 rfl w.heap.size 5 underlying48 Aq _ _ rfl rfl [] l b f (by simp;omega) (by simp) ?_)
  intro v' w' m g;have d:Bw w w':=((Below.refl w.heap.size w).alloc (A' _) (.cells #[] 5)).grown g (by simp) (λk i=>(b.lt k i).1);go_wp2
  go_ret;exact⟨v',rfl,by simpa using m,d⟩
theorem Rx(n:Int)(w:World)(s:0<=n)(t:n<1073741824) :
  Calls prog 149 #[.int .i64 n] w λe w'=>∃ v',e=.returned v'/\w'.ownsRow w.heap.size 5 1 v' (Ab n).length ((Ab n).map (Value.int .u8))/\Bw w w':=by
 go_enter func149,ntmps149
 go_wp2_with fail
 go_loopw [3,4] (λv iv wr=>∃ j:Nat,j<=4/\iv=.int .i64 (3-(j:Int))/\wr.ownsRow w.heap.size 5 1 v ((Ab n).take j).length (((Ab n).take j).map (Value.int .u8))/\Bw w wr) (λ_ iv _=>(intOf iv+1).toNat)
 case atStart=>exact⟨0,by omega,rfl,World.ownsRow_nil _ _ _ _,Below.refl _ _⟩
 case round =>
  obtain⟨j,q,rfl,a,b⟩:=hrel;have f:=a.lt;have r:=b.size;by_cases p:j<4
  .have:j=0\/j=1\/j=2\/j=3:=by omega
   rcases this with rfl|rfl|rfl|rfl
   .rw[show(3:Int)-((0:Nat):Int)=3 from rfl];go_wp2_with (at_builtin;refine Aa _ rfl _ _ 48 rfl w.heap.size 5 underlying48 Aq _ _ rfl rfl ((Ab n).take 0) [n/16777216%256] (a.alloc _) (Sl.oU _ (n/16777216%256) _ _ rfl (by omega) (by omega)) (by simp[Ab]) (by simp;omega) ?_)
    intro m i d c;have h:Bw w i:=(b.alloc (by omega) _).grown c (by simp;omega) (λk l=>(f k l).1);have g:Hid (i.ownsRow w.heap.size 5 1 m ((Ab n).take 1).length (((Ab n).take 1).map (Value.int .u8))):=d;clear d c a f b;go_wp2
    go_roundw
    case rel=>exact⟨1,by omega,rfl,g.out,h⟩
    case measure=>simp[intOf]
   .rw[show(3:Int)-((1:Nat):Int)=2 from rfl];go_wp2_with (at_builtin;refine Aa _ rfl _ _ 48 rfl w.heap.size 5 underlying48 Aq _ _ rfl rfl ((Ab n).take 1) [n/65536%256] (a.alloc _) (Sl.oU _ (n/65536%256) _ _ rfl (by omega) (by omega)) (by simp[Ab]) (by simp;omega) ?_)
    intro m i d c;have h:Bw w i:=(b.alloc (by omega) _).grown c (by simp;omega) (λk l=>(f k l).1);have g:Hid (i.ownsRow w.heap.size 5 1 m ((Ab n).take 2).length (((Ab n).take 2).map (Value.int .u8))):=d;clear d c a f b;go_wp2
    go_roundw
    case rel=>exact⟨2,by omega,rfl,g.out,h⟩
    case measure=>simp[intOf]
   .rw[show(3:Int)-((2:Nat):Int)=1 from rfl];go_wp2_with (at_builtin;refine Aa _ rfl _ _ 48 rfl w.heap.size 5 underlying48 Aq _ _ rfl rfl ((Ab n).take 2) [n/256%256] (a.alloc _) (Sl.oU _ (n/256%256) _ _ rfl (by omega) (by omega)) (by simp[Ab]) (by simp;omega) ?_)
    intro m i d c;have h:Bw w i:=(b.alloc (by omega) _).grown c (by simp;omega) (λk l=>(f k l).1);have g:Hid (i.ownsRow w.heap.size 5 1 m ((Ab n).take 3).length (((Ab n).take 3).map (Value.int .u8))):=d;clear d c a f b;go_wp2
    go_roundw
    case rel=>exact⟨3,by omega,rfl,g.out,h⟩
    case measure=>simp[intOf]
   .rw[show(3:Int)-((3:Nat):Int)=0 from rfl];go_wp2_with (at_builtin;refine Aa _ rfl _ _ 48 rfl w.heap.size 5 underlying48 Aq _ _ rfl rfl ((Ab n).take 3) [n%256] (a.alloc _) (Sl.oU _ (n%256) _ _ rfl (by omega) (by omega)) (by simp[Ab]) (by simp;omega) ?_)
    intro m i d c;have h:Bw w i:=(b.alloc (by omega) _).grown c (by simp;omega) (λk l=>(f k l).1);have g:Hid (i.ownsRow w.heap.size 5 1 m ((Ab n).take 4).length (((Ab n).take 4).map (Value.int .u8))):=d;clear d c a f b;go_wp2
    go_roundw
    case rel=>exact⟨4,by omega,rfl,g.out,h⟩
    case measure=>simp[intOf]
  .obtain rfl:j=4:=by omega
   rw[show(3:Int)-((4:Nat):Int)=-1 from rfl];have o:Hid _:=a;clear a f;go_wp2
   go_ret;exact⟨_,rfl,o.out,b⟩
theorem bC(x b:Int)(f:0<=x/\x<36028797018963968)(d:0<=b/\b<256):bits .or .i64 (x*256) b=x*256+b:=by
 obtain⟨x,rfl⟩:=jY f.1;obtain⟨y,rfl⟩:=jY d.1;have e:(x:Int)*256=((x*256:Nat):Int):=by omega
 have key:(BitVec.ofInt 64 ((x*256:Nat):Int) ||| BitVec.ofInt 64 (y:Int)).toNat=x*256+y:=by
  rw[nF,mG,mG];have a:((y:Int)%((2^64:Nat):Int)).toNat=y:=by omega
  have c:(((x*256:Nat):Int)%((2^64:Nat):Int)).toNat=2^8*x:=by omega
  rw[a,c,<- mj (by omega:y<2^8)];omega
 rw[e];show IntKind.i64.wrap ((BitVec.ofInt 64 ((x*256:Nat):Int) ||| BitVec.ofInt 64 (y:Int)).toNat:Nat)=_;rw[key,IntKind.wrap_i64];omega
def JS(h:List Int):Nat->Int
 | 0=>0
 | k+1=>JS h k*256+h.getD k 0
theorem RL{h:List Int}(a:∀ x∈h,0<=x/\x<256)(k:Nat):0<=JS h k/\JS h k<256^k:=by
 induction k with
 | zero=>simp[JS]
 | succ k ih =>
  have:=Ai a k;rw[JS,mT];omega
theorem Sl.pQ{l:List Int}(h:Sl w (.slice a n cap) l)(k:Nat)(d:k<l.length):∃ bd od,a=some ⟨bd,od,none⟩/\bd<w.heap.size/\w.cell? ⟨bd,od+k,none⟩=some (.int .u8 (l.getD k 0)):=by
 obtain⟨⟨j,c,e,m,o,f⟩,i,g⟩:=h;simp only[Value.slice.injEq]at e;obtain⟨rfl,rfl,rfl⟩:=e;rcases f with rfl|⟨b,off,rfl,hb,hcell⟩
 .simp at d
 .exact⟨b,off,rfl,hb,hcell k d⟩
theorem Oq(v:Value)(l:List Int)(w:World)(h:Sl w v l)(s:l.length=4) :
  Calls prog 192 #[v] w λe w'=>e=.returned (.int .i64 (Fe l))/\w'=w:=by
 have o:Hid (JS l 4=Fe l):=by
  unfold Hid;show((((0:Int)*256+l.getD 0 0)*256+l.getD 1 0)*256+l.getD 2 0)*256+l.getD 3 0=_;unfold Fe;omega
 have m:Hid (∀ x∈l,0<=x/\x<256):=h.byte;have f:=h;obtain⟨a,c,rfl⟩:=h.shape;rw[s]at f ⊢
 go_enter func192,ntmps192
 go_wp2_with fail
 go_loopw [3,8] (λv iv wr=>∃ j:Nat,j<=4/\iv=.int .i64 (j:Int)/\v=.int .i64 (JS l j)/\wr=w) (λ_ iv _=>(4-intOf iv).toNat)
 case atStart=>exact⟨0,by omega,rfl,rfl,rfl⟩
 case round =>
  obtain⟨j,u,rfl,rfl,rfl⟩:=hrel;by_cases r:j<4
  .have hii:(j:Int)<4:=by omega
   have g:=RL m.out j;have k:JS l j<16777216:=by
    have:(256:Int)^j<=256^3:=by
     rcases(by omega:j=0\/j=1\/j=2\/j=3)with rfl|rfl|rfl|rfl<;>decide
    omega
   have n:=Ai m.out j;obtain⟨t,od,rfl,p,q⟩:=f.pQ j (by omega);have b:=bC (JS l j) (l.getD j 0) ⟨g.1,by omega⟩ n;have d:Hid (JS l j*256+l.getD j 0=JS l (j+1)):=rfl;have i:=g.1;clear g h f;generalize JS l j=X at i k b d;generalize l.getD j 0=B at n q b d;go_wp2
   go_roundw
   case rel=>exact⟨j+1,by omega,by go_num,by rw[<- d.out],trivial⟩
   case measure=>simp[intOf];omega
  .obtain rfl:j=4:=by omega
   rw[show((4:Nat):Int)=4 from rfl,o.out];go_wp2
   go_ret;exact⟨rfl,rfl⟩
def Ml:Array Value:=(List.replicate 12 (Value.int .u8 0)).toArray
theorem iq(w:World):(Instr.makeSlice 48 (.int .i64 8) (.int .i64 12)).run prog w=.ok (.slice (some ⟨w.heap.size,0,none⟩) 8 12) (w.alloc (.cells Ml 5)):=by
 obtain⟨i,c,d,a,b⟩:=info_parts Aq;rw[run_makeSlice (P:=prog) w 48 5 i (.int .u8 0) underlying48 c d .i64 .i64 8 12 (by omega) (by omega) (by rw[a];decide) (by rw[b];decide) (by omega),a];have e:madeCells (Value.int .u8 0).cells ((12:Int).toNat*1)=Ml:=by kernel_rfl
 rw[e];rfl
theorem Ju(v:Value)(l:List Int)(w:World)(h:Sl w v l)(p:l.length=4) :
  Calls prog 151 #[v] w λe w'=>∃ v',e=.returned v'/\Sl w' v' (Bm l)/\Bw w w':=by
 have m:Hid (∀ x∈Bm l,0<=x/\x<256):=PK h.byte;have g:Hid ((Bm l).length=12):=GA p;have c:=iq w;have a:(w.alloc (.cells Ml 5)).ownsRow w.heap.size 5 1 (.slice (some ⟨w.heap.size,0,none⟩) 8 12) (List.replicate 8 (0:Int)).length ((List.replicate 8 (0:Int)).map (Value.int .u8)) :=
  ⟨rfl,.inr ⟨w.heap.size,12,Ml,rfl,A' _,heap_alloc_new _ _,by decide,by simp[maxLen],rfl,rfl⟩⟩
 have b0:Bw w (w.alloc (.cells Ml 5)):=(Below.refl w.heap.size w).alloc (A' _) _;have b:=h.ab b0;have f:w.heap.size<=(w.alloc (.cells Ml 5)).heap.size:=b0.size;generalize w.alloc (.cells Ml 5)=W at c a b0 b f;go_enter func151,ntmps151
 go_wp2_with (at_builtin;refine Aa _ rfl _ _ 48 rfl w.heap.size 5 underlying48 Aq _ _ rfl rfl (List.replicate 8 0) l a b (by simp;omega) f ?_)
 intro v' w' j i;have d:Bw w w':=b0.grown i f (λk o=>(a.lt k o).1);have n:Hid (w'.ownsRow w.heap.size 5 1 v' (Bm l).length ((Bm l).map (Value.int .u8))):=by
  unfold Hid;rw[g.out];exact j
 clear j i a b c;go_wp2
 go_ret;exact⟨v',rfl,Sl.kc n.out (by rw[g.out];omega) m.out,d⟩
theorem Sl.first{l:List Int}(h:Sl w (.slice a n cap) l)(m:Nat)(o:m<=l.length)(r:0<m):Sl w (.slice (a.map (·.add 0)) m m) (l.take m):=by
 obtain⟨⟨q,d,e,s,t,f⟩,k,c⟩:=h;simp only[Value.slice.injEq]at e;obtain⟨rfl,rfl,rfl⟩:=e;have j:(l.take m).length=m:=by rw[X'];omega
 rcases f with rfl|⟨b,off,rfl,hb,hcell⟩
 .simp at o;omega
 .have hadd:(⟨b,off,none⟩:Addr).add 0=⟨b,off,none⟩:=by unfold Addr.add;simp
  refine⟨⟨some ⟨b,off,none⟩,m,by rw[j,ku,hadd],by omega,by simp,.inr ⟨b,off,rfl,hb,λi g=>?_⟩⟩,by omega,λx p=>c x (jU p)⟩;rw[hcell i (by omega),AO (by omega),AO g];simp
theorem Wo(a:Option Addr)(n b:Nat)(c:4<=b):∀ W,(Instr.slice 48 (.slice a n b) none (some (.int .i64 4)) (some (.int .i64 4))).run prog W=.ok (.slice (a.map (·.add 0)) 4 4) W:=by
 intro W;rw[run_slice_hm (P:=prog) W 48 a n b underlying48 .i64 .i64 4 4 (by omega) (by omega) (by omega)];have e:prog.elem 48=5:=by kernel_rfl
 rw[e,He];simp[Result.andThen,sliced]
theorem ZN(v:Value)(l:List Int)(w:World)(h:Sl w v l)(g:4<=l.length) :
  Calls prog 191 #[v] w λe w'=>∃ va vb,e=.returned (.tuple #[va,vb])/\Sl w' va (l.take 4)/\Sl w' vb (l.drop 4)/\Bw w w':=by
 obtain⟨a,c,rfl⟩:=h.shape;have n:l.length<=c:=by
  obtain⟨⟨q,f,e,n,_⟩,_⟩:=h;simp only[Value.slice.injEq]at e;omega
 obtain⟨k,m,b,j⟩:=h.from 4 g;have p:∀ W,(Instr.slice 48 (.slice a l.length c) (some (.int .i64 4)) none none).run prog W=.ok (.slice k (l.length-4) m) W:=b;have o:=Wo a l.length c (by omega);have i:=h.first 4 g (by omega);clear b;generalize l.length-4=n2 at p j;generalize a.map (·.add 0)=a1 at o i;go_enter func191,ntmps191
 go_wp2_with fail
 go_quiet (fail)
 have d:Bw w (w.drewN nq):=Am (Below.refl _ _) nq;generalize w.drewN nq=w1 at d ⊢;go_wp2
 go_ret2
 exact⟨_,_,rfl,i.ab d,j.ab d,d⟩
theorem Jm(n:Int)(w:World) :
  Calls prog 172 #[.int .i64 n] w λe w'=>e=.returned (.bool (decide (0<=n/\n<=1073741824)))/\w'=w:=by
 by_cases a:0<=n
 .by_cases h1:n<=1073741824
  .rw[I' ⟨a,h1⟩];go_enter func172,ntmps172
   go_wp2
   go_ret;exact⟨Al (by simp),rfl⟩
  .rw[D' (by omega)];go_enter func172,ntmps172
   go_wp2
   go_ret;exact⟨Al (by simp),rfl⟩
 .rw[D' (by omega)];go_enter func172,ntmps172
  go_wp2
  go_ret;exact⟨Al (by simp),rfl⟩
theorem fA{key:List Int}(d:key.length=32)(a:0<=s/\s<=1073741824)(b:0<=t/\t<=1073741824)(c:RF t l=true):OkC key s t l :=
 ⟨d,a.1,a.2,b.1,b.2,((FJ t l).1 c).1,((FJ t l).1 c).2⟩
theorem I9{key:List Int}(h:OkC key s t l):Er key s t l=0:=if_pos h
theorem D9{key:List Int}(h:¬ OkC key s t l):Er key s t l=5:=if_neg h
theorem Gf(A:Value)(key:List Int)(s t:Int)(l:List Bool)(w:World)(x:Sl w A key)(H:l.length=8) :
  Calls prog 148 #[.agg (chA A s t l)] w λe w'=>e=.returned (.int .i64 (Er key s t l))/\Bw w w':=by
 obtain⟨r,u,rfl⟩:=x.shape;have G:=x.len;have k:Bw w (w.alloc (.cells (chA (.slice r key.length u) s t l) 162)):=(Below.refl _ _).alloc (A' _) _;obtain⟨b0,a,b,c,d,f,g,i,rfl⟩:=G9 l H;by_cases p:key.length=32
 .have HK:Hid (key.length=32):=p;obtain⟨E,v⟩:∃ E,Er key s t [b0,a,b,c,d,f,g,i]=E:=⟨_,rfl⟩;have m:Hid (Er key s t [b0,a,b,c,d,f,g,i]=E):=v;rw[v];clear v;have o:=k;simp only[chA,List.map]at k ⊢;rw[p]at k o x ⊢
  have K:=heap_alloc_new w (.cells (chA (.slice r 32 u) s t [b0,a,b,c,d,f,g,i]) 162);clear p;go_enter func148,ntmps148
  go_wp2_with fail
  refine(Jm s _).mono ?_;rintro e I ⟨rfl,rfl⟩;by_cases q:0<=s/\s<=1073741824
  .rw[I' q];go_wp2_with fail
   refine(Jm t _).mono ?_;rintro e I ⟨rfl,rfl⟩;by_cases n:0<=t/\t<=1073741824
   .rw[I' n];go_wp2_with fail
    refine(Fs (.slice r 32 u) s t [b0,a,b,c,d,f,g,i] _ rfl).mono ?_;rintro e B ⟨rfl,C⟩;have y:Bw w B:=o.trans (C.mono (by simp));go_wp2_with fail
    refine(UF t [b0,a,b,c,d,f,g,i] B rfl n.1 n.2).mono ?_;rintro e J ⟨rfl,D⟩;have z:Bw w J:=y.trans (D.mono y.size);cases h4:RF t [b0,a,b,c,d,f,g,i]with
    | true =>
     have j:Hid (0=E):=m.out▸(I9 (fA HK.out q n h4)).symm;go_wp2
     go_ret;exact⟨Br j.out,z⟩
    | false =>
     have j:Hid (5=E):=m.out▸(D9 (λh=>by
      have:=(FJ t [b0,a,b,c,d,f,g,i]).2 ⟨h.low,h.top⟩;rw[h4]at this
      cases this)).symm
     go_wp2
     go_ret;exact⟨Br j.out,z⟩
   .rw[D' n];have j:Hid (5=E):=m.out▸(D9 (λh=>n ⟨h.t0,h.t1⟩)).symm;go_wp2
    go_ret;exact⟨Br j.out,k⟩
  .rw[D' q];have j:Hid (5=E):=m.out▸(D9 (λh=>q ⟨h.s0,h.s1⟩)).symm;go_wp2
   go_ret;exact⟨Br j.out,k⟩
 .have m:Hid (Er key s t [b0,a,b,c,d,f,g,i]=5):=D9 λh=>p h.key;have F:¬ (key.length:Int)=32:=by omega
  simp only[chA,List.map]at k ⊢;go_enter func148,ntmps148
  go_wp2
  go_ret;exact⟨Br m.out.symm,k⟩
theorem Ep(a:l.length=8):(prog.info? 162).map (·.size)=some (chA k s t l).size:=by rw[F9,a];kernel_rfl
theorem Kj{key:List Int}(b:Sl w k key)(s t:Int)(l:List Bool):(chA k s t l).all (·.oneCell')=true:=by
 obtain⟨a,c,rfl⟩:=b.shape;simp[chA,Value.oneCell']
theorem bj(r:Value)(key:List Int)(w:World)(c:Sl w r key) :
  Calls prog 157 #[r] w λe w'=>∃ v',e=.returned (.tuple #[.agg (chA v' 0 0 noB),.int .i64 (if key.length=32 then 0 else 1)])/\w'.ownsRow 0 5 1 v' (if key.length=32 then key else[]).length ((if key.length=32 then key else[]).map (Value.int .u8))/\Bw w w':=by
 obtain⟨C,D,rfl⟩:=c.shape;have y:=c.len;by_cases a:key.length=32
 .rw[if_pos a,if_pos a];rw[a]at c ⊢
  have j:Bw w (w.alloc (.cells (chA (.slice none 0 0) 0 0 noB) 162)):=(Below.refl _ _).alloc (A' _) _;have o:=heap_alloc_new w (.cells (chA (.slice none 0 0) 0 0 noB) 162);have g:(w.alloc (.cells (chA (.slice none 0 0) 0 0 noB) 162)).heap.size=w.heap.size+1:=by simp
  go_enter func157,ntmps157
  go_wp2_with fail
  refine(IB _ key _ (c.ab j)).mono ?_;rintro e i ⟨q,rfl,h,c1⟩;rw[g]at h
  have p:=Sl.kc h c.len c.byte;have n:=(c1.block w.heap.size (by rw[g];omega)).trans o;have u:Bw w i:=j.trans (c1.mono (by rw[g];omega));have m:=Ep (k:=q) (s:=0) (t:=0) GU;have z:=Kj p 0 0 noB;clear c1 o j g;have d:(chA (.slice none 0 0) 0 0 noB).size=(chA q 0 0 noB).size:=by rw[F9,F9]
  obtain⟨b,c1,f⟩:=p.shape;rw[a]at f
  subst f;go_wp2_with (refine wpList_store_row rfl 162 (.tmp 2) (.tmp 10) rfl w.heap.size (chA (.slice b 32 c1) 0 0 noB) rfl rfl 162 _ n m d z ?_)
  have A:=setRow_heap i w.heap.size _ (chA (.slice b 32 c1) 0 0 noB) 162 _ n;have v:Bw w (i.setRow w.heap.size (chA (.slice b 32 c1) 0 0 noB)):=below_setRow u (A' _) _;have B:(i.setRow w.heap.size (chA (.slice b 32 c1) 0 0 noB)).ownsRow 0 5 1 (.slice b 32 c1) key.length (key.map (Value.int .u8)) :=
   AJ (GY h λk l=>setRow_other _ _ _ _ (by have:=(h.lt k l).1;omega)) (j' _)
  exact bodyPost_ret (Im rfl _ _ w.heap.size 162 _ (0,0) _ rfl A underlying162 rfl m) rfl ⟨.slice b 32 c1,rfl,a▸B,v⟩
 .rw[if_neg a,if_neg a];have x:¬ (key.length:Int)=32:=by omega
  go_enter func157,ntmps157
  go_wp2
  exact bodyPost_ret (Im rfl _ _ w.heap.size 162 (chA (.slice none 0 0) 0 0 noB) (0,0) _ rfl (heap_alloc_new _ _) underlying162 rfl (Ep GU)) rfl ⟨.slice none 0 0,rfl,World.ownsRow_nil _ _ _ _,(Below.refl _ _).alloc (A' _) _⟩
structure Bx(w W:World)(k:Value)(s t:Int)(l:List Bool):Prop where
 row:W.heap[w.heap.size]?=some (.cells (chA k s t l) 162 (0,0))
 nY:Bw w W
theorem Bx.new(w:World)(k:Value)(s t:Int)(l:List Bool):Bx w (w.alloc (.cells (chA k s t l) 162)) k s t l:=⟨heap_alloc_new _ _,(Below.refl _ _).alloc (A' _) _⟩
theorem Bx.lt(h:Bx w W k s t l):w.heap.size<W.heap.size:=(H'.1 h.row).1
theorem Bx.step(h:Bx w W k s t l)(a:Bw W W'):Bx w W' k s t l :=
 ⟨(a.block _ h.lt).trans h.row,h.nY.trans (a.mono h.nY.size)⟩
theorem Bx.c0(h:Bx w W k s t l):W.cell? ⟨w.heap.size,0,none⟩=some k:=(cell_of_row _ _ 0 _ _ _ h.row).trans (SM k s t l)
theorem Bx.c1(h:Bx w W k s t l):W.cell? ⟨w.heap.size,1,none⟩=some (.int .i64 s):=(cell_of_row _ _ 1 _ _ _ h.row).trans (OV k s t l)
def FU(key:List Int)(s t:Int)(l:List Bool)(p:List Int):List Int:=if DO key s t l p=0 then JV key s p else[]
theorem Y4(m:Value)(key:List Int)(s t:Int)(l:List Bool)(vp:Value)(p:List Int)(w:World)(n:Sl w m key)(P:l.length=8)(G:Sl w vp p)(R:Cp w) :
  Calls prog 118 #[.agg (chA m s t l),vp] w λe w'=>∃ v',e=.returned (.tuple #[v',.int .i64 (DO key s t l p)])/\w'.ownsRow 0 5 1 v' (FU key s t l p).length ((FU key s t l p).map (Value.int .u8))/\Bw w w':=by
 have y:=R.pos;have bx:=Bx.new w m s t l;obtain⟨ap,cp,rfl⟩:=G.shape;have a2:=G.len;have Z:=Ep (k:=m) (s:=s) (t:=t) P;by_cases a:OkC key s t l
 .have HC:Hid (Er key s t l=0):=I9 a;go_enter func118,ntmps118
  go_wp2_with (refine wpList_load_row rfl 162 _ rfl w.heap.size rfl 162 _ (0,0) _ bx.row underlying162 rfl Z ?_)
  refine(Gf m key s t l _ (n.ab bx.nY) P).mono ?_;rintro e o ⟨rfl,E⟩;replace bx:=bx.step E;rw[HC.out];clear E;by_cases M:2000<p.length
  .have b:Hid (DO key s t l p=1):=by unfold Hid DO;rw[if_neg (λh=>h a),if_pos M]
   have i:Hid (FU key s t l p=[]):=by unfold Hid FU;rw[b.out];rfl
   have N:(2000:Int)<(p.length:Int):=by omega
   go_wp2
   go_ret2
   exact⟨.slice none 0 0,by rw[b.out];rfl,by rw[i.out];exact World.ownsRow_nil _ _ _ _,bx.nY⟩
  .have N:¬ (2000:Int)<(p.length:Int):=by omega
   have c1:=bx.c1;by_cases Y:s=1073741824
   .have b:Hid (DO key s t l p=8):=by unfold Hid DO;rw[if_neg (λh=>h a),if_neg M,if_pos Y]
    have i:Hid (FU key s t l p=[]):=by unfold Hid FU;rw[b.out];rfl
    go_wp2
    go_ret2
    exact⟨.slice none 0 0,by rw[b.out];rfl,by rw[i.out];exact World.ownsRow_nil _ _ _ _,bx.nY⟩
   .have b:Hid (DO key s t l p=0):=by unfold Hid DO;rw[if_neg (λh=>h a),if_neg M,if_neg Y]
    have i:Hid (FU key s t l p=JV key s p):=by unfold Hid FU;rw[b.out];rfl
    have s0:=a.s0;have s1:s<1073741824:=by have:=a.s1;omega
    have a0:Hid (key.length=32):=a.key;go_wp2_with fail
    have q:=bx.nY;refine(Rx s o s0 s1).mono ?_;rintro e D ⟨vh,rfl,C,L⟩;replace bx:=bx.step L;clear c1;have c0:=bx.c0;have I:Sl D vh (Ab s):=Sl.kc C (by rw[Ck];omega) (Au s);have u:=n.ab bx.nY;have x:=G.ab bx.nY;have z:=R.ab y bx.nY;have d:4<D.heap.size:=by have:=bx.lt;omega
    have K:Hid (JV key s p=Ab s++Io key (Bm (Ab s)) (Ab s) p):=rfl;have j:=Ck s;have V:Hid (FF key (Bm (Ab s)) (Ab s)=true):=ao a.key (GA rfl) (by rw[Ck];omega);have O:p.length<=2000:=by omega
    have c:=bx.nY;generalize Ab s=H at K j V I C;have g:Bw D D.drew:=(Below.refl _ _).drew;have a1:=C.lt;have B:w.heap.size<D.drew.heap.size:=bx.lt;clear n G R a;go_wp2_with fail
    go_region_with (first
     | (go_at_call 151;refine(Ju _ H _ (I.ab g) j).mono ?_;rintro e w3 ⟨vn,rfl,sn,f⟩;have c3:=(f.cell (p:=⟨w.heap.size,0,none⟩) B).trans c0)
     | (go_at_call 150;refine(cB m vn _ _ key (Bm H) H p _ ((u.ab g).ab f) sn ((I.ab g).ab f) ((x.ab g).ab f) V.out O ((z.ab d g).ab d f)).mono ?_;rintro e w4 ⟨vx,rfl,sx,F⟩))
    all_goals
     have U:=Fh (Fh C.drew f) F;have Q:=U.lt;have W:Bw w w3:=c.trans ((g.trans f).mono c.size);have d4:Bw w w4:=W.trans (F.mono W.size);have T:o.heap.size<=w4.heap.size:=jG L.size (jG g.size (jG f.size F.size));have S:w.heap.size<=o.heap.size:=q.size;have A:=Ip key (Bm H) H p;clear bx C I u x z g c0 c3 sn f F B L c;generalize Io key (Bm H) H p=X at K A sx;go_wp2_with (at_builtin;refine Aa _ rfl _ _ 48 rfl o.heap.size 5 underlying48 Aq _ _ rfl rfl H X U sx (by omega) T ?_)
     intro v5 w5 v r;have b5:Bw w w5:=d4.grown r (by omega) (λk n=>jG S (Q k n).1);have J:Hid (w5.ownsRow o.heap.size 5 1 v5 (H++X).length ((H++X).map (Value.int .u8))):=by
      unfold Hid;simpa[j,A]using v
     clear v r U;go_wp2
     go_ret2
     refine⟨v5,by rw[b.out];rfl,?_,b5⟩;rw[i.out,K.out];exact AJ J.out (j' _)
 .have HC:Hid (Er key s t l=5):=D9 a;have b:Hid (DO key s t l p=5):=if_pos a;have i:Hid (FU key s t l p=[]):=by unfold Hid FU;rw[b.out];rfl
  go_enter func118,ntmps118
  go_wp2_with (refine wpList_load_row rfl 162 _ rfl w.heap.size rfl 162 _ (0,0) _ bx.row underlying162 rfl Z ?_)
  refine(Gf m key s t l _ (n.ab bx.nY) P).mono ?_;rintro e o ⟨rfl,E⟩;replace bx:=bx.step E;rw[HC.out];go_wp2
  go_ret2
  exact⟨.slice none 0 0,by rw[b.out];rfl,by rw[i.out];exact World.ownsRow_nil _ _ _ _,bx.nY⟩
theorem QL(k a:Value)(s t:Int)(l:List Bool):(chA k s t l).setIfInBounds 0 a=chA a s t l:=by apply lZ;simp[chA]
theorem OX(k:Value)(s a t:Int)(l:List Bool):(chA k s t l).setIfInBounds 1 (.int .i64 a)=chA k a t l:=by apply lZ;simp[chA]
theorem QM(k:Value)(s t a:Int)(l:List Bool):(chA k s t l).setIfInBounds 2 (.int .i64 a)=chA k s a l:=by apply lZ;simp[chA]
structure By(w W:World)(k:Value)(s t:Int)(l:List Bool):Prop where
 row:W.heap[w.heap.size]?=some (.cells (chA k s t l) 162 (0,0))
 res:W.heap[w.heap.size+1]?=some (.cells (chA (.slice none 0 0) 0 0 noB) 162 (0,0))
 nY:Bw w W
theorem By.new(w:World)(k:Value)(s t:Int)(l:List Bool):By w ((w.alloc (.cells (chA k s t l) 162)).alloc (.cells (chA (.slice none 0 0) 0 0 noB) 162)) k s t l :=
 ⟨heap_alloc2_old _ _ _,heap_alloc2_new _ _ _,((Below.refl _ _).alloc (A' _) _).alloc (by simp) _⟩
theorem By.lt(h:By w W k s t l):w.heap.size+1<W.heap.size:=(H'.1 h.res).1
theorem By.step(h:By w W k s t l)(a:Bw W W'):By w W' k s t l :=
 ⟨(a.block _ (by have:=h.lt;omega)).trans h.row,(a.block _ h.lt).trans h.res,h.nY.trans (a.mono h.nY.size)⟩
theorem By.c0(h:By w W k s t l):W.cell? ⟨w.heap.size,0,none⟩=some k:=(cell_of_row _ _ 0 _ _ _ h.row).trans (SM k s t l)
theorem By.c1(h:By w W k s t l):W.cell? ⟨w.heap.size,1,none⟩=some (.int .i64 s):=(cell_of_row _ _ 1 _ _ _ h.row).trans (OV k s t l)
theorem By.fr(h:By w W k s t l)(i:Nat):W.frozen? ⟨w.heap.size,i,none⟩=false:=frozen_of_row _ _ i _ _ h.row
theorem By.key(h:By w W k s t l)(a:Value):By w (W.setCell ⟨w.heap.size,0,none⟩ a) a s t l :=
 ⟨by rw[heap_setCell_same _ _ _ _ _ _ h.row,QL],(heap_setCell_other _ _ _ _ (by simp)).trans h.res,h.nY.setCell (p:=⟨w.heap.size,0,none⟩) (by simp) _⟩
theorem By.pW(h:By w W k s t l)(a:Int):By w (W.setCell ⟨w.heap.size,1,none⟩ (.int .i64 a)) k a t l :=
 ⟨by rw[heap_setCell_same _ _ _ _ _ _ h.row,OX],(heap_setCell_other _ _ _ _ (by simp)).trans h.res,h.nY.setCell (p:=⟨w.heap.size,1,none⟩) (by simp) _⟩
theorem Sl.oT{l:List Int}(h:Sl w v l)(B:Nat)(p:∀ i x,w.cell? ⟨B,i,none⟩≠some (.int .u8 x))(q:w.heap.size<=w'.heap.size)(o:∀ k,k≠B->w'.heap[k]?=w.heap[k]?):Sl w' v l:=by
 obtain⟨⟨a,c,rfl,n,e,d⟩,g,j⟩:=h;refine⟨⟨a,c,rfl,n,e,?_⟩,g,j⟩;rcases d with d|⟨b,off,ha,hbs,hcell⟩
 .exact .inl d
 .refine .inr ⟨b,off,ha,Y' hbs q,λi f=>?_⟩;have m:b≠B:=by
   rintro rfl;exact p _ _ (hcell i f)
  rw[<- hcell i f];exact World.cell?_of_block (w:=w) (o b m)
theorem KA{fr:Nat × Nat}(h:W.heap[B]?=some (.cells (chA (.slice a n c) s t l) ty fr)):∀ i x,W.cell? ⟨B,i,none⟩≠some (.int .u8 x):=by
 intro i x b;rw[cell_of_row _ _ i _ _ _ h]at b
 have d:=Array.mem_of_getElem? b;simp[chA]at d
theorem Sl.nZ(h:Sl W v p){B:Nat}{a:Option Addr}{n c:Nat}{s t:Int}{l:List Bool}{e:TypeId}{fr:Nat × Nat}(d:W.heap[B]?=some (.cells (chA (.slice a n c) s t l) e fr))(i:Nat)(u:Value):Sl (W.setCell ⟨B,i,none⟩ u) v p :=
 h.oT B (KA d) (by simp[World.setCell]) λk b=>heap_setCell_other _ _ _ _ (by simpa using b)
theorem Sl.oF(h:Sl W v p){B:Nat}{a:Option Addr}{n c:Nat}{s t:Int}{l:List Bool}{f:TypeId}{fr:Nat × Nat}(e:W.heap[B]?=some (.cells (chA (.slice a n c) s t l) f fr))(b:Array Value):Sl (W.setRow B b) v p :=
 h.oT B (KA e) (by simp[World.setRow]) λk d=>setRow_other _ _ _ _ d
theorem Lr(h:W.ownsRow 0 5 1 v n xs){B:Nat}{A:Array Value}{e:TypeId}{fr:Nat × Nat}(c:W.heap[B]?=some (.cells A e fr))(d:e≠5):∀ k,v.ownBlock=some k->k≠B:=by
 intro k a b;subst b;rcases h.2 with⟨rfl,_⟩|⟨g,cap,cur,rfl,_,hg,_⟩
 .simp[Value.ownBlock]at a
 .simp only[Value.ownBlock,V']at a;subst a;rw[hg]at c
  simp only[V',Obj.cells.injEq]at c;exact d c.2.1.symm
theorem AI(h:W.ownsRow 0 5 1 v n xs){B:Nat}{A:Array Value}{b:TypeId}{fr:Nat × Nat}(d:W.heap[B]?=some (.cells A b fr))(a:b≠5)(i:Nat)(u:Value):(W.setCell ⟨B,i,none⟩ u).ownsRow 0 5 1 v n xs :=
 GY h λk c=>heap_setCell_other _ _ _ _ (by simpa using Lr h d a k c)
theorem Ev(h:W.ownsRow 0 5 1 v n xs){B:Nat}{A:Array Value}{b:TypeId}{fr:Nat × Nat}(e:W.heap[B]?=some (.cells A b fr))(a:b≠5)(c:Array Value):(W.setRow B c).ownsRow 0 5 1 v n xs :=
 GY h λk d=>setRow_other _ _ _ _ (Lr h e a k d)
theorem Yy{key:List Int}(h:DO key s t l p=0):OkC key s t l/\p.length<=2000/\s<1073741824:=by
 unfold DO at h;by_cases a:OkC key s t l
 .rw[if_neg (λh=>h a)]at h
  by_cases b:2000<p.length
  .rw[if_pos b]at h;omega
  .rw[if_neg b]at h
   by_cases c:s=1073741824
   .rw[if_pos c]at h;omega
   .exact⟨a,by omega,by have:=a.s1;omega⟩
 .rw[if_pos a]at h;omega
theorem cD(r:Value)(key:List Int)(s t:Int)(l:List Bool)(z:Value)(p:List Int)(w:World)(g:Sl w r key)(q:l.length=8)(J:Sl w z p)(C:Cp w)(o:DO key s t l p=0) :
  Calls prog 77 #[.agg (chA r s t l),z] w λe w'=>∃ v1,∃ v2,e=.returned (.tuple #[.agg (chA v1 (s+1) t l),v2,.int .i64 0])/\Sl w' v1 key/\w'.ownsRow 0 5 1 v1 key.length (key.map (Value.int .u8))/\w'.ownsRow 0 5 1 v2 (JV key s p).length ((JV key s p).map (Value.int .u8))/\Bw w w':=by
 have m:=C.pos;have bx:=By.new w r s t l;have B:=Ep (k:=r) (s:=s) (t:=t) q;obtain⟨f,_,Q⟩:=Yy o;have s0:=f.s0;have D:Hid (DO key s t l p=0):=o;have G:Hid (FU key s t l p=JV key s p):=if_pos o;obtain⟨O,P,rfl⟩:=g.shape;have E:Hid (key.length=32):=f.key;generalize i:key.length=nk at g B bx ⊢;have u:Hid (key.length=nk):=i;clear i;go_enter func77,ntmps77
 clear o f;go_wp2_with (refine wpList_load_row rfl 162 _ rfl w.heap.size rfl 162 _ (0,0) _ bx.row underlying162 rfl B ?_)
 refine(Y4 _ key s t l z p _ (g.ab bx.nY) q (J.ab bx.nY) (C.ab m bx.nY)).mono ?_;rintro e M ⟨v2,rfl,b,A⟩;rw[D.out];rw[G.out]at b
 replace bx:=bx.step A;have c0:=bx.c0;clear A;go_wp2_with fail
 refine(IB _ key M (g.ab bx.nY)).mono ?_;rintro e N ⟨v1,rfl,a,v⟩;have K:=bx.lt;replace bx:=bx.step v;replace b:=Fh b v;have sk:=Sl.kc a g.len g.byte;replace a:=AJ a (j' _);clear v c0;obtain⟨c,c1,n⟩:=sk.shape;generalize h:key.length=n1 at n a;have F:Hid (key.length=n1):=h;clear h;subst n;have c0:=bx.c0;have H:=bx.fr 0
 go_upto_region 5 with fail
 replace b:=AI b bx.row (by decide) 0 (.slice c n1 c1);replace a:=AI a bx.row (by decide) 0 (.slice c n1 c1);replace sk:=sk.nZ bx.row 0 (.slice c n1 c1);replace bx:=bx.key (.slice c n1 c1);generalize N.setCell ⟨w.heap.size,0,none⟩ (.slice c n1 c1)=w3 at b sk a bx ⊢;clear c0 H;have x:=bx.c1;have I:=bx.fr 1
 go_upto_region 6 with fail
 replace b:=AI b bx.row (by decide) 1 (.int .i64 (s+1));replace a:=AI a bx.row (by decide) 1 (.int .i64 (s+1));replace sk:=sk.nZ bx.row 1 (.int .i64 (s+1));replace bx:=bx.pW (s+1);generalize w3.setCell ⟨w.heap.size,1,none⟩ (.int .i64 (s+1))=w4 at b sk a bx ⊢;clear x I;have d:=Ep (k:=.slice c n1 c1) (s:=s+1) (t:=t) q;have y:=Kj sk (s+1) t l;have j:(chA (.slice none 0 0) 0 0 noB).size=(chA (.slice c n1 c1) (s+1) t l).size:=by rw[F9,F9,q];rfl
 go_wp2_with (first
  | (refine wpList_load_row rfl 162 _ rfl w.heap.size rfl 162 _ (0,0) _ bx.row underlying162 rfl d ?_)
  | (refine wpList_store_row rfl 162 _ _ rfl (w.heap.size+1) _ rfl rfl 162 _ bx.res d j y ?_))
 have L:=setRow_heap w4 (w.heap.size+1) _ (chA (.slice c n1 c1) (s+1) t l) 162 _ bx.res;exact bodyPost_ret (Fk rfl _ _ (w.heap.size+1) 162 _ (0,0) _ rfl L underlying162 rfl d) rfl ⟨.slice c n1 c1,v2,rfl,sk.oF bx.res _,by rw[<- u.out,F.out];exact Ev a bx.res (by decide) _,Ev b bx.res (by decide) _,below_setRow bx.nY (by omega) _⟩
theorem Zh(t n:Int)(l:List Bool)(w:World)(u:l.length=8)(t0:0<=t)(t1:t<=1073741824)(n0:t-8<=n)(n2:0<=n)(n1:n<1073741824) :
  Calls prog 180 #[.agg (wA t l),.int .i64 n] w λe w'=>e=.returned (.agg (wA (G1 t n) (JZ t l n)))/\Bw w w':=by
 have q:((w.alloc (.cells (wA t l) 261)).alloc (.cells (wA 0 noB) 261)).heap[w.heap.size]?=some (.cells (wA t l) 261 (0,0)):=heap_alloc2_old _ _ _;have C:((w.alloc (.cells (wA t l) 261)).alloc (.cells (wA 0 noB) 261)).heap[w.heap.size+1]?=some (.cells (wA 0 noB) 261 (0,0)):=heap_alloc2_new _ _ _;have B:Bw w ((w.alloc (.cells (wA t l) 261)).alloc (.cells (wA 0 noB) 261)):=((Below.refl _ _).alloc (A' _) _).alloc (by simp) _;have V:((w.alloc (.cells (wA t l) 261)).alloc (.cells (wA 0 noB) 261)).heap.size=w.heap.size+1+1:=by simp
 have S:=JB (t:=t) u;have N:=(cell_of_row _ _ 0 _ _ _ q).trans (gv t l);by_cases h1:t<=n
 .obtain⟨d,hd⟩:∃ d,d=min (n+1-t).toNat 8:=⟨_,rfl⟩;obtain⟨f,g⟩:=Vx t n l u h1 d hd;have x:Hid _:=f;have K:Hid (G1 t n=n+1):=g;clear f g;have b:(l.drop d++List.replicate d false).length=8:=by simp;omega
  have HD:Hid (d=min (n+1-t).toNat 8):=hd;clear hd;go_enter func180,ntmps180
  go_upto_region 1 with fail
  generalize m:((w.alloc (.cells (wA t l) 261)).alloc (.cells (wA 0 noB) 261))=W at q C B V N;refine(congrArg (Code.wp _ _ _ _) m).mpr ?_;clear m;go_wp2_with (refine wpList_load_row rfl 261 _ rfl w.heap.size rfl 261 _ (0,0) _ q underlying261 rfl S ?_)
  refine(Sq t (n+1) l W u t0 t1 (by omega) (by omega) d HD.out).mono ?_;rintro e A ⟨rfl,E⟩;generalize l.drop d++List.replicate d false=R at x b;have a0:=(E.block w.heap.size (by omega)).trans q;have a1:=(E.block (w.heap.size+1) (by omega)).trans C;have F:Bw w A:=B.trans (E.mono (by omega));have X:w.heap.size+1+1<=A.heap.size:=by have:=E.size;omega
  have I:=JB (t:=n+1) b
  go_upto_region 3 with(refine wpList_store_row rfl 261 _ _ rfl w.heap.size _ rfl rfl 261 _ a0 I (by rw[D8,D8,b,u]) (OH _ _) ?_)
  have G:=setRow_heap A w.heap.size _ (wA (n+1) R) 261 _ a0;have L:=(setRow_other A w.heap.size (w.heap.size+1) (wA (n+1) R) (by omega)).trans a1;have y:Bw w (A.setRow w.heap.size (wA (n+1) R)):=below_setRow F (A' _) _;have Y:w.heap.size+1+1<=(A.setRow w.heap.size (wA (n+1) R)).heap.size:=by have:=(H'.1 L).1;omega
  generalize A.setRow w.heap.size (wA (n+1) R)=W2 at G L y Y ⊢;clear a0 a1 F E q C B N V X;have P:n+1<=1073741824:=by omega
  obtain⟨i,hi,J⟩:∃ i:Nat,i<8/\n-(n+1-8)=(i:Int):=⟨7,by omega,by omega⟩;have D:Hid (JZ t l n=R.set i true):=by unfold Hid;rw[show i=7 by omega];exact x.out
  clear x;have x:=D;clear D;have Q:0<=n+1:=by omega
  generalize n+1=T at K G P J Q I;go_wp2_with (refine wpList_load_row rfl 261 _ rfl w.heap.size rfl 261 _ (0,0) _ G underlying261 rfl (JB b) ?_)
  refine(DK T R W2 b (by omega) (by omega)).mono ?_;rintro e s ⟨rfl,h⟩;have r:=(h.block w.heap.size (by omega)).trans G;have H:=(h.block (w.heap.size+1) (by omega)).trans L;have j:Bw w s:=y.trans (h.mono (by omega));have Z:w.heap.size+1<s.heap.size:=by have:=h.size;omega
  have M:=(cell_of_row _ _ (1+i) _ _ _ r).trans (Kx T R i (by omega));have fi:=frozen_of_row _ _ (1+i) _ _ r;have O:=Q4 r i true;have k:(s.setCell ⟨w.heap.size,1+i,none⟩ (.bool true)).heap[w.heap.size+1]?=some (.cells (wA 0 noB) 261 (0,0)):=(heap_setCell_other _ _ _ _ (by simp)).trans H;have z:Bw w (s.setCell ⟨w.heap.size,1+i,none⟩ (.bool true)):=j.setCell (p:=⟨w.heap.size,1+i,none⟩) (by simp) _;have o:(R.set i true).length=8:=by rw[List.length_set];exact b
  have a:=JB (t:=T) o;have U:(i:Int)<8:=by omega
  generalize R.getD i false=c at M;clear G L r H h y j;go_wp2_with (first
   | (refine wpList_load_row rfl 261 _ rfl w.heap.size rfl 261 _ (0,0) _ O underlying261 rfl a ?_)
   | (refine wpList_store_row rfl 261 _ _ rfl (w.heap.size+1) _ rfl rfl 261 _ k a (by rw[D8,D8,o];rfl) (OH _ _) ?_))
  exact bodyPost_ret (v:=.agg (wA T (R.set i true))) (results_cell_row rfl _ _ (w.heap.size+1) 261 _ (0,0) _ rfl (setRow_heap _ (w.heap.size+1) _ _ 261 _ k) underlying261 rfl a) rfl ⟨by rw[x.out,K.out],below_setRow z (by omega) _⟩
 .obtain⟨i,hi,J⟩:∃ i:Nat,i<8/\n-(t-8)=(i:Int):=⟨(n-(t-8)).toNat,by omega,by omega⟩;obtain⟨f,g⟩:=YO t n l u (by omega) i hi (by omega);have x:Hid (JZ t l n=l.set i true):=f;have K:Hid (G1 t n=t):=g;clear f g;go_enter func180,ntmps180
  go_upto_region 1 with fail
  generalize m:((w.alloc (.cells (wA t l) 261)).alloc (.cells (wA 0 noB) 261))=W at q C B V N;refine(congrArg (Code.wp _ _ _ _) m).mpr ?_;clear m;go_wp2_with (refine wpList_load_row rfl 261 _ rfl w.heap.size rfl 261 _ (0,0) _ q underlying261 rfl (JB u) ?_)
  refine(DK t l W u (by omega) (by omega)).mono ?_;rintro e s ⟨rfl,h⟩;have r:=(h.block w.heap.size (by omega)).trans q;have H:=(h.block (w.heap.size+1) (by omega)).trans C;have j:Bw w s:=B.trans (h.mono (by omega));have Z:w.heap.size+1<s.heap.size:=by have:=h.size;omega
  have M:=(cell_of_row _ _ (1+i) _ _ _ r).trans (Kx t l i (by omega));have fi:=frozen_of_row _ _ (1+i) _ _ r;have O:=Q4 r i true;have k:(s.setCell ⟨w.heap.size,1+i,none⟩ (.bool true)).heap[w.heap.size+1]?=some (.cells (wA 0 noB) 261 (0,0)):=(heap_setCell_other _ _ _ _ (by simp)).trans H;have z:Bw w (s.setCell ⟨w.heap.size,1+i,none⟩ (.bool true)):=j.setCell (p:=⟨w.heap.size,1+i,none⟩) (by simp) _;have o:(l.set i true).length=8:=by rw[List.length_set];exact u
  have a:=JB (t:=t) o;have U:(i:Int)<8:=by omega
  generalize l.getD i false=c at M;clear q C r H h B j;go_wp2_with (first
   | (refine wpList_load_row rfl 261 _ rfl w.heap.size rfl 261 _ (0,0) _ O underlying261 rfl a ?_)
   | (refine wpList_store_row rfl 261 _ _ rfl (w.heap.size+1) _ rfl rfl 261 _ k a (by rw[D8,D8,o];rfl) (OH _ _) ?_))
  exact bodyPost_ret (v:=.agg (wA t (l.set i true))) (results_cell_row rfl _ _ (w.heap.size+1) 261 _ (0,0) _ rfl (setRow_heap _ (w.heap.size+1) _ _ 261 _ k) underlying261 rfl a) rfl ⟨by rw[x.out,K.out],below_setRow z (by omega) _⟩
def Ji(w':World)(v':Value)(n':Int)(key:List Int)(s t:Int)(l:List Bool)(r:List Int):Prop:=Co key s t l r=0->n'=Fe (r.take 4)/\Sl w' v' (J9 key r)
theorem Ji.no{d:Value}{c:Int}{key:List Int}{E:Int}(h:Co key s t l r=E)(b:E≠0):Ji w' d c key s t l r:=λa=>absurd (h.symm.trans a) b
theorem NC(i:Value)(key:List Int)(s t:Int)(l:List Bool)(vr:Value)(r:List Int)(w:World)(G:Sl w i key)(v:l.length=8)(I:Sl w vr r)(Q:Cp w) :
  Calls prog 179 #[.agg (chA i s t l),vr] w λe w'=>∃ v',∃ n',e=.returned (.tuple #[v',.int .i64 n',.int .i64 (Co key s t l r)])/\Ji w' v' n' key s t l r/\Bw w w':=by
 have x:=Q.pos;have bx:=Bx.new w i s t l;obtain⟨ar,cr,rfl⟩:=I.shape;have a0:=I.len;have P:=Ep (k:=i) (s:=s) (t:=t) v;by_cases a:OkC key s t l
 .have HC:Hid (Er key s t l=0):=I9 a;go_enter func179,ntmps179
  go_wp2_with (refine wpList_load_row rfl 162 _ rfl w.heap.size rfl 162 _ (0,0) _ bx.row underlying162 rfl P ?_)
  refine(Gf i key s t l _ (G.ab bx.nY) v).mono ?_;rintro e w1 ⟨rfl,B⟩;replace bx:=bx.step B;rw[HC.out];clear B;by_cases K:2020<r.length
  .have b:Hid (Co key s t l r=1):=by unfold Hid Co;rw[if_neg (λh=>h a),if_pos K]
   have L:(2020:Int)<(r.length:Int):=by omega
   go_wp2
   go_ret3
   exact⟨.slice none 0 0,0,by rw[b.out];rfl,Ji.no b.out (by decide),bx.nY⟩
  .have L:¬ (2020:Int)<(r.length:Int):=by omega
   by_cases V:r.length<20
   .have b:Hid (Co key s t l r=13):=by unfold Hid Co;rw[if_neg (λh=>h a),if_neg K,if_pos V]
    have M:(r.length:Int)<20:=by omega
    go_wp2
    go_ret3
    exact⟨.slice none 0 0,0,by rw[b.out];rfl,Ji.no b.out (by decide),bx.nY⟩
   .have M:¬ (r.length:Int)<20:=by omega
    go_wp2_with fail
    refine(ZN _ r w1 (I.ab bx.nY) (by omega)).mono ?_;rintro e w2 ⟨vh,vd,rfl,f,sd,S⟩;replace bx:=bx.step S;have g:(r.take 4).length=4:=by rw[X'];omega
    have O:(r.drop 4).length=r.length-4:=by rw[jL]
    obtain⟨H,q⟩:∃ H,r.take 4=H:=⟨_,rfl⟩;obtain⟨D,o⟩:∃ D,r.drop 4=D:=⟨_,rfl⟩;have HH:Hid (r.take 4=H):=q;have HD:Hid (r.drop 4=D):=o;rw[q]at f g
    rw[o]at sd O
    have Y:=Lq g f.byte;have A:Hid (Co key s t l r=if 1073741824<=Fe H then 2 else if GW t l (Fe H)=true then 7 else D1 key (Bm H) H D):=by
     unfold Hid Co;rw[if_neg (λh=>h a),if_neg K,if_neg V,q,o]
    have n:Hid (J9 key r=Nm key (Bm H) H D):=by unfold Hid J9;rw[q,o]
    clear q o S;go_wp2_with fail
    refine(Oq vh H w2 f g).mono ?_;rintro e R ⟨rfl,rfl⟩;generalize W:Fe H=N at A Y;have HN:Hid (Fe H=N):=W;clear W;by_cases h4:1073741824<=N
    .have b:Hid (Co key s t l r=2):=by unfold Hid;rw[A.out,if_pos h4]
     go_wp2
     go_ret3
     exact⟨.slice none 0 0,0,by rw[b.out];rfl,Ji.no b.out (by decide),bx.nY⟩
    .go_wp2_with (refine wpList_load_row rfl 162 _ rfl w.heap.size rfl 162 _ (0,0) _ bx.row underlying162 rfl P ?_)
     refine(Fs i s t l R v).mono ?_;rintro e w3 ⟨rfl,C⟩;replace bx:=bx.step C;replace f:=f.ab C;replace sd:=sd.ab C;have n0:=Y.1;have n1:N<1073741824:=by omega
     clear C;go_wp2_with fail
     refine(U0 t N l w3 v a.t0 a.t1 n0 n1).mono ?_;rintro e J ⟨rfl,F⟩;replace bx:=bx.step F;replace f:=f.ab F;replace sd:=sd.ab F;clear F;cases h5:GW t l N with
     | true =>
      have b:Hid (Co key s t l r=7):=by unfold Hid;rw[A.out,if_neg (show ¬ 1073741824<=N by omega),h5,if_pos rfl]
      clear h5;go_wp2
      go_ret3
      exact⟨.slice none 0 0,0,by rw[b.out];rfl,Ji.no b.out (by decide),bx.nY⟩
     | false =>
      have b:Hid (Co key s t l r=D1 key (Bm H) H D):=by unfold Hid;rw[A.out,if_neg (show ¬ 1073741824<=N by omega),h5,if_neg (by simp)]
      have u:=G.ab bx.nY;have y:=Q.ab x bx.nY;have d:4<J.heap.size:=by have:=bx.lt;omega
      have c0:=bx.c0;have c:=bx.nY;have m:Bw J J.drew:=(Below.refl _ _).drew;have z:w.heap.size<J.drew.heap.size:=bx.lt;clear h5 G I Q a;go_wp2_with fail
      go_region_with (first
       | (go_at_call 151;refine(Ju _ H _ (f.ab m) g).mono ?_;rintro e w5 ⟨vn,rfl,sn,j⟩;have c5:=(j.cell (p:=⟨w.heap.size,0,none⟩) z).trans c0)
       | (go_at_call 194;refine(XP i vn _ _ key (Bm H) H D _ ((u.ab m).ab j) sn ((f.ab m).ab j) ((sd.ab m).ab j) ((y.ab d m).ab d j)).mono ?_;rintro e w6 ⟨vx,rfl,Z,T⟩))
      all_goals
       have U:Bw w w5:=c.trans ((m.trans j).mono c.size);have d6:Bw w w6:=U.trans (T.mono U.size);clear bx f sd u y m c0 c5 sn j T z c;generalize D1 key (Bm H) H D=E at b;generalize Nm key (Bm H) H D=X at n Z;go_wp2
       go_ret3
       exact⟨vx,N,by rw[b.out];rfl,λ_=>⟨by rw[HH.out,HN.out],by rw[n.out];exact Z⟩,d6⟩
 .have HC:Hid (Er key s t l=5):=D9 a;have b:Hid (Co key s t l r=5):=if_pos a;go_enter func179,ntmps179
  go_wp2_with (refine wpList_load_row rfl 162 _ rfl w.heap.size rfl 162 _ (0,0) _ bx.row underlying162 rfl P ?_)
  refine(Gf i key s t l _ (G.ab bx.nY) v).mono ?_;rintro e w1 ⟨rfl,B⟩;replace bx:=bx.step B;rw[HC.out];go_wp2
  go_ret3
  exact⟨.slice none 0 0,0,by rw[b.out];rfl,Ji.no b.out (by decide),bx.nY⟩
theorem YP{key:List Int}(h:Co key s t l r=0):OkC key s t l/\20<=r.length/\r.length<=2020/\Fe (r.take 4)<1073741824/\GW t l (Fe (r.take 4))=false/\D1 key (Bm (r.take 4)) (r.take 4) (r.drop 4)=0:=by
 unfold Co at h;by_cases a:OkC key s t l
 .rw[if_neg (λh=>h a)]at h
  by_cases b:2020<r.length
  .rw[if_pos b]at h;omega
  .rw[if_neg b]at h
   by_cases c:r.length<20
   .rw[if_pos c]at h;omega
   .rw[if_neg c]at h
    by_cases d:1073741824<=Fe (r.take 4)
    .rw[if_pos d]at h;omega
    .rw[if_neg d]at h
     cases h5:GW t l (Fe (r.take 4))with
     | true=>rw[h5,if_pos rfl]at h;omega
     | false =>
      rw[h5,if_neg (by simp)]at h
      exact⟨a,by omega,by omega,by omega,rfl,h⟩
 .rw[if_pos a]at h;omega
theorem cN(c:Value)(key:List Int)(s t:Int)(l:List Bool)(f:Value)(r:List Int)(w:World)(p:Sl w c key)(i:l.length=8)(q:Sl w f r)(j:Cp w)(E:Int)(h:Co key s t l r=E)(n:E≠0) :
  Calls prog 158 #[.agg (chA c s t l),f] w λe w'=>e=.returned (.tuple #[.agg (chA (.slice none 0 0) 0 0 noB),.slice none 0 0,.int .i64 E])/\Bw w w':=by
 have b:=j.pos;have bx:=By.new w c s t l;have o:=Ep (k:=c) (s:=s) (t:=t) i;have m:Hid (Co key s t l r=E):=h;clear h;go_enter func158,ntmps158
 go_wp2_with (refine wpList_load_row rfl 162 _ rfl w.heap.size rfl 162 _ (0,0) _ bx.row underlying162 rfl o ?_)
 refine(NC _ key s t l f r _ (p.ab bx.nY) i (q.ab bx.nY) (j.ab b bx.nY)).mono ?_;rintro e v ⟨z,x,rfl,y,g⟩;rw[m.out];replace bx:=bx.step g;clear g;have a:=Ep (k:=.slice none 0 0) (s:=0) (t:=0) GU;have d:=Kj (Sl.nil w none) 0 0 noB;go_wp2_with (refine wpList_store_row rfl 162 _ _ rfl (w.heap.size+1) (chA (.slice none 0 0) 0 0 noB) rfl rfl 162 _ bx.res a rfl d ?_)
 have u:=setRow_heap v (w.heap.size+1) _ (chA (.slice none 0 0) 0 0 noB) 162 _ bx.res;exact bodyPost_ret (Fk rfl _ _ (w.heap.size+1) 162 _ (0,0) _ rfl u underlying162 rfl a) rfl ⟨rfl,below_setRow bx.nY (by omega) _⟩
theorem OW(k:Value)(s t:Int)(l:List Bool)(i:Nat)(x:Bool):(chA k s t l).setIfInBounds (3+i) (.bool x)=chA k s t (l.set i x):=by
 apply lZ;rw[nH];simp[chA,List.map_set]
theorem By.top(h:By w W k s t l)(a:Int):By w (W.setCell ⟨w.heap.size,2,none⟩ (.int .i64 a)) k s a l :=
 ⟨by rw[heap_setCell_same _ _ _ _ _ _ h.row,QM],(heap_setCell_other _ _ _ _ (by simp)).trans h.res,h.nY.setCell (p:=⟨w.heap.size,2,none⟩) (by simp) _⟩
theorem By.seen(h:By w W k s t l)(i o:Nat)(b:o=3+i)(x:Bool)(l':List Bool)(a:l.set i x=l'):By w (W.setCell ⟨w.heap.size,o,none⟩ (.bool x)) k s t l':=by
 subst b;subst a;exact⟨by rw[heap_setCell_same _ _ _ _ _ _ h.row,OW],(heap_setCell_other _ _ _ _ (by simp)).trans h.res,h.nY.setCell (p:=⟨w.heap.size,3+i,none⟩) (by simp) _⟩
theorem By.drew(h:By w W k s t l):By w W.drew k s t l:=⟨h.row,h.res,h.nY.drew⟩
theorem By.laid{I E D q o m k i:Bool}(h:By w W (.slice a n c) s t [I,E,D,q,o,m,k,i])(T:Int)(b0 b d e f g j l:Bool) :
  By w (((((((((W.setCell ⟨w.heap.size,2,none⟩ (.int .i64 T)).setCell ⟨w.heap.size,3,none⟩ (.bool b0)).setCell ⟨w.heap.size,4,none⟩ (.bool b)).setCell ⟨w.heap.size,5,none⟩ (.bool d)).setCell ⟨w.heap.size,6,none⟩ (.bool e)).setCell ⟨w.heap.size,7,none⟩ (.bool f)).setCell ⟨w.heap.size,8,none⟩ (.bool g)).setCell ⟨w.heap.size,9,none⟩ (.bool j)).setCell ⟨w.heap.size,10,none⟩ (.bool l)).drew (.slice a n c) s T [b0,b,d,e,f,g,j,l]/\(∀ v n xs,W.ownsRow 0 5 1 v n xs->(((((((((W.setCell ⟨w.heap.size,2,none⟩ (.int .i64 T)).setCell ⟨w.heap.size,3,none⟩ (.bool b0)).setCell ⟨w.heap.size,4,none⟩ (.bool b)).setCell ⟨w.heap.size,5,none⟩ (.bool d)).setCell ⟨w.heap.size,6,none⟩ (.bool e)).setCell ⟨w.heap.size,7,none⟩ (.bool f)).setCell ⟨w.heap.size,8,none⟩ (.bool g)).setCell ⟨w.heap.size,9,none⟩ (.bool j)).setCell ⟨w.heap.size,10,none⟩ (.bool l)).drew.ownsRow 0 5 1 v n xs)/\∀ v p,Sl W v p->Sl (((((((((W.setCell ⟨w.heap.size,2,none⟩ (.int .i64 T)).setCell ⟨w.heap.size,3,none⟩ (.bool b0)).setCell ⟨w.heap.size,4,none⟩ (.bool b)).setCell ⟨w.heap.size,5,none⟩ (.bool d)).setCell ⟨w.heap.size,6,none⟩ (.bool e)).setCell ⟨w.heap.size,7,none⟩ (.bool f)).setCell ⟨w.heap.size,8,none⟩ (.bool g)).setCell ⟨w.heap.size,9,none⟩ (.bool j)).setCell ⟨w.heap.size,10,none⟩ (.bool l)).drew v p:=by
 have r:=h.top T;have u:=r.seen 0 3 rfl b0 [b0,E,D,q,o,m,k,i] rfl;have x:=u.seen 1 4 rfl b [b0,b,D,q,o,m,k,i] rfl;have y:=x.seen 2 5 rfl d [b0,b,d,q,o,m,k,i] rfl;have z:=y.seen 3 6 rfl e [b0,b,d,e,o,m,k,i] rfl;have A:=z.seen 4 7 rfl f [b0,b,d,e,f,m,k,i] rfl;have B:=A.seen 5 8 rfl g [b0,b,d,e,f,g,k,i] rfl;have C:=B.seen 6 9 rfl j [b0,b,d,e,f,g,j,i] rfl;have F:=C.seen 7 10 rfl l [b0,b,d,e,f,g,j,l] rfl;refine⟨F.drew,λv n xs G=>?_,λv p H=>?_⟩
 .exact(AI (AI (AI (AI (AI (AI (AI (AI (AI G h.row (by decide) 2 _) r.row (by decide) 3 _) u.row (by decide) 4 _) x.row (by decide) 5 _) y.row (by decide) 6 _) z.row (by decide) 7 _) A.row (by decide) 8 _) B.row (by decide) 9 _) C.row (by decide) 10 _).drew
 exact(((((((((H.nZ h.row 2 _).nZ r.row 3 _).nZ u.row 4 _).nZ x.row 5 _).nZ y.row 6 _).nZ z.row 7 _).nZ A.row 8 _).nZ B.row 9 _).nZ C.row 10 _).drew
theorem cO(V:Value)(key:List Int)(s t:Int)(l:List Bool)(vr:Value)(r:List Int)(w:World)(F:Sl w V key)(L:l.length=8)(hr:Sl w vr r)(ht:Cp w)(hE:Co key s t l r=0)(n:Int)(U:Fe (r.take 4)=n) :
  Calls prog 158 #[.agg (chA V s t l),vr] w λe w'=>∃ v1,∃ v2,e=.returned (.tuple #[.agg (chA v1 s (G1 t n) (JZ t l n)),v2,.int .i64 0])/\Sl w' v1 key/\w'.ownsRow 0 5 1 v1 key.length (key.map (Value.int .u8))/\Sl w' v2 (J9 key r)/\Bw w w':=by
 have O:=ht.pos;have bx:=By.new w V s t l;have hi:=Ep (k:=V) (s:=s) (t:=t) L;obtain⟨E,P,z,j,a,a6⟩:=YP hE;rw[U]at j a
 have a3:0<=n:=by
  rw[<- U];exact(Lq (by rw[X'];omega) (λx hx=>hr.byte x (jU hx))).1
 have a4:t-8<=n:=by
  by_cases h:n<t-8
  .rw[PM h]at a;cases a
  .omega
 have t0:=E.t0;have t1:=E.t1;have HE:Hid (Co key s t l r=0):=hE;have HN:Hid (Fe (r.take 4)=n):=U;obtain⟨ak,ck,rfl⟩:=F.shape;generalize N:key.length=nk at F hi bx ⊢;have X:Hid (key.length=nk):=N;clear N;go_enter func158,ntmps158
 clear hE E U a a6 P z;go_wp2_with (refine wpList_load_row rfl 162 _ rfl w.heap.size rfl 162 _ (0,0) _ bx.row underlying162 rfl hi ?_)
 refine(NC _ key s t l vr r _ (F.ab bx.nY) L (hr.ab bx.nY) (ht.ab O bx.nY)).mono ?_;rintro e w1 ⟨v2,H,rfl,R,g⟩;rw[HE.out];obtain⟨M,c⟩:=R HE.out;rw[HN.out]at M
 subst M;replace bx:=bx.step g;clear g R;go_wp2_with (refine wpList_load_row rfl 162 _ rfl w.heap.size rfl 162 _ (0,0) _ bx.row underlying162 rfl hi ?_)
 refine(Fs _ s t l w1 L).mono ?_;rintro e w2 ⟨rfl,d⟩;replace bx:=bx.step d;replace c:=c.ab d;clear d;go_wp2_with fail
 refine(Zh t H l w2 L t0 t1 a4 a3 j).mono ?_;rintro e I ⟨rfl,f⟩;replace bx:=bx.step f;replace c:=c.ab f;clear f;have C:=Ei t l H;generalize hT:G1 t H=T;generalize hS:JZ t l H=S at C;have HT:Hid (G1 t H=T):=hT;have HS:Hid (JZ t l H=S):=hS;clear hT hS;obtain⟨b0,g,d,f,p,q,u,v,rfl⟩:=G9 S C;simp only[wA,List.map]
 go_upto_region 5 with fail
 have A:(I.alloc (.cells (wA T [b0,g,d,f,p,q,u,v]) 261)).heap[I.heap.size]?=some (.cells (wA T [b0,g,d,f,p,q,u,v]) 261 (0,0)):=heap_alloc_new _ _;have i:Bw I (I.alloc (.cells (wA T [b0,g,d,f,p,q,u,v]) 261)):=(Below.refl _ _).alloc (A' _) _;simp only[wA,List.map]at A i;have hG:=bx.lt;replace bx:=bx.step i;replace c:=c.ab i;generalize I.alloc (.cells #[.int .i64 T,.bool b0,.bool g,.bool d,.bool f,.bool p,.bool q,.bool u,.bool v] 261)=w4 at A i bx c ⊢;clear i;generalize I.heap.size=G at A hG ⊢;have c0:=bx.c0;have J:G<w4.heap.size:=(H'.1 A).1;go_wp2_with fail
 refine(IB _ key w4 (F.ab bx.nY)).mono ?_;rintro e w5 ⟨v1,rfl,m,y⟩;replace bx:=bx.step y;replace c:=c.ab y;replace A:=(y.block G J).trans A;have sk:=Sl.kc m F.len F.byte;replace m:=AJ m (j' _);clear y c0 J;obtain⟨o,c1,Q⟩:=sk.shape;generalize j:key.length=n1 at Q m;have W:Hid (key.length=n1):=j;clear j;subst Q;have c0:=bx.c0;have f0:=bx.fr 0
 go_upto_region 6 with fail
 replace c:=c.nZ bx.row 0 (.slice o n1 c1);replace sk:=sk.nZ bx.row 0 (.slice o n1 c1);replace m:=AI m bx.row (by decide) 0 (.slice o n1 c1);have g1:(w5.setCell ⟨w.heap.size,0,none⟩ (.slice o n1 c1)).heap[G]?=some (.cells (wA T [b0,g,d,f,p,q,u,v]) 261 (0,0)):=(heap_setCell_other _ _ _ _ (by simp;omega)).trans A;replace bx:=bx.key (.slice o n1 c1);generalize w5.setCell ⟨w.heap.size,0,none⟩ (.slice o n1 c1)=w6 at c sk m bx g1 ⊢;clear c0 f0 A;have e1:Bw w6 w6.drew:=(Below.refl _ _).drew;obtain⟨x0,x1,x2,x3,x4,x5,x6,x7,rfl⟩:=G9 l L;obtain⟨c0,Y,c2,c3,c4,c5,c6,c7,c8,c9,Z⟩:=TZ bx.row;obtain⟨e0,a0,e2,e3,e4,e5,e6,e7,e8⟩:=Mc g1;have f2:=bx.fr 2;have f3:=bx.fr 3;have f4:=bx.fr 4;have f5:=bx.fr 5;have f6:=bx.fr 6;have f7:=bx.fr 7;have f8:=bx.fr 8;have f9:=bx.fr 9;have a2:=bx.fr 10;have a8:¬ G=w.heap.size:=by omega
 have a7:¬ w.heap.size=G:=by omega
 go_region
 obtain⟨b,K,B⟩:=bx.laid T b0 g d f p q u v;replace c:=B _ _ c;replace sk:=B _ _ sk;replace m:=K _ _ _ m;clear B K c0 Y c2 c3 c4 c5 c6 c7 c8 c9 Z e0 a0 e2 e3 e4 e5 e6 e7 e8 f2 f3 f4 f5 f6 f7 f8 f9 a2 bx g1 e1;generalize (((((((((w6.setCell ⟨w.heap.size,2,none⟩ (.int .i64 T)).setCell ⟨w.heap.size,3,none⟩ (.bool b0)).setCell ⟨w.heap.size,4,none⟩ (.bool g)).setCell ⟨w.heap.size,5,none⟩ (.bool d)).setCell ⟨w.heap.size,6,none⟩ (.bool f)).setCell ⟨w.heap.size,7,none⟩ (.bool p)).setCell ⟨w.heap.size,8,none⟩ (.bool q)).setCell ⟨w.heap.size,9,none⟩ (.bool u)).setCell ⟨w.heap.size,10,none⟩ (.bool v)).drew=w7 at b c sk m ⊢;have D:=Ep (k:=.slice o n1 c1) (s:=s) (t:=T) C;have a5:=Kj sk s T [b0,g,d,f,p,q,u,v];have a:(chA (.slice none 0 0) 0 0 noB).size=(chA (.slice o n1 c1) s T [b0,g,d,f,p,q,u,v]).size:=rfl;go_wp2_with (first
  | (refine wpList_load_row rfl 162 _ rfl w.heap.size rfl 162 _ (0,0) _ b.row underlying162 rfl D ?_)
  | (refine wpList_store_row rfl 162 _ _ rfl (w.heap.size+1) _ rfl rfl 162 _ b.res D a a5 ?_))
 have r2:=setRow_heap w7 (w.heap.size+1) _ (chA (.slice o n1 c1) s T [b0,g,d,f,p,q,u,v]) 162 _ b.res;exact bodyPost_ret (Fk rfl _ _ (w.heap.size+1) 162 _ (0,0) _ rfl r2 underlying162 rfl D) rfl ⟨.slice o n1 c1,v2,by rw[HT.out,HS.out];rfl,sk.oF b.res _,by rw[<- X.out,W.out];exact Ev m b.res (by decide) _,c.oF b.res _,below_setRow b.nY (by omega) _⟩
end
end
end Go.Proofs.YthohlalejhgbmaaGreatDoor
