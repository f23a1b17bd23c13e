/- Part 9 of the walk. -/
import Derived.Lib.LazyBuf
import Derived.Test.YtogibonjmbhliabGreatDoorZ8
set_option maxRecDepth 100000
set_option maxHeartbeats 4000000
open Go.Proofs.Tryz
set_option linter.unusedVariables false
namespace Go.Proofs.YtogibonjmbhliabGreatDoor
section
def pick(n many:Int):Int:=if n<0 then(-(n+1))%many else n%many
theorem Bg(n a:Int)(b:0<a):0<=pick n a/\pick n a<a:=by
 unfold pick;split
 .exact⟨rF _ (by omega),q' _ b⟩
 .exact⟨rF _ (by omega),q' _ b⟩
def wK(a:Int):Int:=1+pick a 5/2
def wV(a e:Int):Int:=if wK a=1 then pick e 1000 else 0
theorem cO(a:Int):1<=wK a/\wK a<=3:=by
 have:=Bg a 5 (by omega);unfold wK;omega
theorem cP(a e:Int):0<=wV a e/\wV a e<=1000:=by
 have:=Bg e 1000 (by omega);unfold wV;split<;>omega
theorem gu(a d e:Int)(b c:Int)(i:0<=b/\b<=7)(j:0<=c/\c<=1048576):Bo (wK a) b c (pick d 4) (wV a e)=0:=by
 have f:=cO a;have g:=Bg d 4 (by omega);have h:=cP a e;refine UF f (by unfold InC;omega) ?_;unfold wV;split
 .exact .inl (by assumption)
 .exact .inr rfl
def I64(n:Int):Prop:=-9223372036854775808<=n/\n<=9223372036854775807
end
section
open Go.RowKit
section
variable{A:Array Value}{B c cap n:Nat}{E s t:Int}{P:Program}{W W' w w':World}{a:Option Addr}{k v:Value}{l:List Bool}{p r:List Int}{ty:TypeId}{x:S3}{xs:List Value}{y:Operand}
theorem lG(a:Int)(h:-9223372036854775808<=-a/\-a<=9223372036854775807):(Op.unary .neg (iv a)).run P W=.ok (iv (-a)) W:=by
 simp[go_sem];rw[IntKind.wrap_i64];omega
theorem aR{x:Operand}(a b:Int)(i:P.underlying 3=some (.int .i64))(f:0<=a)(g:a<=9223372036854775807)(j:0<b)(h:b<=9223372036854775807):(do Go.eqGuard .rem 3 x y (iv a) (iv b);Go.binOp .rem 3 (iv a) (iv b):Sem Value).run P W=.ok (iv (a%b)) W:=by
 have e:=lH (P:=P) (W:=W) (x:=x) (y:=y) a.toNat b.toNat i (by omega) (by omega) (by omega);have c:((a.toNat:Nat):Int)=a:=pC f;have d:((b.toNat:Nat):Int)=b:=pC (by omega);rw[c,d]at e
 rw[e,rx,c,d]
theorem gV{x:Operand}(a:Int)(e:P.underlying 3=some (.int .i64))(b:0<=a)(c:a<=1000):(do Go.eqGuard .quo 3 x y (iv a) (iv 2);Go.binOp .quo 3 (iv a) (iv 2):Sem Value).run P W=.ok (iv (a/2)) W:=by
 have d:a.tdiv 2=a/2:=qY b;simp only[Go.eqGuard,go_sem,Op.intDiv];simp[d];rw[IntKind.wrap_i64];omega
theorem AR{n:Int}(h:I64 n)(a:Int)(d:0<a:=by decide)(b:a<=9223372036854775807:=by decide) :
  Calls prog 12 #[iv n,iv a] w λe w'=>e=.returned (iv (pick n a))/\Bw w w':=by
 unfold I64 at h;refine tIn [] func12 trivial (tR 10 [] λf _ _=>?_);by_cases c:n<0
 .refine tI ((decide (n<0))) true (M' c) (tR 2 [] λg _ _=>tV 1 (iv (n+1)) (λF C=>(AU 7 n underlying3 (by omega))) (tV 2 (iv (-(n+1))) (λF C=>(lG (n+1) (by omega))) (tR 6 [] λi _ _=>tV 2 (iv (-(n+1)%a)) (λF C=>(aR (x:=(.tmp 10)) (y:=(.tmp 11)) (-(n+1)) a underlying3 (by omega) (by omega) d b)) (tR 2 [] λj _ _=>tE (iv (-(n+1)%a)) λ_ B=>⟨by rw[show pick n a=_ from if_pos c],B⟩))))
 .refine tI ((decide (n<0))) false (D' c) (tR 5 [] λk _ _=>tV 2 (iv (n%a)) (λF C=>(aR (x:=(.tmp 10)) (y:=(.tmp 11)) n a underlying3 (by omega) (by omega) d b)) (tR 2 [] λl _ _=>tE (iv (n%a)) λ_ B=>⟨by rw[show pick n a=_ from if_neg c],B⟩))
theorem Cn{n:Int}(h:I64 n)(a:Int)(c:0<a:=by decide)(b:a<=9223372036854775807:=by decide) :
  Calls prog 6 #[iv n,iv a] w λe w'=>e=.returned (iv (pick n a))/\Bw w w':=by
 refine tIn [] func6 trivial (tR 8 [] λd _ _=>tC1 2 (λF C=>AR h a c b) λ_=>tR 2 [] λf _ _=>tE (iv (pick n a)) λ_ B=>⟨rfl,B⟩)
theorem RX{k c n v:Int}(t:I64 k)(r:I64 c)(q:I64 s)(f:I64 n)(M:I64 v) :
  Calls prog 19 #[.agg #[iv k,iv c,iv s,iv n,iv v]] w λe w'=>e=.returned (.agg #[iv (wK k),iv (pick c 4),iv (pick s 6),iv (pick n 4),iv (wV k v)])/\Bw w w':=by
 have O:=Bg k 5 (by omega);refine tIn [] func19 trivial (tR 15 [0,0,1,0,17,0,2,0,10,12,0,16,18,0,22,24,0] λa _ _=>KV 27 (λL K g=>∃ (b:Nat),L=[(1,pt (a 0) 0),(2,pt (a 1) 0),(3,pt b 0)]/\K=[⟨(a 0),.cells #[iv k,iv c,iv s,iv n,iv v] 57,.z,false⟩,⟨(a 1),.cells #[iv 0,iv 0,iv 0,iv 0,iv 0] 49,.l,false⟩,⟨b,.cells #[iv (wK k),iv (pick c 4),iv (pick s 6),iv (pick n 4),iv 0] 49,.l,false⟩]/\g=[]) (λJ d=>?_) ?_)
 .refine PR 2 15 ?_ ?_
  .refine tC 2 (λF C=>AR t 5) λN=>?_;rintro _ _ ⟨rfl,b⟩;refine⟨_,_,rfl,b,id,?_⟩;refine tT 3 (iv (pick k 5/2)) (λ_=>(gV (x:=(.tmp 6)) (y:=(.const (iv 2))) (pick k 5) underlying3 (by omega) (by omega))) (tT 4 (iv (wK k)) (λ_=>(Mz (x:=(.const (iv 1))) (y:=(.tmp 7)) 1 (pick k 5/2) underlying3 (by omega))) (PR 7 15 ?_ ?_))
   .refine tC1 7 (λF C=>AR r 4) λ_=>PR 10 15 ?_ ?_
    .refine tC1 10 (λF C=>AR q 6) λ_=>PR 13 15 ?_ ?_
     .refine tC1 13 (λF C=>AR f 4) λ_=>tR 4 [28,31,1,0,33,2,0] λh _ _=>tD d [true,true,true] ⟨(h 0),rfl,rfl,rfl⟩ (λF=>trivial)
     .refine tR 1 [1,0] λi _ _=>tC1 13 (λF C=>AR f 4) λ_=>tR 3 [28,33,2,0] λu _ _=>tD d [true,true,true] ⟨(i 0),rfl,rfl,rfl⟩ (λF=>trivial)
    .refine tR 1 [1,0] λj _ _=>tC1 10 (λF C=>AR q 6) λ_=>tC1 13 (λF C=>AR f 4) λ_=>tR 3 [28,33,2,0] λA _ _=>tD d [true,true,true] ⟨(j 0),rfl,rfl,rfl⟩ (λF=>trivial)
   .refine tR 1 [1,0] λm _ _=>tC1 7 (λF C=>AR r 4) λ_=>tC1 10 (λF C=>AR q 6) λ_=>tC1 13 (λF C=>AR f 4) λ_=>tR 3 [28,33,2,0] λB _ _=>tD d [true,true,true] ⟨(m 0),rfl,rfl,rfl⟩ (λF=>trivial)
  .refine tR 1 [1,0] λo _ _=>tC1 2 (λF C=>AR t 5) λ_=>tT 3 (iv (pick k 5/2)) (λ_=>(gV (x:=(.tmp 6)) (y:=(.const (iv 2))) (pick k 5) underlying3 (by omega) (by omega))) (tT 4 (iv (wK k)) (λ_=>(Mz (x:=(.const (iv 1))) (y:=(.tmp 7)) 1 (pick k 5/2) underlying3 (by omega))) (tC1 7 (λF C=>AR r 4) λ_=>tC1 10 (λF C=>AR q 6) λ_=>tC1 13 (λF C=>AR f 4) λ_=>tR 3 [28,33,2,0] λD _ _=>tD d [true,true,true] ⟨(o 0),rfl,rfl,rfl⟩ (λF=>trivial)))
 rintro _ _ _ ⟨b,rfl,rfl,rfl⟩ _ _ _;refine tR 7 [2] λE _ _=>?_;by_cases p:wK k=1
 .refine tI (((wK k)==1)) true (by simpa using p) (tR 3 [0] λG _ _=>tC1 2 (λF C=>AR M 1000) λ_=>tR 8 [2,0,2,1,0] λH _ _=>tX λF C=>qE1 2 49 1 (a 1) #[iv (wK k),iv (pick c 4),iv (pick s 6),iv (pick n 4),iv (pick v 1000)] λ_=>⟨by rw[show wV k v=_ from if_pos p],CgQ.af C⟩)
 .refine tI (((wK k)==1)) false (by simpa using p) (tR 6 [2,1,0] λI _ _=>tX λF C=>qE1 2 49 1 (a 1) #[iv (wK k),iv (pick c 4),iv (pick s 6),iv (pick n 4),iv 0] λ_=>⟨by rw[show wV k v=_ from if_neg p],CgQ.af C⟩)
theorem iW(c:Int)(w:World)(f:0<=c)(n:c<=7)(h:AJ w) :
  Calls prog 39 #[.int .i64 c] w λe w'=>∃ v',e=.returned (.tuple #[v',.int .i64 0])/\w'.ownsRow w.heap.size 5 1 v' (Hq c).length ((Hq c).map (Value.int .u8))/\Bw w w':=by
 have l:decide (c<0)=false:=by simp;omega
 have m:decide ((7:Int)<c)=false:=by simp;omega
 have o:IntKind.u8.wrap c=c:=by rw[show IntKind.u8.wrap c=c%256 from rfl];omega
 have p:=Go.Joins.run_convert_bytes_const_at (P:=prog) (w.alloc (.cells #[.int .u8 c] 5)) 34 5 #[.int .u8 99,.int .u8 108,.int .u8 105,.int .u8 101,.int .u8 110,.int .u8 116] 6 6 (w.heap.size+1) (by simp) underlying34 underlying5;go_enter func39,ntmps39
 go_wp2_with fail
 have s0:Sl (w.alloc (.cells #[.int .u8 c] 5)) (.slice (some ⟨w.heap.size,0,none⟩) 1 1) [c]:=Sl.one w c 5 rfl ⟨f,by omega⟩;have b0:Bw w (w.alloc (.cells #[.int .u8 c] 5)):=(Below.refl _ _).alloc (A' _) _;have j:=Sl.uh (w.alloc (.cells #[.int .u8 c] 5)) [99,108,105,101,110,116] 5 (6,7) (g:=w.heap.size+1) (by simp) rfl (by simp);have a:Bw w ((w.alloc (.cells #[.int .u8 c] 5)).alloc (.cells #[.int .u8 99,.int .u8 108,.int .u8 105,.int .u8 101,.int .u8 110,.int .u8 116] 5 (6,7))):=b0.alloc (by simp) _;have b:=s0.af ((Below.refl (w.alloc (.cells #[.int .u8 c] 5)).heap.size _).alloc (A' _) (.cells #[.int .u8 99,.int .u8 108,.int .u8 105,.int .u8 101,.int .u8 110,.int .u8 116] 5 (6,7)));refine(Uy _ _ _ [c] [99,108,105,101,110,116] [] 32 _ b j (Sl.nil _ _) (by simp) (by simp) (by simp) (by omega) (h.af a)).mono ?_;rintro e q ⟨k,rfl,i,d⟩;go_wp2
 go_ret2
 exact⟨k,rfl,Bf i a.size,a.trans (d.mono a.size)⟩
theorem iV(c:Int)(w:World)(h:c<0\/7<c) :
  Calls prog 39 #[.int .i64 c] w λe w'=>e=.returned (.tuple #[.slice none 0 0,.int .i64 2])/\w'=w:=by
 by_cases b:c<0
 .have d0:decide (c<0)=true:=by simp;omega
  go_enter func39,ntmps39
  go_wp2
  go_ret2
  exact⟨rfl,rfl⟩
 .have d0:decide (c<0)=false:=by simp;omega
  have a:decide ((7:Int)<c)=true:=by simp;omega
  go_enter func39,ntmps39
  go_wp2
  go_ret2
  exact⟨rfl,rfl⟩
theorem Th(w:World)(d:AJ w) :
  Calls prog 37 #[] w λe w'=>∃ v',e=.returned v'/\w'.ownsRow w.heap.size 5 1 v' Hp.length (Hp.map (Value.int .u8))/\Bw w w':=by
 have j:=Go.Joins.run_convert_bytes_const_at (P:=prog) (w.alloc (.cells #[.int .u8 255] 5)) 34 5 #[.int .u8 105,.int .u8 115,.int .u8 115,.int .u8 117,.int .u8 101,.int .u8 114] 6 6 (w.heap.size+1) (by simp) underlying34 underlying5;go_enter func37,ntmps37
 go_wp2_with fail
 have s0:Sl (w.alloc (.cells #[.int .u8 255] 5)) (.slice (some ⟨w.heap.size,0,none⟩) 1 1) [255]:=Sl.one w 255 5 rfl ⟨by omega,by omega⟩;have b0:Bw w (w.alloc (.cells #[.int .u8 255] 5)):=(Below.refl _ _).alloc (A' _) _;have h:=Sl.uh (w.alloc (.cells #[.int .u8 255] 5)) [105,115,115,117,101,114] 5 (6,7) (g:=w.heap.size+1) (by simp) rfl (by simp);have a:Bw w ((w.alloc (.cells #[.int .u8 255] 5)).alloc (.cells #[.int .u8 105,.int .u8 115,.int .u8 115,.int .u8 117,.int .u8 101,.int .u8 114] 5 (6,7))):=b0.alloc (by simp) _;have b:=s0.af ((Below.refl (w.alloc (.cells #[.int .u8 255] 5)).heap.size _).alloc (A' _) (.cells #[.int .u8 105,.int .u8 115,.int .u8 115,.int .u8 117,.int .u8 101,.int .u8 114] 5 (6,7)));refine(Uy _ _ _ [255] [105,115,115,117,101,114] [] 32 _ b h (Sl.nil _ _) (by simp) (by simp) (by simp) (by omega) (d.af a)).mono ?_;rintro e k ⟨i,rfl,f,c⟩;go_wp2
 go_ret;exact⟨i,rfl,Bf f a.size,a.trans (c.mono a.size)⟩
theorem Sl.sS(w:World)(b a:Int)(e:TypeId){g:Nat}(f:g=w.heap.size)(c:0<=b/\b<256)(d:a=b):Sl (w.alloc (.cells #[.int .u8 a] e)) (.slice (some ⟨g,0,none⟩) 1 1) [b]:=by
 subst d;exact Sl.one w a e f c
theorem QC(a:Option Addr)(n c:Nat):∀ w,(binOp .eql 34 (.slice a n c) (.slice none 0 0)).run prog w=.ok (.bool a.isNone) w :=
 λw=>run_eql_slice_nil (P:=prog) w 34 5 a n c underlying34
theorem It{a e:Nat}(h:w.ownsRow a e 1 v n xs)(b:∀ k,v.ownBlock=some k->w'.heap[k]?=w.heap[k]?):w'.ownsRow a e 1 v n xs:=by
 refine⟨h.1,?_⟩;rcases h.2 with h2|⟨g,cap,cur,hv,hb,hg,hr⟩
 .exact .inl h2
 .exact .inr ⟨g,cap,cur,hv,hb,(b g (by rw[hv];rfl)).trans hg,hr⟩
theorem J7(v:Value)(l:List Int)(w:World)(h:Sl w v l) :
  Calls prog 80 #[v] w λe w'=>∃ v',e=.returned v'/\w'.ownsRow w.heap.size 5 1 v' l.length (l.map (Value.int .u8))/\Bw w w':=by
 have o:=h;have t:=h.len;obtain⟨⟨a,c,rfl,s,j,p⟩,q,r⟩:=h;cases a with
 | none =>
  obtain rfl:=j rfl;obtain rfl:l=[]:=Z' (by omega);have n:=QC none 0 0;go_enter func80,ntmps80
  go_wp2
  go_ret;exact⟨_,rfl,World.ownsRow_nil _ _ _ _,Below.refl _ _⟩
 | some ad =>
  have b:(w.alloc (.cells #[] 5)).ownsRow w.heap.size 5 1 (.slice (some ⟨w.heap.size,0,none⟩) 0 0) ([]:List Int).length (([]:List Int).map (Value.int .u8)):=by
   refine⟨rfl,.inr ⟨w.heap.size,0,#[],rfl,A' _,heap_alloc_new _ _,A' _,nB _,rfl,rfl⟩⟩
  have n:=QC (some ad) l.length c;have f:=o.af ((Below.refl w.heap.size w).alloc (A' _) (.cells #[] 5));go_enter func80,ntmps80
  go_wp2_with (at_builtin;refine Aa _ rfl _ _ 34 rfl w.heap.size 5 underlying34 Aw _ _ rfl rfl [] l b f (by simp;omega) (by simp) ?_)
  intro v' w' m g;have d:Bw w w':=((Below.refl w.heap.size w).alloc (A' _) (.cells #[] 5)).grown g (by simp) (λk i=>(b.lt k i).1);go_wp2
  go_ret;exact⟨v',rfl,by simpa using m,d⟩
theorem SZ(n:Int)(w:World)(s:0<=n)(t:n<1073741824) :
  Calls prog 119 #[.int .i64 n] w λe w'=>∃ v',e=.returned v'/\w'.ownsRow w.heap.size 5 1 v' (Ad n).length ((Ad n).map (Value.int .u8))/\Bw w w':=by
 go_enter func119,ntmps119
 go_wp2_with fail
 go_loopw [3,4] (λv iv wr=>∃ j:Nat,j<=4/\iv=.int .i64 (3-(j:Int))/\wr.ownsRow w.heap.size 5 1 v ((Ad n).take j).length (((Ad n).take j).map (Value.int .u8))/\Bw w wr) (λ_ iv _=>(intOf iv+1).toNat)
 case atStart=>exact⟨0,by omega,rfl,World.ownsRow_nil _ _ _ _,Below.refl _ _⟩
 case round =>
  obtain⟨j,q,rfl,a,b⟩:=hrel;have f:=a.lt;have r:=b.size;by_cases p:j<4
  .have:j=0\/j=1\/j=2\/j=3:=by omega
   rcases this with rfl|rfl|rfl|rfl
   .rw[show(3:Int)-((0:Nat):Int)=3 from rfl];go_wp2_with (at_builtin;refine Aa _ rfl _ _ 34 rfl w.heap.size 5 underlying34 Aw _ _ rfl rfl ((Ad n).take 0) [n/16777216%256] (a.alloc _) (Sl.sS _ (n/16777216%256) _ _ rfl (by omega) (by omega)) (by simp[Ad]) (by simp;omega) ?_)
    intro m i d c;have h:Bw w i:=(b.alloc (by omega) _).grown c (by simp;omega) (λk l=>(f k l).1);have g:Hid (i.ownsRow w.heap.size 5 1 m ((Ad n).take 1).length (((Ad n).take 1).map (Value.int .u8))):=d;clear d c a f b;go_wp2
    go_roundw
    case rel=>exact⟨1,by omega,rfl,g.out,h⟩
    case measure=>simp[intOf]
   .rw[show(3:Int)-((1:Nat):Int)=2 from rfl];go_wp2_with (at_builtin;refine Aa _ rfl _ _ 34 rfl w.heap.size 5 underlying34 Aw _ _ rfl rfl ((Ad n).take 1) [n/65536%256] (a.alloc _) (Sl.sS _ (n/65536%256) _ _ rfl (by omega) (by omega)) (by simp[Ad]) (by simp;omega) ?_)
    intro m i d c;have h:Bw w i:=(b.alloc (by omega) _).grown c (by simp;omega) (λk l=>(f k l).1);have g:Hid (i.ownsRow w.heap.size 5 1 m ((Ad n).take 2).length (((Ad n).take 2).map (Value.int .u8))):=d;clear d c a f b;go_wp2
    go_roundw
    case rel=>exact⟨2,by omega,rfl,g.out,h⟩
    case measure=>simp[intOf]
   .rw[show(3:Int)-((2:Nat):Int)=1 from rfl];go_wp2_with (at_builtin;refine Aa _ rfl _ _ 34 rfl w.heap.size 5 underlying34 Aw _ _ rfl rfl ((Ad n).take 2) [n/256%256] (a.alloc _) (Sl.sS _ (n/256%256) _ _ rfl (by omega) (by omega)) (by simp[Ad]) (by simp;omega) ?_)
    intro m i d c;have h:Bw w i:=(b.alloc (by omega) _).grown c (by simp;omega) (λk l=>(f k l).1);have g:Hid (i.ownsRow w.heap.size 5 1 m ((Ad n).take 3).length (((Ad n).take 3).map (Value.int .u8))):=d;clear d c a f b;go_wp2
    go_roundw
    case rel=>exact⟨3,by omega,rfl,g.out,h⟩
    case measure=>simp[intOf]
   .rw[show(3:Int)-((3:Nat):Int)=0 from rfl];go_wp2_with (at_builtin;refine Aa _ rfl _ _ 34 rfl w.heap.size 5 underlying34 Aw _ _ rfl rfl ((Ad n).take 3) [n%256] (a.alloc _) (Sl.sS _ (n%256) _ _ rfl (by omega) (by omega)) (by simp[Ad]) (by simp;omega) ?_)
    intro m i d c;have h:Bw w i:=(b.alloc (by omega) _).grown c (by simp;omega) (λk l=>(f k l).1);have g:Hid (i.ownsRow w.heap.size 5 1 m ((Ad n).take 4).length (((Ad n).take 4).map (Value.int .u8))):=d;clear d c a f b;go_wp2
    go_roundw
    case rel=>exact⟨4,by omega,rfl,g.out,h⟩
    case measure=>simp[intOf]
  .obtain rfl:j=4:=by omega
   rw[show(3:Int)-((4:Nat):Int)=-1 from rfl];have o:Hid _:=a;clear a f;go_wp2
   go_ret;exact⟨_,rfl,o.out,b⟩
theorem eU(x b:Int)(f:0<=x/\x<36028797018963968)(d:0<=b/\b<256):bits .or .i64 (x*256) b=x*256+b:=by
 obtain⟨x,rfl⟩:=nL f.1;obtain⟨y,rfl⟩:=nL d.1;have e:(x:Int)*256=((x*256:Nat):Int):=by omega
 have key:(BitVec.ofInt 64 ((x*256:Nat):Int) ||| BitVec.ofInt 64 (y:Int)).toNat=x*256+y:=by
  rw[rD,qk,qk];have a:((y:Int)%((2^64:Nat):Int)).toNat=y:=by omega
  have c:(((x*256:Nat):Int)%((2^64:Nat):Int)).toNat=2^8*x:=by omega
  rw[a,c,<- pQ (by omega:y<2^8)];omega
 rw[e];show IntKind.i64.wrap ((BitVec.ofInt 64 ((x*256:Nat):Int) ||| BitVec.ofInt 64 (y:Int)).toNat:Nat)=_;rw[key,IntKind.wrap_i64];omega
def KP(h:List Int):Nat->Int
 | 0=>0
 | k+1=>KP h k*256+h.getD k 0
theorem Tz{h:List Int}(a:∀ x∈h,0<=x/\x<256)(k:Nat):0<=KP h k/\KP h k<256^k:=by
 induction k with
 | zero=>simp[KP]
 | succ k ih =>
  have:=Aj a k;rw[KP,qH];omega
theorem Sl.ui{l:List Int}(h:Sl w (.slice a n cap) l)(k:Nat)(d:k<l.length):∃ bd od,a=some ⟨bd,od,none⟩/\bd<w.heap.size/\w.cell? ⟨bd,od+k,none⟩=some (.int .u8 (l.getD k 0)):=by
 obtain⟨⟨j,c,e,m,o,f⟩,i,g⟩:=h;simp only[Value.slice.injEq]at e;obtain⟨rfl,rfl,rfl⟩:=e;rcases f with rfl|⟨b,off,rfl,hb,hcell⟩
 .simp at d
 .exact⟨b,off,rfl,hb,hcell k d⟩
theorem P4(v:Value)(l:List Int)(w:World)(h:Sl w v l)(s:l.length=4) :
  Calls prog 196 #[v] w λe w'=>e=.returned (.int .i64 (FM l))/\w'=w:=by
 have o:Hid (KP l 4=FM l):=by
  unfold Hid;show((((0:Int)*256+l.getD 0 0)*256+l.getD 1 0)*256+l.getD 2 0)*256+l.getD 3 0=_;unfold FM;omega
 have m:Hid (∀ x∈l,0<=x/\x<256):=h.byte;have f:=h;obtain⟨a,c,rfl⟩:=h.shape;rw[s]at f ⊢
 go_enter func196,ntmps196
 go_wp2_with fail
 go_loopw [3,8] (λv iv wr=>∃ j:Nat,j<=4/\iv=.int .i64 (j:Int)/\v=.int .i64 (KP l j)/\wr=w) (λ_ iv _=>(4-intOf iv).toNat)
 case atStart=>exact⟨0,by omega,rfl,rfl,rfl⟩
 case round =>
  obtain⟨j,u,rfl,rfl,rfl⟩:=hrel;by_cases r:j<4
  .have hii:(j:Int)<4:=by omega
   have g:=Tz m.out j;have k:KP l j<16777216:=by
    have:(256:Int)^j<=256^3:=by
     rcases(by omega:j=0\/j=1\/j=2\/j=3)with rfl|rfl|rfl|rfl<;>decide
    omega
   have n:=Aj m.out j;obtain⟨t,od,rfl,p,q⟩:=f.ui j (by omega);have b:=eU (KP l j) (l.getD j 0) ⟨g.1,by omega⟩ n;have d:Hid (KP l j*256+l.getD j 0=KP l (j+1)):=rfl;have i:=g.1;clear g h f;generalize KP l j=X at i k b d;generalize l.getD j 0=B at n q b d;go_wp2
   go_roundw
   case rel=>exact⟨j+1,by omega,by go_num,by rw[<- d.out],trivial⟩
   case measure=>simp[intOf];omega
  .obtain rfl:j=4:=by omega
   rw[show((4:Nat):Int)=4 from rfl,o.out];go_wp2
   go_ret;exact⟨rfl,rfl⟩
def Nt:Array Value:=(List.replicate 12 (Value.int .u8 0)).toArray
theorem kS(w:World):(Instr.makeSlice 34 (.int .i64 8) (.int .i64 12)).run prog w=.ok (.slice (some ⟨w.heap.size,0,none⟩) 8 12) (w.alloc (.cells Nt 5)):=by
 obtain⟨i,c,d,a,b⟩:=info_parts Aw;rw[run_makeSlice (P:=prog) w 34 5 i (.int .u8 0) underlying34 c d .i64 .i64 8 12 (by omega) (by omega) (by rw[a];decide) (by rw[b];decide) (by omega),a];have e:madeCells (Value.int .u8 0).cells ((12:Int).toNat*1)=Nt:=by kernel_rfl
 rw[e];rfl
theorem Kp(v:Value)(l:List Int)(w:World)(h:Sl w v l)(p:l.length=4) :
  Calls prog 121 #[v] w λe w'=>∃ v',e=.returned v'/\Sl w' v' (BI l)/\Bw w w':=by
 have m:Hid (∀ x∈BI l,0<=x/\x<256):=Rf h.byte;have g:Hid ((BI l).length=12):=H7 p;have c:=kS w;have a:(w.alloc (.cells Nt 5)).ownsRow w.heap.size 5 1 (.slice (some ⟨w.heap.size,0,none⟩) 8 12) (List.replicate 8 (0:Int)).length ((List.replicate 8 (0:Int)).map (Value.int .u8)) :=
  ⟨rfl,.inr ⟨w.heap.size,12,Nt,rfl,A' _,heap_alloc_new _ _,by decide,by simp[maxLen],rfl,rfl⟩⟩
 have b0:Bw w (w.alloc (.cells Nt 5)):=(Below.refl w.heap.size w).alloc (A' _) _;have b:=h.af b0;have f:w.heap.size<=(w.alloc (.cells Nt 5)).heap.size:=b0.size;generalize w.alloc (.cells Nt 5)=W at c a b0 b f;go_enter func121,ntmps121
 go_wp2_with (at_builtin;refine Aa _ rfl _ _ 34 rfl w.heap.size 5 underlying34 Aw _ _ rfl rfl (List.replicate 8 0) l a b (by simp;omega) f ?_)
 intro v' w' j i;have d:Bw w w':=b0.grown i f (λk o=>(a.lt k o).1);have n:Hid (w'.ownsRow w.heap.size 5 1 v' (BI l).length ((BI l).map (Value.int .u8))):=by
  unfold Hid;rw[g.out];exact j
 clear j i a b c;go_wp2
 go_ret;exact⟨v',rfl,Sl.nr n.out (by rw[g.out];omega) m.out,d⟩
theorem Sl.first{l:List Int}(h:Sl w (.slice a n cap) l)(m:Nat)(o:m<=l.length)(r:0<m):Sl w (.slice (a.map (·.add 0)) m m) (l.take m):=by
 obtain⟨⟨q,d,e,s,t,f⟩,k,c⟩:=h;simp only[Value.slice.injEq]at e;obtain⟨rfl,rfl,rfl⟩:=e;have j:(l.take m).length=m:=by rw[X'];omega
 rcases f with rfl|⟨b,off,rfl,hb,hcell⟩
 .simp at o;omega
 .have hadd:(⟨b,off,none⟩:Addr).add 0=⟨b,off,none⟩:=by unfold Addr.add;simp
  refine⟨⟨some ⟨b,off,none⟩,m,by rw[j,nZ,hadd],by omega,by simp,.inr ⟨b,off,rfl,hb,λi g=>?_⟩⟩,by omega,λx p=>c x (nu p)⟩;rw[hcell i (by omega),AY (by omega),AY g];simp
theorem Y2(a:Option Addr)(n b:Nat)(c:4<=b):∀ W,(Instr.slice 34 (.slice a n b) none (some (.int .i64 4)) (some (.int .i64 4))).run prog W=.ok (.slice (a.map (·.add 0)) 4 4) W:=by
 intro W;rw[run_slice_hm (P:=prog) W 34 a n b underlying34 .i64 .i64 4 4 (by omega) (by omega) (by omega)];have e:prog.elem 34=5:=by kernel_rfl
 rw[e,I0];simp[Result.andThen,sliced]
theorem dx(v:Value)(l:List Int)(w:World)(h:Sl w v l)(g:4<=l.length) :
  Calls prog 195 #[v] w λe w'=>∃ va vb,e=.returned (.tuple #[va,vb])/\Sl w' va (l.take 4)/\Sl w' vb (l.drop 4)/\Bw w w':=by
 obtain⟨a,c,rfl⟩:=h.shape;have n:l.length<=c:=by
  obtain⟨⟨q,f,e,n,_⟩,_⟩:=h;simp only[Value.slice.injEq]at e;omega
 obtain⟨k,m,b,j⟩:=h.from 4 g;have p:∀ W,(Instr.slice 34 (.slice a l.length c) (some (.int .i64 4)) none none).run prog W=.ok (.slice k (l.length-4) m) W:=b;have o:=Y2 a l.length c (by omega);have i:=h.first 4 g (by omega);clear b;generalize l.length-4=n2 at p j;generalize a.map (·.add 0)=a1 at o i;go_enter func195,ntmps195
 go_wp2_with fail
 go_quiet (fail)
 have d:Bw w (w.drewN nq):=Aq (Below.refl _ _) nq;generalize w.drewN nq=w1 at d ⊢;go_wp2
 go_ret2
 exact⟨_,_,rfl,i.af d,j.af d,d⟩
theorem Kg(n:Int)(w:World) :
  Calls prog 148 #[.int .i64 n] w λe w'=>e=.returned (.bool (decide (0<=n/\n<=1073741824)))/\w'=w:=by
 by_cases a:0<=n
 .by_cases h1:n<=1073741824
  .rw[M' ⟨a,h1⟩];go_enter func148,ntmps148
   go_wp2
   go_ret;exact⟨Am (by simp),rfl⟩
  .rw[D' (by omega)];go_enter func148,ntmps148
   go_wp2
   go_ret;exact⟨Am (by simp),rfl⟩
 .rw[D' (by omega)];go_enter func148,ntmps148
  go_wp2
  go_ret;exact⟨Am (by simp),rfl⟩
theorem jk{key:List Int}(d:key.length=32)(a:0<=s/\s<=1073741824)(b:0<=t/\t<=1073741824)(c:Tr t l=true):OkC key s t l :=
 ⟨d,a.1,a.2,b.1,b.2,((G3 t l).1 c).1,((G3 t l).1 c).2⟩
theorem J5{key:List Int}(h:OkC key s t l):EW key s t l=0:=if_pos h
theorem Ee{key:List Int}(h:¬ OkC key s t l):EW key s t l=5:=if_neg h
theorem GY(A:Value)(key:List Int)(s t:Int)(l:List Bool)(w:World)(x:Sl w A key)(H:l.length=8) :
  Calls prog 118 #[.agg (chA A s t l)] w λe w'=>e=.returned (.int .i64 (EW key s t l))/\Bw w w':=by
 obtain⟨r,u,rfl⟩:=x.shape;have G:=x.len;have k:Bw w (w.alloc (.cells (chA (.slice r key.length u) s t l) 111)):=(Below.refl _ _).alloc (A' _) _;obtain⟨b0,a,b,c,d,f,g,i,rfl⟩:=H6 l H;by_cases p:key.length=32
 .have HK:Hid (key.length=32):=p;obtain⟨E,v⟩:∃ E,EW key s t [b0,a,b,c,d,f,g,i]=E:=⟨_,rfl⟩;have m:Hid (EW key s t [b0,a,b,c,d,f,g,i]=E):=v;rw[v];clear v;have o:=k;simp only[chA,List.map]at k ⊢;rw[p]at k o x ⊢
  have K:=heap_alloc_new w (.cells (chA (.slice r 32 u) s t [b0,a,b,c,d,f,g,i]) 111);clear p;go_enter func118,ntmps118
  go_wp2_with fail
  refine(Kg s _).mono ?_;rintro e I ⟨rfl,rfl⟩;by_cases q:0<=s/\s<=1073741824
  .rw[M' q];go_wp2_with fail
   refine(Kg t _).mono ?_;rintro e I ⟨rfl,rfl⟩;by_cases n:0<=t/\t<=1073741824
   .rw[M' n];go_wp2_with fail
    refine(Ga (.slice r 32 u) s t [b0,a,b,c,d,f,g,i] _ rfl).mono ?_;rintro e B ⟨rfl,C⟩;have y:Bw w B:=o.trans (C.mono (by simp));go_wp2_with fail
    refine(W9 t [b0,a,b,c,d,f,g,i] B rfl n.1 n.2).mono ?_;rintro e J ⟨rfl,D⟩;have z:Bw w J:=y.trans (D.mono y.size);cases h4:Tr t [b0,a,b,c,d,f,g,i]with
    | true =>
     have j:Hid (0=E):=m.out▸(J5 (jk HK.out q n h4)).symm;go_wp2
     go_ret;exact⟨BM j.out,z⟩
    | false =>
     have j:Hid (5=E):=m.out▸(Ee (λh=>by
      have:=(G3 t [b0,a,b,c,d,f,g,i]).2 ⟨h.low,h.top⟩;rw[h4]at this
      cases this)).symm
     go_wp2
     go_ret;exact⟨BM j.out,z⟩
   .rw[D' n];have j:Hid (5=E):=m.out▸(Ee (λh=>n ⟨h.t0,h.t1⟩)).symm;go_wp2
    go_ret;exact⟨BM j.out,k⟩
  .rw[D' q];have j:Hid (5=E):=m.out▸(Ee (λh=>q ⟨h.s0,h.s1⟩)).symm;go_wp2
   go_ret;exact⟨BM j.out,k⟩
 .have m:Hid (EW key s t [b0,a,b,c,d,f,g,i]=5):=Ee λh=>p h.key;have F:¬ (key.length:Int)=32:=by omega
  simp only[chA,List.map]at k ⊢;go_enter func118,ntmps118
  go_wp2
  go_ret;exact⟨BM m.out.symm,k⟩
theorem EV(a:l.length=8):(prog.info? 111).map (·.size)=some (chA k s t l).size:=by rw[Gp,a];kernel_rfl
theorem Lh{key:List Int}(b:Sl w k key)(s t:Int)(l:List Bool):(chA k s t l).all (·.oneCell')=true:=by
 obtain⟨a,c,rfl⟩:=b.shape;simp[chA,Value.oneCell']
theorem eM(r:Value)(key:List Int)(w:World)(c:Sl w r key) :
  Calls prog 158 #[r] w λe w'=>∃ v',e=.returned (.tuple #[.agg (chA v' 0 0 noB),.int .i64 (if key.length=32 then 0 else 1)])/\w'.ownsRow 0 5 1 v' (if key.length=32 then key else[]).length ((if key.length=32 then key else[]).map (Value.int .u8))/\Bw w w':=by
 obtain⟨C,D,rfl⟩:=c.shape;have y:=c.len;by_cases a:key.length=32
 .rw[if_pos a,if_pos a];rw[a]at c ⊢
  have j:Bw w (w.alloc (.cells (chA (.slice none 0 0) 0 0 noB) 111)):=(Below.refl _ _).alloc (A' _) _;have o:=heap_alloc_new w (.cells (chA (.slice none 0 0) 0 0 noB) 111);have g:(w.alloc (.cells (chA (.slice none 0 0) 0 0 noB) 111)).heap.size=w.heap.size+1:=by simp
  go_enter func158,ntmps158
  go_wp2_with fail
  refine(J7 _ key _ (c.af j)).mono ?_;rintro e i ⟨q,rfl,h,c1⟩;rw[g]at h
  have p:=Sl.nr h c.len c.byte;have n:=(c1.block w.heap.size (by rw[g];omega)).trans o;have u:Bw w i:=j.trans (c1.mono (by rw[g];omega));have m:=EV (k:=q) (s:=0) (t:=0) Iq;have z:=Lh p 0 0 noB;clear c1 o j g;have d:(chA (.slice none 0 0) 0 0 noB).size=(chA q 0 0 noB).size:=by rw[Gp,Gp]
  obtain⟨b,c1,f⟩:=p.shape;rw[a]at f
  subst f;go_wp2_with (refine wpList_store_row rfl 111 (.tmp 2) (.tmp 10) rfl w.heap.size (chA (.slice b 32 c1) 0 0 noB) rfl rfl 111 _ n m d z ?_)
  have A:=setRow_heap i w.heap.size _ (chA (.slice b 32 c1) 0 0 noB) 111 _ n;have v:Bw w (i.setRow w.heap.size (chA (.slice b 32 c1) 0 0 noB)):=below_setRow u (A' _) _;have B:(i.setRow w.heap.size (chA (.slice b 32 c1) 0 0 noB)).ownsRow 0 5 1 (.slice b 32 c1) key.length (key.map (Value.int .u8)) :=
   Bf (It h λk l=>setRow_other _ _ _ _ (by have:=(h.lt k l).1;omega)) (nB _)
  exact bodyPost_ret (Jf rfl _ _ w.heap.size 111 _ (0,0) _ rfl A underlying111 rfl m) rfl ⟨.slice b 32 c1,rfl,a▸B,v⟩
 .rw[if_neg a,if_neg a];have x:¬ (key.length:Int)=32:=by omega
  go_enter func158,ntmps158
  go_wp2
  exact bodyPost_ret (Jf rfl _ _ w.heap.size 111 (chA (.slice none 0 0) 0 0 noB) (0,0) _ rfl (heap_alloc_new _ _) underlying111 rfl (EV Iq)) rfl ⟨.slice none 0 0,rfl,World.ownsRow_nil _ _ _ _,(Below.refl _ _).alloc (A' _) _⟩
structure Bx(w W:World)(k:Value)(s t:Int)(l:List Bool):Prop where
 row:W.heap[w.heap.size]?=some (.cells (chA k s t l) 111 (0,0))
 se:Bw w W
theorem Bx.new(w:World)(k:Value)(s t:Int)(l:List Bool):Bx w (w.alloc (.cells (chA k s t l) 111)) k s t l:=⟨heap_alloc_new _ _,(Below.refl _ _).alloc (A' _) _⟩
theorem Bx.lt(h:Bx w W k s t l):w.heap.size<W.heap.size:=(Q'.1 h.row).1
theorem Bx.step(h:Bx w W k s t l)(a:Bw W W'):Bx w W' k s t l :=
 ⟨(a.block _ h.lt).trans h.row,h.se.trans (a.mono h.se.size)⟩
theorem Bx.c0(h:Bx w W k s t l):W.cell? ⟨w.heap.size,0,none⟩=some k:=(cell_of_row _ _ 0 _ _ _ h.row).trans (UC k s t l)
theorem Bx.c1(h:Bx w W k s t l):W.cell? ⟨w.heap.size,1,none⟩=some (.int .i64 s):=(cell_of_row _ _ 1 _ _ _ h.row).trans (Qp k s t l)
def GJ(key:List Int)(s t:Int)(l:List Bool)(p:List Int):List Int:=if Ez key s t l p=0 then KR key s p else[]
theorem bB(m:Value)(key:List Int)(s t:Int)(l:List Bool)(vp:Value)(p:List Int)(w:World)(n:Sl w m key)(P:l.length=8)(G:Sl w vp p)(R:CW w) :
  Calls prog 79 #[.agg (chA m s t l),vp] w λe w'=>∃ v',e=.returned (.tuple #[v',.int .i64 (Ez key s t l p)])/\w'.ownsRow 0 5 1 v' (GJ key s t l p).length ((GJ key s t l p).map (Value.int .u8))/\Bw w w':=by
 have y:=R.pos;have bx:=Bx.new w m s t l;obtain⟨ap,cp,rfl⟩:=G.shape;have a2:=G.len;have Z:=EV (k:=m) (s:=s) (t:=t) P;by_cases a:OkC key s t l
 .have HC:Hid (EW key s t l=0):=J5 a;go_enter func79,ntmps79
  go_wp2_with (refine wpList_load_row rfl 111 _ rfl w.heap.size rfl 111 _ (0,0) _ bx.row underlying111 rfl Z ?_)
  refine(GY m key s t l _ (n.af bx.se) P).mono ?_;rintro e o ⟨rfl,E⟩;replace bx:=bx.step E;rw[HC.out];clear E;by_cases M:2000<p.length
  .have b:Hid (Ez key s t l p=1):=by unfold Hid Ez;rw[if_neg (λh=>h a),if_pos M]
   have i:Hid (GJ key s t l p=[]):=by unfold Hid GJ;rw[b.out];rfl
   have N:(2000:Int)<(p.length:Int):=by omega
   go_wp2
   go_ret2
   exact⟨.slice none 0 0,by rw[b.out];rfl,by rw[i.out];exact World.ownsRow_nil _ _ _ _,bx.se⟩
  .have N:¬ (2000:Int)<(p.length:Int):=by omega
   have c1:=bx.c1;by_cases Y:s=1073741824
   .have b:Hid (Ez key s t l p=8):=by unfold Hid Ez;rw[if_neg (λh=>h a),if_neg M,if_pos Y]
    have i:Hid (GJ key s t l p=[]):=by unfold Hid GJ;rw[b.out];rfl
    go_wp2
    go_ret2
    exact⟨.slice none 0 0,by rw[b.out];rfl,by rw[i.out];exact World.ownsRow_nil _ _ _ _,bx.se⟩
   .have b:Hid (Ez key s t l p=0):=by unfold Hid Ez;rw[if_neg (λh=>h a),if_neg M,if_neg Y]
    have i:Hid (GJ key s t l p=KR key s p):=by unfold Hid GJ;rw[b.out];rfl
    have s0:=a.s0;have s1:s<1073741824:=by have:=a.s1;omega
    have a0:Hid (key.length=32):=a.key;go_wp2_with fail
    have q:=bx.se;refine(SZ s o s0 s1).mono ?_;rintro e D ⟨vh,rfl,C,L⟩;replace bx:=bx.step L;clear c1;have c0:=bx.c0;have I:Sl D vh (Ad s):=Sl.nr C (by rw[CH];omega) (Bd s);have u:=n.af bx.se;have x:=G.af bx.se;have z:=R.af y bx.se;have d:4<D.heap.size:=by have:=bx.lt;omega
    have K:Hid (KR key s p=Ad s++K7 key (BI (Ad s)) (Ad s) p):=rfl;have j:=CH s;have V:Hid (Ho key (BI (Ad s)) (Ad s)=true):=dK a.key (H7 rfl) (by rw[CH];omega);have O:p.length<=2000:=by omega
    have c:=bx.se;generalize Ad s=H at K j V I C;have g:Bw D D.drew:=(Below.refl _ _).drew;have a1:=C.lt;have B:w.heap.size<D.drew.heap.size:=bx.lt;clear n G R a;go_wp2_with fail
    go_region_with (first
     | (go_at_call 121;refine(Kp _ H _ (I.af g) j).mono ?_;rintro e w3 ⟨vn,rfl,sn,f⟩;have c3:=(f.cell (p:=⟨w.heap.size,0,none⟩) B).trans c0)
     | (go_at_call 120;refine(fJ m vn _ _ key (BI H) H p _ ((u.af g).af f) sn ((I.af g).af f) ((x.af g).af f) V.out O ((z.af d g).af d f)).mono ?_;rintro e w4 ⟨vx,rfl,sx,F⟩))
    all_goals
     have U:=FO (FO C.drew f) F;have Q:=U.lt;have W:Bw w w3:=c.trans ((g.trans f).mono c.size);have d4:Bw w w4:=W.trans (F.mono W.size);have T:o.heap.size<=w4.heap.size:=mV L.size (mV g.size (mV f.size F.size));have S:w.heap.size<=o.heap.size:=q.size;have A:=Ji key (BI H) H p;clear bx C I u x z g c0 c3 sn f F B L c;generalize K7 key (BI H) H p=X at K A sx;go_wp2_with (at_builtin;refine Aa _ rfl _ _ 34 rfl o.heap.size 5 underlying34 Aw _ _ rfl rfl H X U sx (by omega) T ?_)
     intro v5 w5 v r;have b5:Bw w w5:=d4.grown r (by omega) (λk n=>mV S (Q k n).1);have J:Hid (w5.ownsRow o.heap.size 5 1 v5 (H++X).length ((H++X).map (Value.int .u8))):=by
      unfold Hid;simpa[j,A]using v
     clear v r U;go_wp2
     go_ret2
     refine⟨v5,by rw[b.out];rfl,?_,b5⟩;rw[i.out,K.out];exact Bf J.out (nB _)
 .have HC:Hid (EW key s t l=5):=Ee a;have b:Hid (Ez key s t l p=5):=if_pos a;have i:Hid (GJ key s t l p=[]):=by unfold Hid GJ;rw[b.out];rfl
  go_enter func79,ntmps79
  go_wp2_with (refine wpList_load_row rfl 111 _ rfl w.heap.size rfl 111 _ (0,0) _ bx.row underlying111 rfl Z ?_)
  refine(GY m key s t l _ (n.af bx.se) P).mono ?_;rintro e o ⟨rfl,E⟩;replace bx:=bx.step E;rw[HC.out];go_wp2
  go_ret2
  exact⟨.slice none 0 0,by rw[b.out];rfl,by rw[i.out];exact World.ownsRow_nil _ _ _ _,bx.se⟩
theorem So(k a:Value)(s t:Int)(l:List Bool):(chA k s t l).setIfInBounds 0 a=chA a s t l:=by apply pF;simp[chA]
theorem Qr(k:Value)(s a t:Int)(l:List Bool):(chA k s t l).setIfInBounds 1 (.int .i64 a)=chA k a t l:=by apply pF;simp[chA]
theorem Sp(k:Value)(s t a:Int)(l:List Bool):(chA k s t l).setIfInBounds 2 (.int .i64 a)=chA k s a l:=by apply pF;simp[chA]
structure By(w W:World)(k:Value)(s t:Int)(l:List Bool):Prop where
 row:W.heap[w.heap.size]?=some (.cells (chA k s t l) 111 (0,0))
 res:W.heap[w.heap.size+1]?=some (.cells (chA (.slice none 0 0) 0 0 noB) 111 (0,0))
 se:Bw w W
theorem By.new(w:World)(k:Value)(s t:Int)(l:List Bool):By w ((w.alloc (.cells (chA k s t l) 111)).alloc (.cells (chA (.slice none 0 0) 0 0 noB) 111)) k s t l :=
 ⟨heap_alloc2_old _ _ _,heap_alloc2_new _ _ _,((Below.refl _ _).alloc (A' _) _).alloc (by simp) _⟩
theorem By.lt(h:By w W k s t l):w.heap.size+1<W.heap.size:=(Q'.1 h.res).1
theorem By.step(h:By w W k s t l)(a:Bw W W'):By w W' k s t l :=
 ⟨(a.block _ (by have:=h.lt;omega)).trans h.row,(a.block _ h.lt).trans h.res,h.se.trans (a.mono h.se.size)⟩
theorem By.c0(h:By w W k s t l):W.cell? ⟨w.heap.size,0,none⟩=some k:=(cell_of_row _ _ 0 _ _ _ h.row).trans (UC k s t l)
theorem By.c1(h:By w W k s t l):W.cell? ⟨w.heap.size,1,none⟩=some (.int .i64 s):=(cell_of_row _ _ 1 _ _ _ h.row).trans (Qp k s t l)
theorem By.fr(h:By w W k s t l)(i:Nat):W.frozen? ⟨w.heap.size,i,none⟩=false:=frozen_of_row _ _ i _ _ h.row
theorem By.key(h:By w W k s t l)(a:Value):By w (W.setCell ⟨w.heap.size,0,none⟩ a) a s t l :=
 ⟨by rw[heap_setCell_same _ _ _ _ _ _ h.row,So],(heap_setCell_other _ _ _ _ (by simp)).trans h.res,h.se.setCell (p:=⟨w.heap.size,0,none⟩) (by simp) _⟩
theorem By.ur(h:By w W k s t l)(a:Int):By w (W.setCell ⟨w.heap.size,1,none⟩ (.int .i64 a)) k a t l :=
 ⟨by rw[heap_setCell_same _ _ _ _ _ _ h.row,Qr],(heap_setCell_other _ _ _ _ (by simp)).trans h.res,h.se.setCell (p:=⟨w.heap.size,1,none⟩) (by simp) _⟩
theorem Sl.sR{l:List Int}(h:Sl w v l)(B:Nat)(p:∀ i x,w.cell? ⟨B,i,none⟩≠some (.int .u8 x))(q:w.heap.size<=w'.heap.size)(o:∀ k,k≠B->w'.heap[k]?=w.heap[k]?):Sl w' v l:=by
 obtain⟨⟨a,c,rfl,n,e,d⟩,g,j⟩:=h;refine⟨⟨a,c,rfl,n,e,?_⟩,g,j⟩;rcases d with d|⟨b,off,ha,hbs,hcell⟩
 .exact .inl d
 .refine .inr ⟨b,off,ha,j' hbs q,λi f=>?_⟩;have m:b≠B:=by
   rintro rfl;exact p _ _ (hcell i f)
  rw[<- hcell i f];exact World.cell?_of_block (w:=w) (o b m)
theorem LA{fr:Nat × Nat}(h:W.heap[B]?=some (.cells (chA (.slice a n c) s t l) ty fr)):∀ i x,W.cell? ⟨B,i,none⟩≠some (.int .u8 x):=by
 intro i x b;rw[cell_of_row _ _ i _ _ _ h]at b
 have d:=Array.mem_of_getElem? b;simp[chA]at d
theorem Sl.sg(h:Sl W v p){fr:Nat × Nat}(d:W.heap[B]?=some (.cells (chA (.slice a n c) s t l) ty fr))(i:Nat)(u:Value):Sl (W.setCell ⟨B,i,none⟩ u) v p :=
 h.sR B (LA d) (by simp[World.setCell]) λk b=>heap_setCell_other _ _ _ _ (by simpa using b)
theorem Sl.sA(h:Sl W v p){fr:Nat × Nat}(e:W.heap[B]?=some (.cells (chA (.slice a n c) s t l) ty fr))(b:Array Value):Sl (W.setRow B b) v p :=
 h.sR B (LA e) (by simp[World.setRow]) λk d=>setRow_other _ _ _ _ d
theorem Mq(h:W.ownsRow 0 5 1 v n xs){fr:Nat × Nat}(c:W.heap[B]?=some (.cells A ty fr))(d:ty≠5):∀ k,v.ownBlock=some k->k≠B:=by
 intro k a b;subst b;rcases h.2 with⟨rfl,_⟩|⟨g,cap,cur,rfl,_,hg,_⟩
 .simp[Value.ownBlock]at a
 .simp only[Value.ownBlock,Y']at a;subst a;rw[hg]at c
  simp only[Y',Obj.cells.injEq]at c;exact d c.2.1.symm
theorem AP(h:W.ownsRow 0 5 1 v n xs){fr:Nat × Nat}(c:W.heap[B]?=some (.cells A ty fr))(a:ty≠5)(i:Nat)(u:Value):(W.setCell ⟨B,i,none⟩ u).ownsRow 0 5 1 v n xs :=
 It h λk b=>heap_setCell_other _ _ _ _ (by simpa using Mq h c a k b)
theorem Fb(h:W.ownsRow 0 5 1 v n xs){fr:Nat × Nat}(d:W.heap[B]?=some (.cells A ty fr))(a:ty≠5)(b:Array Value):(W.setRow B b).ownsRow 0 5 1 v n xs :=
 It h λk c=>setRow_other _ _ _ _ (Mq h d a k c)
theorem bj{key:List Int}(h:Ez key s t l p=0):OkC key s t l/\p.length<=2000/\s<1073741824:=by
 unfold Ez at h;by_cases a:OkC key s t l
 .rw[if_neg (λh=>h a)]at h
  by_cases b:2000<p.length
  .rw[if_pos b]at h;omega
  .rw[if_neg b]at h
   by_cases c:s=1073741824
   .rw[if_pos c]at h;omega
   .exact⟨a,by omega,by have:=a.s1;omega⟩
 .rw[if_pos a]at h;omega
theorem fL(r:Value)(key:List Int)(s t:Int)(l:List Bool)(z:Value)(p:List Int)(w:World)(g:Sl w r key)(q:l.length=8)(J:Sl w z p)(C:CW w)(o:Ez key s t l p=0) :
  Calls prog 40 #[.agg (chA r s t l),z] w λe w'=>∃ v1,∃ v2,e=.returned (.tuple #[.agg (chA v1 (s+1) t l),v2,.int .i64 0])/\Sl w' v1 key/\w'.ownsRow 0 5 1 v1 key.length (key.map (Value.int .u8))/\w'.ownsRow 0 5 1 v2 (KR key s p).length ((KR key s p).map (Value.int .u8))/\Bw w w':=by
 have m:=C.pos;have bx:=By.new w r s t l;have B:=EV (k:=r) (s:=s) (t:=t) q;obtain⟨f,_,Q⟩:=bj o;have s0:=f.s0;have D:Hid (Ez key s t l p=0):=o;have G:Hid (GJ key s t l p=KR key s p):=if_pos o;obtain⟨O,P,rfl⟩:=g.shape;have E:Hid (key.length=32):=f.key;generalize i:key.length=nk at g B bx ⊢;have u:Hid (key.length=nk):=i;clear i;go_enter func40,ntmps40
 clear o f;go_wp2_with (refine wpList_load_row rfl 111 _ rfl w.heap.size rfl 111 _ (0,0) _ bx.row underlying111 rfl B ?_)
 refine(bB _ key s t l z p _ (g.af bx.se) q (J.af bx.se) (C.af m bx.se)).mono ?_;rintro e M ⟨v2,rfl,b,A⟩;rw[D.out];rw[G.out]at b
 replace bx:=bx.step A;have c0:=bx.c0;clear A;go_wp2_with fail
 refine(J7 _ key M (g.af bx.se)).mono ?_;rintro e N ⟨v1,rfl,a,v⟩;have K:=bx.lt;replace bx:=bx.step v;replace b:=FO b v;have sk:=Sl.nr a g.len g.byte;replace a:=Bf a (nB _);clear v c0;obtain⟨c,c1,n⟩:=sk.shape;generalize h:key.length=n1 at n a;have F:Hid (key.length=n1):=h;clear h;subst n;have c0:=bx.c0;have H:=bx.fr 0
 go_upto_region 5 with fail
 replace b:=AP b bx.row (by decide) 0 (.slice c n1 c1);replace a:=AP a bx.row (by decide) 0 (.slice c n1 c1);replace sk:=sk.sg bx.row 0 (.slice c n1 c1);replace bx:=bx.key (.slice c n1 c1);generalize N.setCell ⟨w.heap.size,0,none⟩ (.slice c n1 c1)=w3 at b sk a bx ⊢;clear c0 H;have x:=bx.c1;have I:=bx.fr 1
 go_upto_region 6 with fail
 replace b:=AP b bx.row (by decide) 1 (.int .i64 (s+1));replace a:=AP a bx.row (by decide) 1 (.int .i64 (s+1));replace sk:=sk.sg bx.row 1 (.int .i64 (s+1));replace bx:=bx.ur (s+1);generalize w3.setCell ⟨w.heap.size,1,none⟩ (.int .i64 (s+1))=w4 at b sk a bx ⊢;clear x I;have d:=EV (k:=.slice c n1 c1) (s:=s+1) (t:=t) q;have y:=Lh sk (s+1) t l;have j:(chA (.slice none 0 0) 0 0 noB).size=(chA (.slice c n1 c1) (s+1) t l).size:=by rw[Gp,Gp,q];rfl
 go_wp2_with (first
  | (refine wpList_load_row rfl 111 _ rfl w.heap.size rfl 111 _ (0,0) _ bx.row underlying111 rfl d ?_)
  | (refine wpList_store_row rfl 111 _ _ rfl (w.heap.size+1) _ rfl rfl 111 _ bx.res d j y ?_))
 have L:=setRow_heap w4 (w.heap.size+1) _ (chA (.slice c n1 c1) (s+1) t l) 111 _ bx.res;exact bodyPost_ret (FS rfl _ _ (w.heap.size+1) 111 _ (0,0) _ rfl L underlying111 rfl d) rfl ⟨.slice c n1 c1,v2,rfl,sk.sA bx.res _,by rw[<- u.out,F.out];exact Fb a bx.res (by decide) _,Fb b bx.res (by decide) _,below_setRow bx.se (by omega) _⟩
theorem cR(t n:Int)(l:List Bool)(w:World)(u:l.length=8)(t0:0<=t)(t1:t<=1073741824)(n0:t-8<=n)(n2:0<=n)(n1:n<1073741824) :
  Calls prog 182 #[.agg (wA t l),.int .i64 n] w λe w'=>e=.returned (.agg (wA (Ht t n) (KW t l n)))/\Bw w w':=by
 have q:((w.alloc (.cells (wA t l) 228)).alloc (.cells (wA 0 noB) 228)).heap[w.heap.size]?=some (.cells (wA t l) 228 (0,0)):=heap_alloc2_old _ _ _;have C:((w.alloc (.cells (wA t l) 228)).alloc (.cells (wA 0 noB) 228)).heap[w.heap.size+1]?=some (.cells (wA 0 noB) 228 (0,0)):=heap_alloc2_new _ _ _;have B:Bw w ((w.alloc (.cells (wA t l) 228)).alloc (.cells (wA 0 noB) 228)):=((Below.refl _ _).alloc (A' _) _).alloc (by simp) _;have V:((w.alloc (.cells (wA t l) 228)).alloc (.cells (wA 0 noB) 228)).heap.size=w.heap.size+1+1:=by simp
 have S:=KD (t:=t) u;have N:=(cell_of_row _ _ 0 _ _ _ q).trans (jV t l);by_cases h1:t<=n
 .obtain⟨d,hd⟩:∃ d,d=min (n+1-t).toNat 8:=⟨_,rfl⟩;obtain⟨f,g⟩:=Xz t n l u h1 d hd;have x:Hid _:=f;have K:Hid (Ht t n=n+1):=g;clear f g;have b:(l.drop d++List.replicate d false).length=8:=by simp;omega
  have HD:Hid (d=min (n+1-t).toNat 8):=hd;clear hd;go_enter func182,ntmps182
  go_upto_region 1 with fail
  generalize m:((w.alloc (.cells (wA t l) 228)).alloc (.cells (wA 0 noB) 228))=W at q C B V N;refine(congrArg (Code.wp _ _ _ _) m).mpr ?_;clear m;go_wp2_with (refine wpList_load_row rfl 228 _ rfl w.heap.size rfl 228 _ (0,0) _ q underlying228 rfl S ?_)
  refine(TX t (n+1) l W u t0 t1 (by omega) (by omega) d HD.out).mono ?_;rintro e A ⟨rfl,E⟩;generalize l.drop d++List.replicate d false=R at x b;have a0:=(E.block w.heap.size (by omega)).trans q;have a1:=(E.block (w.heap.size+1) (by omega)).trans C;have F:Bw w A:=B.trans (E.mono (by omega));have X:w.heap.size+1+1<=A.heap.size:=by have:=E.size;omega
  have I:=KD (t:=n+1) b
  go_upto_region 3 with(refine wpList_store_row rfl 228 _ _ rfl w.heap.size _ rfl rfl 228 _ a0 I (by rw[Ed,Ed,b,u]) (Qb _ _) ?_)
  have G:=setRow_heap A w.heap.size _ (wA (n+1) R) 228 _ a0;have L:=(setRow_other A w.heap.size (w.heap.size+1) (wA (n+1) R) (by omega)).trans a1;have y:Bw w (A.setRow w.heap.size (wA (n+1) R)):=below_setRow F (A' _) _;have Y:w.heap.size+1+1<=(A.setRow w.heap.size (wA (n+1) R)).heap.size:=by have:=(Q'.1 L).1;omega
  generalize A.setRow w.heap.size (wA (n+1) R)=W2 at G L y Y ⊢;clear a0 a1 F E q C B N V X;have P:n+1<=1073741824:=by omega
  obtain⟨i,hi,J⟩:∃ i:Nat,i<8/\n-(n+1-8)=(i:Int):=⟨7,by omega,by omega⟩;have D:Hid (KW t l n=R.set i true):=by unfold Hid;rw[show i=7 by omega];exact x.out
  clear x;have x:=D;clear D;have Q:0<=n+1:=by omega
  generalize n+1=T at K G P J Q I;go_wp2_with (refine wpList_load_row rfl 228 _ rfl w.heap.size rfl 228 _ (0,0) _ G underlying228 rfl (KD b) ?_)
  refine(Er T R W2 b (by omega) (by omega)).mono ?_;rintro e s ⟨rfl,h⟩;have r:=(h.block w.heap.size (by omega)).trans G;have H:=(h.block (w.heap.size+1) (by omega)).trans L;have j:Bw w s:=y.trans (h.mono (by omega));have Z:w.heap.size+1<s.heap.size:=by have:=h.size;omega
  have M:=(cell_of_row _ _ (1+i) _ _ _ r).trans (Lu T R i (by omega));have fi:=frozen_of_row _ _ (1+i) _ _ r;have O:=RV r i true;have k:(s.setCell ⟨w.heap.size,1+i,none⟩ (.bool true)).heap[w.heap.size+1]?=some (.cells (wA 0 noB) 228 (0,0)):=(heap_setCell_other _ _ _ _ (by simp)).trans H;have z:Bw w (s.setCell ⟨w.heap.size,1+i,none⟩ (.bool true)):=j.setCell (p:=⟨w.heap.size,1+i,none⟩) (by simp) _;have o:(R.set i true).length=8:=by rw[List.length_set];exact b
  have a:=KD (t:=T) o;have U:(i:Int)<8:=by omega
  generalize R.getD i false=c at M;clear G L r H h y j;go_wp2_with (first
   | (refine wpList_load_row rfl 228 _ rfl w.heap.size rfl 228 _ (0,0) _ O underlying228 rfl a ?_)
   | (refine wpList_store_row rfl 228 _ _ rfl (w.heap.size+1) _ rfl rfl 228 _ k a (by rw[Ed,Ed,o];rfl) (Qb _ _) ?_))
  exact bodyPost_ret (v:=.agg (wA T (R.set i true))) (results_cell_row rfl _ _ (w.heap.size+1) 228 _ (0,0) _ rfl (setRow_heap _ (w.heap.size+1) _ _ 228 _ k) underlying228 rfl a) rfl ⟨by rw[x.out,K.out],below_setRow z (by omega) _⟩
 .obtain⟨i,hi,J⟩:∃ i:Nat,i<8/\n-(t-8)=(i:Int):=⟨(n-(t-8)).toNat,by omega,by omega⟩;obtain⟨f,g⟩:=cc t n l u (by omega) i hi (by omega);have x:Hid (KW t l n=l.set i true):=f;have K:Hid (Ht t n=t):=g;clear f g;go_enter func182,ntmps182
  go_upto_region 1 with fail
  generalize m:((w.alloc (.cells (wA t l) 228)).alloc (.cells (wA 0 noB) 228))=W at q C B V N;refine(congrArg (Code.wp _ _ _ _) m).mpr ?_;clear m;go_wp2_with (refine wpList_load_row rfl 228 _ rfl w.heap.size rfl 228 _ (0,0) _ q underlying228 rfl (KD u) ?_)
  refine(Er t l W u (by omega) (by omega)).mono ?_;rintro e s ⟨rfl,h⟩;have r:=(h.block w.heap.size (by omega)).trans q;have H:=(h.block (w.heap.size+1) (by omega)).trans C;have j:Bw w s:=B.trans (h.mono (by omega));have Z:w.heap.size+1<s.heap.size:=by have:=h.size;omega
  have M:=(cell_of_row _ _ (1+i) _ _ _ r).trans (Lu t l i (by omega));have fi:=frozen_of_row _ _ (1+i) _ _ r;have O:=RV r i true;have k:(s.setCell ⟨w.heap.size,1+i,none⟩ (.bool true)).heap[w.heap.size+1]?=some (.cells (wA 0 noB) 228 (0,0)):=(heap_setCell_other _ _ _ _ (by simp)).trans H;have z:Bw w (s.setCell ⟨w.heap.size,1+i,none⟩ (.bool true)):=j.setCell (p:=⟨w.heap.size,1+i,none⟩) (by simp) _;have o:(l.set i true).length=8:=by rw[List.length_set];exact u
  have a:=KD (t:=t) o;have U:(i:Int)<8:=by omega
  generalize l.getD i false=c at M;clear q C r H h B j;go_wp2_with (first
   | (refine wpList_load_row rfl 228 _ rfl w.heap.size rfl 228 _ (0,0) _ O underlying228 rfl a ?_)
   | (refine wpList_store_row rfl 228 _ _ rfl (w.heap.size+1) _ rfl rfl 228 _ k a (by rw[Ed,Ed,o];rfl) (Qb _ _) ?_))
  exact bodyPost_ret (v:=.agg (wA t (l.set i true))) (results_cell_row rfl _ _ (w.heap.size+1) 228 _ (0,0) _ rfl (setRow_heap _ (w.heap.size+1) _ _ 228 _ k) underlying228 rfl a) rfl ⟨by rw[x.out,K.out],below_setRow z (by omega) _⟩
def Kc(w':World)(v':Value)(n':Int)(key:List Int)(s t:Int)(l:List Bool)(r:List Int):Prop:=CL key s t l r=0->n'=FM (r.take 4)/\Sl w' v' (KB key r)
theorem Kc.no{d:Value}{c:Int}{key:List Int}(h:CL key s t l r=E)(b:E≠0):Kc w' d c key s t l r:=λa=>absurd (h.symm.trans a) b
theorem OQ(i:Value)(key:List Int)(s t:Int)(l:List Bool)(vr:Value)(r:List Int)(w:World)(G:Sl w i key)(v:l.length=8)(I:Sl w vr r)(Q:CW w) :
  Calls prog 181 #[.agg (chA i s t l),vr] w λe w'=>∃ v',∃ n',e=.returned (.tuple #[v',.int .i64 n',.int .i64 (CL key s t l r)])/\Kc w' v' n' key s t l r/\Bw w w':=by
 have x:=Q.pos;have bx:=Bx.new w i s t l;obtain⟨ar,cr,rfl⟩:=I.shape;have a0:=I.len;have P:=EV (k:=i) (s:=s) (t:=t) v;by_cases a:OkC key s t l
 .have HC:Hid (EW key s t l=0):=J5 a;go_enter func181,ntmps181
  go_wp2_with (refine wpList_load_row rfl 111 _ rfl w.heap.size rfl 111 _ (0,0) _ bx.row underlying111 rfl P ?_)
  refine(GY i key s t l _ (G.af bx.se) v).mono ?_;rintro e w1 ⟨rfl,B⟩;replace bx:=bx.step B;rw[HC.out];clear B;by_cases K:2020<r.length
  .have b:Hid (CL key s t l r=1):=by unfold Hid CL;rw[if_neg (λh=>h a),if_pos K]
   have L:(2020:Int)<(r.length:Int):=by omega
   go_wp2
   go_ret3
   exact⟨.slice none 0 0,0,by rw[b.out];rfl,Kc.no b.out (by decide),bx.se⟩
  .have L:¬ (2020:Int)<(r.length:Int):=by omega
   by_cases V:r.length<20
   .have b:Hid (CL key s t l r=13):=by unfold Hid CL;rw[if_neg (λh=>h a),if_neg K,if_pos V]
    have M:(r.length:Int)<20:=by omega
    go_wp2
    go_ret3
    exact⟨.slice none 0 0,0,by rw[b.out];rfl,Kc.no b.out (by decide),bx.se⟩
   .have M:¬ (r.length:Int)<20:=by omega
    go_wp2_with fail
    refine(dx _ r w1 (I.af bx.se) (by omega)).mono ?_;rintro e w2 ⟨vh,vd,rfl,f,sd,S⟩;replace bx:=bx.step S;have g:(r.take 4).length=4:=by rw[X'];omega
    have O:(r.drop 4).length=r.length-4:=by rw[nc]
    obtain⟨H,q⟩:∃ H,r.take 4=H:=⟨_,rfl⟩;obtain⟨D,o⟩:∃ D,r.drop 4=D:=⟨_,rfl⟩;have HH:Hid (r.take 4=H):=q;have HD:Hid (r.drop 4=D):=o;rw[q]at f g
    rw[o]at sd O
    have Y:=Mp g f.byte;have A:Hid (CL key s t l r=if 1073741824<=FM H then 2 else if Is t l (FM H)=true then 7 else Et key (BI H) H D):=by
     unfold Hid CL;rw[if_neg (λh=>h a),if_neg K,if_neg V,q,o]
    have n:Hid (KB key r=Rm key (BI H) H D):=by unfold Hid KB;rw[q,o]
    clear q o S;go_wp2_with fail
    refine(P4 vh H w2 f g).mono ?_;rintro e R ⟨rfl,rfl⟩;generalize W:FM H=N at A Y;have HN:Hid (FM H=N):=W;clear W;by_cases h4:1073741824<=N
    .have b:Hid (CL key s t l r=2):=by unfold Hid;rw[A.out,if_pos h4]
     go_wp2
     go_ret3
     exact⟨.slice none 0 0,0,by rw[b.out];rfl,Kc.no b.out (by decide),bx.se⟩
    .go_wp2_with (refine wpList_load_row rfl 111 _ rfl w.heap.size rfl 111 _ (0,0) _ bx.row underlying111 rfl P ?_)
     refine(Ga i s t l R v).mono ?_;rintro e w3 ⟨rfl,C⟩;replace bx:=bx.step C;replace f:=f.af C;replace sd:=sd.af C;have n0:=Y.1;have n1:N<1073741824:=by omega
     clear C;go_wp2_with fail
     refine(Wq t N l w3 v a.t0 a.t1 n0 n1).mono ?_;rintro e J ⟨rfl,F⟩;replace bx:=bx.step F;replace f:=f.af F;replace sd:=sd.af F;clear F;cases h5:Is t l N with
     | true =>
      have b:Hid (CL key s t l r=7):=by unfold Hid;rw[A.out,if_neg (show ¬ 1073741824<=N by omega),h5,if_pos rfl]
      clear h5;go_wp2
      go_ret3
      exact⟨.slice none 0 0,0,by rw[b.out];rfl,Kc.no b.out (by decide),bx.se⟩
     | false =>
      have b:Hid (CL key s t l r=Et key (BI H) H D):=by unfold Hid;rw[A.out,if_neg (show ¬ 1073741824<=N by omega),h5,if_neg (by simp)]
      have u:=G.af bx.se;have y:=Q.af x bx.se;have d:4<J.heap.size:=by have:=bx.lt;omega
      have c0:=bx.c0;have c:=bx.se;have m:Bw J J.drew:=(Below.refl _ _).drew;have z:w.heap.size<J.drew.heap.size:=bx.lt;clear h5 G I Q a;go_wp2_with fail
      go_region_with (first
       | (go_at_call 121;refine(Kp _ H _ (f.af m) g).mono ?_;rintro e w5 ⟨vn,rfl,sn,j⟩;have c5:=(j.cell (p:=⟨w.heap.size,0,none⟩) z).trans c0)
       | (go_at_call 198;refine(ao i vn _ _ key (BI H) H D _ ((u.af m).af j) sn ((f.af m).af j) ((sd.af m).af j) ((y.af d m).af d j)).mono ?_;rintro e w6 ⟨vx,rfl,Z,T⟩))
      all_goals
       have U:Bw w w5:=c.trans ((m.trans j).mono c.size);have d6:Bw w w6:=U.trans (T.mono U.size);clear bx f sd u y m c0 c5 sn j T z c;generalize Et key (BI H) H D=E at b;generalize Rm key (BI H) H D=X at n Z;go_wp2
       go_ret3
       exact⟨vx,N,by rw[b.out];rfl,λ_=>⟨by rw[HH.out,HN.out],by rw[n.out];exact Z⟩,d6⟩
 .have HC:Hid (EW key s t l=5):=Ee a;have b:Hid (CL key s t l r=5):=if_pos a;go_enter func181,ntmps181
  go_wp2_with (refine wpList_load_row rfl 111 _ rfl w.heap.size rfl 111 _ (0,0) _ bx.row underlying111 rfl P ?_)
  refine(GY i key s t l _ (G.af bx.se) v).mono ?_;rintro e w1 ⟨rfl,B⟩;replace bx:=bx.step B;rw[HC.out];go_wp2
  go_ret3
  exact⟨.slice none 0 0,0,by rw[b.out];rfl,Kc.no b.out (by decide),bx.se⟩
theorem ce{key:List Int}(h:CL key s t l r=0):OkC key s t l/\20<=r.length/\r.length<=2020/\FM (r.take 4)<1073741824/\Is t l (FM (r.take 4))=false/\Et key (BI (r.take 4)) (r.take 4) (r.drop 4)=0:=by
 unfold CL at h;by_cases a:OkC key s t l
 .rw[if_neg (λh=>h a)]at h
  by_cases b:2020<r.length
  .rw[if_pos b]at h;omega
  .rw[if_neg b]at h
   by_cases c:r.length<20
   .rw[if_pos c]at h;omega
   .rw[if_neg c]at h
    by_cases d:1073741824<=FM (r.take 4)
    .rw[if_pos d]at h;omega
    .rw[if_neg d]at h
     cases h5:Is t l (FM (r.take 4))with
     | true=>rw[h5,if_pos rfl]at h;omega
     | false =>
      rw[h5,if_neg (by simp)]at h
      exact⟨a,by omega,by omega,by omega,rfl,h⟩
 .rw[if_pos a]at h;omega
theorem fU(c:Value)(key:List Int)(s t:Int)(l:List Bool)(f:Value)(r:List Int)(w:World)(p:Sl w c key)(i:l.length=8)(q:Sl w f r)(j:CW w)(E:Int)(h:CL key s t l r=E)(n:E≠0) :
  Calls prog 159 #[.agg (chA c s t l),f] w λe w'=>e=.returned (.tuple #[.agg (chA (.slice none 0 0) 0 0 noB),.slice none 0 0,.int .i64 E])/\Bw w w':=by
 have b:=j.pos;have bx:=By.new w c s t l;have o:=EV (k:=c) (s:=s) (t:=t) i;have m:Hid (CL key s t l r=E):=h;clear h;go_enter func159,ntmps159
 go_wp2_with (refine wpList_load_row rfl 111 _ rfl w.heap.size rfl 111 _ (0,0) _ bx.row underlying111 rfl o ?_)
 refine(OQ _ key s t l f r _ (p.af bx.se) i (q.af bx.se) (j.af b bx.se)).mono ?_;rintro e v ⟨z,x,rfl,y,g⟩;rw[m.out];replace bx:=bx.step g;clear g;have a:=EV (k:=.slice none 0 0) (s:=0) (t:=0) Iq;have d:=Lh (Sl.nil w none) 0 0 noB;go_wp2_with (refine wpList_store_row rfl 111 _ _ rfl (w.heap.size+1) (chA (.slice none 0 0) 0 0 noB) rfl rfl 111 _ bx.res a rfl d ?_)
 have u:=setRow_heap v (w.heap.size+1) _ (chA (.slice none 0 0) 0 0 noB) 111 _ bx.res;exact bodyPost_ret (FS rfl _ _ (w.heap.size+1) 111 _ (0,0) _ rfl u underlying111 rfl a) rfl ⟨rfl,below_setRow bx.se (by omega) _⟩
theorem Qq(k:Value)(s t:Int)(l:List Bool)(i:Nat)(x:Bool):(chA k s t l).setIfInBounds (3+i) (.bool x)=chA k s t (l.set i x):=by
 apply pF;rw[rG];simp[chA,List.map_set]
theorem By.top(h:By w W k s t l)(a:Int):By w (W.setCell ⟨w.heap.size,2,none⟩ (.int .i64 a)) k s a l :=
 ⟨by rw[heap_setCell_same _ _ _ _ _ _ h.row,Sp],(heap_setCell_other _ _ _ _ (by simp)).trans h.res,h.se.setCell (p:=⟨w.heap.size,2,none⟩) (by simp) _⟩
theorem By.seen(h:By w W k s t l)(i o:Nat)(b:o=3+i)(x:Bool)(l':List Bool)(a:l.set i x=l'):By w (W.setCell ⟨w.heap.size,o,none⟩ (.bool x)) k s t l':=by
 subst b;subst a;exact⟨by rw[heap_setCell_same _ _ _ _ _ _ h.row,Qq],(heap_setCell_other _ _ _ _ (by simp)).trans h.res,h.se.setCell (p:=⟨w.heap.size,3+i,none⟩) (by simp) _⟩
theorem By.drew(h:By w W k s t l):By w W.drew k s t l:=⟨h.row,h.res,h.se.drew⟩
theorem By.laid{I E D q o m k i:Bool}(h:By w W (.slice a n c) s t [I,E,D,q,o,m,k,i])(T:Int)(b0 b d e f g j l:Bool) :
  By w (((((((((W.setCell ⟨w.heap.size,2,none⟩ (.int .i64 T)).setCell ⟨w.heap.size,3,none⟩ (.bool b0)).setCell ⟨w.heap.size,4,none⟩ (.bool b)).setCell ⟨w.heap.size,5,none⟩ (.bool d)).setCell ⟨w.heap.size,6,none⟩ (.bool e)).setCell ⟨w.heap.size,7,none⟩ (.bool f)).setCell ⟨w.heap.size,8,none⟩ (.bool g)).setCell ⟨w.heap.size,9,none⟩ (.bool j)).setCell ⟨w.heap.size,10,none⟩ (.bool l)).drew (.slice a n c) s T [b0,b,d,e,f,g,j,l]/\(∀ v n xs,W.ownsRow 0 5 1 v n xs->(((((((((W.setCell ⟨w.heap.size,2,none⟩ (.int .i64 T)).setCell ⟨w.heap.size,3,none⟩ (.bool b0)).setCell ⟨w.heap.size,4,none⟩ (.bool b)).setCell ⟨w.heap.size,5,none⟩ (.bool d)).setCell ⟨w.heap.size,6,none⟩ (.bool e)).setCell ⟨w.heap.size,7,none⟩ (.bool f)).setCell ⟨w.heap.size,8,none⟩ (.bool g)).setCell ⟨w.heap.size,9,none⟩ (.bool j)).setCell ⟨w.heap.size,10,none⟩ (.bool l)).drew.ownsRow 0 5 1 v n xs)/\∀ v p,Sl W v p->Sl (((((((((W.setCell ⟨w.heap.size,2,none⟩ (.int .i64 T)).setCell ⟨w.heap.size,3,none⟩ (.bool b0)).setCell ⟨w.heap.size,4,none⟩ (.bool b)).setCell ⟨w.heap.size,5,none⟩ (.bool d)).setCell ⟨w.heap.size,6,none⟩ (.bool e)).setCell ⟨w.heap.size,7,none⟩ (.bool f)).setCell ⟨w.heap.size,8,none⟩ (.bool g)).setCell ⟨w.heap.size,9,none⟩ (.bool j)).setCell ⟨w.heap.size,10,none⟩ (.bool l)).drew v p:=by
 have r:=h.top T;have u:=r.seen 0 3 rfl b0 [b0,E,D,q,o,m,k,i] rfl;have x:=u.seen 1 4 rfl b [b0,b,D,q,o,m,k,i] rfl;have y:=x.seen 2 5 rfl d [b0,b,d,q,o,m,k,i] rfl;have z:=y.seen 3 6 rfl e [b0,b,d,e,o,m,k,i] rfl;have A:=z.seen 4 7 rfl f [b0,b,d,e,f,m,k,i] rfl;have B:=A.seen 5 8 rfl g [b0,b,d,e,f,g,k,i] rfl;have C:=B.seen 6 9 rfl j [b0,b,d,e,f,g,j,i] rfl;have F:=C.seen 7 10 rfl l [b0,b,d,e,f,g,j,l] rfl;refine⟨F.drew,λv n xs G=>?_,λv p H=>?_⟩
 .exact(AP (AP (AP (AP (AP (AP (AP (AP (AP G h.row (by decide) 2 _) r.row (by decide) 3 _) u.row (by decide) 4 _) x.row (by decide) 5 _) y.row (by decide) 6 _) z.row (by decide) 7 _) A.row (by decide) 8 _) B.row (by decide) 9 _) C.row (by decide) 10 _).drew
 exact(((((((((H.sg h.row 2 _).sg r.row 3 _).sg u.row 4 _).sg x.row 5 _).sg y.row 6 _).sg z.row 7 _).sg A.row 8 _).sg B.row 9 _).sg C.row 10 _).drew
theorem fV(V:Value)(key:List Int)(s t:Int)(l:List Bool)(vr:Value)(r:List Int)(w:World)(F:Sl w V key)(L:l.length=8)(hr:Sl w vr r)(ht:CW w)(hE:CL key s t l r=0)(n:Int)(U:FM (r.take 4)=n) :
  Calls prog 159 #[.agg (chA V s t l),vr] w λe w'=>∃ v1,∃ v2,e=.returned (.tuple #[.agg (chA v1 s (Ht t n) (KW t l n)),v2,.int .i64 0])/\Sl w' v1 key/\w'.ownsRow 0 5 1 v1 key.length (key.map (Value.int .u8))/\Sl w' v2 (KB key r)/\Bw w w':=by
 have O:=ht.pos;have bx:=By.new w V s t l;have hi:=EV (k:=V) (s:=s) (t:=t) L;obtain⟨E,P,z,j,a,a6⟩:=ce hE;rw[U]at j a
 have a3:0<=n:=by
  rw[<- U];exact(Mp (by rw[X'];omega) (λx hx=>hr.byte x (nu hx))).1
 have a4:t-8<=n:=by
  by_cases h:n<t-8
  .rw[Rh h]at a;cases a
  .omega
 have t0:=E.t0;have t1:=E.t1;have HE:Hid (CL key s t l r=0):=hE;have HN:Hid (FM (r.take 4)=n):=U;obtain⟨ak,ck,rfl⟩:=F.shape;generalize N:key.length=nk at F hi bx ⊢;have X:Hid (key.length=nk):=N;clear N;go_enter func159,ntmps159
 clear hE E U a a6 P z;go_wp2_with (refine wpList_load_row rfl 111 _ rfl w.heap.size rfl 111 _ (0,0) _ bx.row underlying111 rfl hi ?_)
 refine(OQ _ key s t l vr r _ (F.af bx.se) L (hr.af bx.se) (ht.af O bx.se)).mono ?_;rintro e w1 ⟨v2,H,rfl,R,g⟩;rw[HE.out];obtain⟨M,c⟩:=R HE.out;rw[HN.out]at M
 subst M;replace bx:=bx.step g;clear g R;go_wp2_with (refine wpList_load_row rfl 111 _ rfl w.heap.size rfl 111 _ (0,0) _ bx.row underlying111 rfl hi ?_)
 refine(Ga _ s t l w1 L).mono ?_;rintro e w2 ⟨rfl,d⟩;replace bx:=bx.step d;replace c:=c.af d;clear d;go_wp2_with fail
 refine(cR t H l w2 L t0 t1 a4 a3 j).mono ?_;rintro e I ⟨rfl,f⟩;replace bx:=bx.step f;replace c:=c.af f;clear f;have C:=EP t l H;generalize hT:Ht t H=T;generalize hS:KW t l H=S at C;have HT:Hid (Ht t H=T):=hT;have HS:Hid (KW t l H=S):=hS;clear hT hS;obtain⟨b0,g,d,f,p,q,u,v,rfl⟩:=H6 S C;simp only[wA,List.map]
 go_upto_region 5 with fail
 have A:(I.alloc (.cells (wA T [b0,g,d,f,p,q,u,v]) 228)).heap[I.heap.size]?=some (.cells (wA T [b0,g,d,f,p,q,u,v]) 228 (0,0)):=heap_alloc_new _ _;have i:Bw I (I.alloc (.cells (wA T [b0,g,d,f,p,q,u,v]) 228)):=(Below.refl _ _).alloc (A' _) _;simp only[wA,List.map]at A i;have hG:=bx.lt;replace bx:=bx.step i;replace c:=c.af i;generalize I.alloc (.cells #[.int .i64 T,.bool b0,.bool g,.bool d,.bool f,.bool p,.bool q,.bool u,.bool v] 228)=w4 at A i bx c ⊢;clear i;generalize I.heap.size=G at A hG ⊢;have c0:=bx.c0;have J:G<w4.heap.size:=(Q'.1 A).1;go_wp2_with fail
 refine(J7 _ key w4 (F.af bx.se)).mono ?_;rintro e w5 ⟨v1,rfl,m,y⟩;replace bx:=bx.step y;replace c:=c.af y;replace A:=(y.block G J).trans A;have sk:=Sl.nr m F.len F.byte;replace m:=Bf m (nB _);clear y c0 J;obtain⟨o,c1,Q⟩:=sk.shape;generalize j:key.length=n1 at Q m;have W:Hid (key.length=n1):=j;clear j;subst Q;have c0:=bx.c0;have f0:=bx.fr 0
 go_upto_region 6 with fail
 replace c:=c.sg bx.row 0 (.slice o n1 c1);replace sk:=sk.sg bx.row 0 (.slice o n1 c1);replace m:=AP m bx.row (by decide) 0 (.slice o n1 c1);have g1:(w5.setCell ⟨w.heap.size,0,none⟩ (.slice o n1 c1)).heap[G]?=some (.cells (wA T [b0,g,d,f,p,q,u,v]) 228 (0,0)):=(heap_setCell_other _ _ _ _ (by simp;omega)).trans A;replace bx:=bx.key (.slice o n1 c1);generalize w5.setCell ⟨w.heap.size,0,none⟩ (.slice o n1 c1)=w6 at c sk m bx g1 ⊢;clear c0 f0 A;have e1:Bw w6 w6.drew:=(Below.refl _ _).drew;obtain⟨x0,x1,x2,x3,x4,x5,x6,x7,rfl⟩:=H6 l L;obtain⟨c0,Y,c2,c3,c4,c5,c6,c7,c8,c9,Z⟩:=VL bx.row;obtain⟨e0,a0,e2,e3,e4,e5,e6,e7,e8⟩:=Nk g1;have f2:=bx.fr 2;have f3:=bx.fr 3;have f4:=bx.fr 4;have f5:=bx.fr 5;have f6:=bx.fr 6;have f7:=bx.fr 7;have f8:=bx.fr 8;have f9:=bx.fr 9;have a2:=bx.fr 10;have a8:¬ G=w.heap.size:=by omega
 have a7:¬ w.heap.size=G:=by omega
 go_region
 obtain⟨b,K,B⟩:=bx.laid T b0 g d f p q u v;replace c:=B _ _ c;replace sk:=B _ _ sk;replace m:=K _ _ _ m;clear B K c0 Y c2 c3 c4 c5 c6 c7 c8 c9 Z e0 a0 e2 e3 e4 e5 e6 e7 e8 f2 f3 f4 f5 f6 f7 f8 f9 a2 bx g1 e1;generalize (((((((((w6.setCell ⟨w.heap.size,2,none⟩ (.int .i64 T)).setCell ⟨w.heap.size,3,none⟩ (.bool b0)).setCell ⟨w.heap.size,4,none⟩ (.bool g)).setCell ⟨w.heap.size,5,none⟩ (.bool d)).setCell ⟨w.heap.size,6,none⟩ (.bool f)).setCell ⟨w.heap.size,7,none⟩ (.bool p)).setCell ⟨w.heap.size,8,none⟩ (.bool q)).setCell ⟨w.heap.size,9,none⟩ (.bool u)).setCell ⟨w.heap.size,10,none⟩ (.bool v)).drew=w7 at b c sk m ⊢;have D:=EV (k:=.slice o n1 c1) (s:=s) (t:=T) C;have a5:=Lh sk s T [b0,g,d,f,p,q,u,v];have a:(chA (.slice none 0 0) 0 0 noB).size=(chA (.slice o n1 c1) s T [b0,g,d,f,p,q,u,v]).size:=rfl;go_wp2_with (first
  | (refine wpList_load_row rfl 111 _ rfl w.heap.size rfl 111 _ (0,0) _ b.row underlying111 rfl D ?_)
  | (refine wpList_store_row rfl 111 _ _ rfl (w.heap.size+1) _ rfl rfl 111 _ b.res D a a5 ?_))
 have r2:=setRow_heap w7 (w.heap.size+1) _ (chA (.slice o n1 c1) s T [b0,g,d,f,p,q,u,v]) 111 _ b.res;exact bodyPost_ret (FS rfl _ _ (w.heap.size+1) 111 _ (0,0) _ rfl r2 underlying111 rfl D) rfl ⟨.slice o n1 c1,v2,by rw[HT.out,HS.out];rfl,sk.sA b.res _,by rw[<- X.out,W.out];exact Fb m b.res (by decide) _,c.sA b.res _,below_setRow b.se (by omega) _⟩
def OA(k:Nat):Int:=if k=1 then 2 else if k=2 then 1 else if k=3 then 4 else 0
theorem NTab.right(h:NTab w)(k:Nat)(a:k<=3):w.cell? ⟨2,k*3,none⟩=some (.int .i64 (OA k)):=by
 rcases(by omega:k=0\/k=1\/k=2\/k=3)with rfl|rfl|rfl|rfl
 .exact h.cell 0 (by omega)
 .exact h.cell 3 (by omega)
 .exact h.cell 6 (by omega)
 .exact h.cell 9 (by omega)
theorem Wk(k:Nat)(r:Int)(c:k<=3)(a:0<=r)(b:r<=7):(bits .and .i64 r (OA k)=0)↔¬ OZ (k:Int) r:=by
 have all:∀ (i:Fin 4) (j:Fin 8),(bits .and .i64 ((j.val:Nat):Int) (OA i.val)=0)↔¬ OZ ((i.val:Nat):Int) ((j.val:Nat):Int):=by decide +kernel
 obtain⟨m,rfl⟩:=nL a;exact all ⟨k,by omega⟩ ⟨m,by omega⟩
theorem Sc(b d f k c s n v a:Int)(w:World)(K:NTab w) :
  Calls prog 96 #[.agg (tkA b d f),.agg (cmA k c s n v),.int .i64 a] w λe w'=>e=.returned (.int .i64 (Fg b d f k c s n v a))/\Bw w w':=by
 have j:Bw w (w.alloc (.cells (tkA b d f) 59)):=(Below.refl _ _).alloc (A' _) _;have i:=Bt.made w b d f;have M:(w.alloc (.cells (tkA b d f) 59)).heap.size=w.heap.size+1:=by simp
 have l:Below (w.alloc (.cells (tkA b d f) 59)).heap.size (w.alloc (.cells (tkA b d f) 59)) ((w.alloc (.cells (tkA b d f) 59)).alloc (.cells (cmA k c s n v) 49)):=(Below.refl _ _).alloc (A' _) _;have o:=Bc.made (w.alloc (.cells (tkA b d f) 59)) k c s n v;replace i:=i.af l;have z:=j.trans (l.mono j.size);have r:=K.af z;rw[M]at o
 clear j l K M;have H:=Ha k c s n v;have I:=Jq b d f;generalize Q:(w.alloc (.cells (tkA b d f) 59)).alloc (.cells (cmA k c s n v) 49)=W at z i o r;go_enter func96,ntmps96
 go_wp2_with (refine wpList_load_row rfl 59 _ rfl w.heap.size rfl 59 _ (0,0) _ i.row underlying59 rfl I ?_)
 clear Q;refine(JG b d f _).mono ?_;rintro e U ⟨rfl,j⟩;have C:Bw w U:=z.trans (j.mono z.size);replace i:=i.af j;replace o:=o.af j;replace r:=r.af j;clear j z;by_cases q:Dy b d f
 .rw[M' q];go_wp2_with (refine wpList_load_row rfl 49 _ rfl (w.heap.size+1) rfl 49 _ (0,0) _ o.row underlying49 rfl H ?_)
  refine(Es k c s n v _ r).mono ?_;rintro e t ⟨rfl,l⟩;have D:Bw w t:=C.trans (l.mono C.size);replace i:=i.af l;replace o:=o.af l;replace r:=r.af l;clear l C;by_cases A:Bo k c s n v=0
  .have hz:=Fj A;obtain⟨m,rfl⟩:=nL hz.1.1;have X:(0:Int)<=(m:Int):=by omega
   have Y:(m:Int)<4:=by omega
   have Z:m<4:=by omega
   have G:=r.right m (by omega);have B:=Wk m d (by omega) q.2.1.1 q.2.1.2;obtain⟨c0,c1,N,O,P⟩:=Fi o.row;obtain⟨S,T,L⟩:=JZ i.row;have x:Hid (Dy b d f):=q;have y:Hid (Bo (m:Int) c s n v=0):=A;rw[A];clear q A hz i o r;by_cases u:c=b
   .have h3':decide (c=b)=true:=M' u;by_cases E:bits .and .i64 d (OA m)=0
    .have h:Hid (11=Fg b d f (m:Int) c s n v a):=(Lx x.out y.out (λg=>B.1 E g.1)).symm;have V:Hid (c=b):=u;clear B x y;subst u;clear h3';generalize OA m=R at G E;go_wp2_with fail
     go_quiet (fail)
     have p:Bw w (t.drewN nq):=Aq D nq;generalize t.drewN nq=w3 at p ⊢;go_wp2
     go_ret;exact⟨BM h.out,p⟩
    .have HR:Hid (OZ (m:Int) d/\c=b):=⟨Classical.not_not.1 λg=>E (B.2 g),u⟩;clear B;subst u;clear h3';generalize OA m=R at G E;go_wp2_with fail
     go_quiet (fail)
     have p:Bw w (t.drewN nq):=Aq D nq;have J:(t.drewN nq).cell? ⟨w.heap.size,2,none⟩=some (.int .i64 f):=by simpa using L
     generalize t.drewN nq=w3 at p J ⊢;clear c0 c1 N O P S T L G;go_wp2_with fail
     refine(Fy a f _).mono ?_;rintro e w4 ⟨rfl,rfl⟩;by_cases F:0<=a/\a<=f
     .rw[M' F];have h:Hid (0=Fg c d f (m:Int) c s n v a):=(cY x.out y.out ⟨HR.out.1,rfl⟩ F).symm;go_wp2
      go_ret;exact⟨BM h.out,p⟩
     .rw[D' F];have h:Hid (10=Fg c d f (m:Int) c s n v a):=(VG x.out y.out ⟨HR.out.1,rfl⟩ F).symm;go_wp2
      go_ret;exact⟨BM h.out,p⟩
   .have h3':decide (c=b)=false:=D' u;have h:Hid (11=Fg b d f (m:Int) c s n v a):=(Lx x.out y.out (λg=>u g.2)).symm;clear B x y;go_wp2_with fail
    go_quiet (fail)
    have p:Bw w (t.drewN nq):=Aq D nq;generalize t.drewN nq=w3 at p ⊢;go_wp2
    go_ret;exact⟨BM h.out,p⟩
  .have h:Hid (Bo k c s n v=Fg b d f k c s n v a):=(XU q A).symm;go_wp2
   go_ret;exact⟨BM h.out,D⟩
 .rw[D' q];have h:Hid (2=Fg b d f k c s n v a):=(XV q).symm;go_wp2
  go_ret;exact⟨BM h.out,C⟩
theorem Zr{c:Int}(a:0<=c)(g:AJ w)(b:(if c<=7 then 0 else 2)=E) :
  Calls prog 39 #[iv c] w λe w'=>∃ y:S3,e=.returned (.tuple #[y.v,iv E])/\(E=0->Sl w' y.v (Hq c))/\Bw w w':=by
 subst b;by_cases h:c<=7
 .rw[if_pos h];refine(iW c w a h g).mono ?_;rintro e w' ⟨v,rfl,f,d⟩;obtain⟨y,rfl,i⟩:=G8 f (by rw[G0];decide) (Wv c);exact⟨y,rfl,λ_=>i,d⟩
 .rw[if_neg h];refine(iV c w (by omega)).mono ?_;rintro e w' ⟨rfl,rfl⟩;exact⟨s30,rfl,λh=>absurd h (by decide),Below.refl _ _⟩
theorem JF(c:AJ w):Calls prog 37 #[] w λe w'=>∃ y:S3,e=.returned y.v/\Sl w' y.v Hp/\Bw w w':=by
 refine(Th w c).mono ?_;rintro e w' ⟨v,rfl,b,a⟩;obtain⟨y,rfl,d⟩:=G8 b (by rw[Km];decide) Wr;exact⟨y,rfl,d,a⟩
theorem jh{key:List Int}(a:Sl w x.v key)(b:key.length=32) :
  Calls prog 158 #[x.v] w λe w'=>∃ y:S3,e=.returned (.tuple #[.agg #[y.v,iv 0,iv 0,.bool false,.bool false,.bool false,.bool false,.bool false,.bool false,.bool false,.bool false],iv 0])/\Sl w' y.v key/\Bw w w':=by
 refine(eM x.v key w a).mono ?_;rw[if_pos b,if_pos b];rintro e w' ⟨v,rfl,d,c⟩;obtain⟨y,rfl,f⟩:=G8 d a.len a.byte;exact⟨y,rfl,f,c⟩
theorem YI(h:l.length=8):∃ a b c d e f g k,l=[a,b,c,d,e,f,g,k]:=by
 match l,h with
 | [a,b,c,d,e,f,g,k],_=>exact⟨a,b,c,d,e,f,g,k,rfl⟩
theorem Vw{y:S3}{key:List Int}(d:Sl w x.v key)(f:Sl w y.v r)(g:CW w)(b:CL key 0 0 noB r=E) :
  Calls prog 159 #[.agg #[x.v,iv 0,iv 0,.bool false,.bool false,.bool false,.bool false,.bool false,.bool false,.bool false,.bool false],y.v] w λe w'=>∃ (c v:S3) (t:Int) (x0 x1 x2 x3 x4 x5 x6 x7:Bool),e=.returned (.tuple #[.agg #[c.v,iv 0,iv t,.bool x0,.bool x1,.bool x2,.bool x3,.bool x4,.bool x5,.bool x6,.bool x7],v.v,iv E])/\Sl w' v.v (if E=0 then KB key r else[])/\Bw w w':=by
 by_cases h:E=0
 .subst h;refine(fV x.v key 0 0 noB y.v r w d rfl f g b _ rfl).mono ?_;rintro e w' ⟨m,n,rfl,i,_,j,a⟩;obtain⟨c,rfl,_⟩:=Vr i;obtain⟨v,rfl,k⟩:=Vr j;obtain⟨x0,x1,x2,x3,x4,x5,x6,x7,l⟩:=YI (EP 0 noB (FM (r.take 4)));rw[l];exact⟨c,v,_,x0,x1,x2,x3,x4,x5,x6,x7,rfl,by rw[if_pos rfl];exact k,a⟩
 .refine(fU x.v key 0 0 noB y.v r w d rfl f g E b h).mono ?_;rintro e w' ⟨rfl,a⟩;exact⟨s30,s30,0,false,false,false,false,false,false,false,false,rfl,by rw[if_neg h];exact EA _,a⟩
theorem Mx{y:S3}{key l:List Int}(j:Sl w x.v key)(i:Sl w y.v l)(k:AJ w)(f:E9 key l=E) :
  Calls prog 127 #[x.v,y.v] w λe w'=>∃ a b c:Int,e=.returned (.tuple #[.agg #[iv a,iv b,iv c],iv E])/\(E=0->a=l.getD 0 0/\b=l.getD 1 0/\c=Ac l 2)/\Bw w w':=by
 subst f;refine(WV x.v y.v key l w j i k).mono ?_;rintro e w' ⟨rfl,h⟩;by_cases d:E9 key l=0
 .rw[Vj d];exact⟨_,_,_,rfl,λ_=>⟨rfl,rfl,rfl⟩,h⟩
 .rw[IZ d];exact⟨0,0,0,rfl,λg=>absurd g d,h⟩
theorem VV{l:List Int}(h:Sl w x.v l)(f:NTab w)(d:Cx l=E) :
  Calls prog 128 #[x.v] w λe w'=>∃ m:Cmd,e=.returned (.tuple #[.agg #[iv m.k,iv m.c,iv m.s,iv m.n,iv m.v],iv E])/\(E=0->m=⟨Ac l 0,Ac l 4,Ac l 8,Ac l 12,Ac l 16⟩)/\Bw w w':=by
 subst d;refine(LJ x.v l w h f).mono ?_;rintro e w' ⟨rfl,b⟩;by_cases a:Cx l=0
 .rw[show KJ l=_ from if_pos a];exact⟨⟨Ac l 0,Ac l 4,Ac l 8,Ac l 12,Ac l 16⟩,rfl,λ_=>rfl,b⟩
 .rw[show KJ l=_ from if_neg a];exact⟨⟨0,0,0,0,0⟩,rfl,λg=>absurd g a,b⟩
theorem WL{l:List Int}(h:Sl w x.v l)(hT:AJ w)(X:CW w)(F:Rl l=E){D:List Int}(hD:P8 l=D) :
  Calls prog 126 #[x.v] w λe w'=>∃ y:S3,e=.returned (.tuple #[y.v,iv E])/\Sl w' y.v D/\Bw w w':=by
 have hn:=JS h;subst F hD;refine kIn func126 (kR 12 [] λd6 w1 b1=>?_);by_cases h1:x.n=0
 .refine kI (((x.n:Int)==0)) true (by simp;omega) (kR 5 [] λd7 w2 b2=>?_);have B3:=(btr b1 b2);obtain rfl:l=[]:=Z' (by omega);exact kE (.tuple #[S3.v s30,iv 13]) ⟨s30,rfl,EA _,B3⟩
 .refine kI (((x.n:Int)==0)) false (by simp;omega) ?_;have M:¬ l=[]:=λe=>h1 (by rw[hn,e];rfl);obtain⟨bd,od,a7,a6,H⟩:=RA h (by omega);obtain⟨c,I⟩:∃ c,l.getD 0 0=c:=⟨_,rfl⟩;have m:=Aj h.byte 0;rw[I]at H m
  refine kR 4 [] λd8 w4 b4=>kV 1 (pt bd od) (a7 _) ?_;have o:=(btr b1 b4);refine kV 2 (.int .u8 c) (D4 underlying5 rfl ((Below.cell o (p:=⟨bd,od,none⟩) a6).trans H)) (kV 3 (iv c) (rUi m) ?_);obtain⟨i,a⟩:∃ i:Int,(if c<=7 then 0 else 2)=i:=⟨_,rfl⟩;refine kC 4 (Zr m.1 (hT.af o) a) ?_;rintro _ w9 ⟨yk,rfl,a9,V⟩;refine⟨_,rfl,V,?_⟩;refine kR 12 [] λc0 c5 b=>?_;by_cases W:i≠0
  .refine kI ((i != 0)) true (by simpa using W) (kR 6 [] λc1 c6 a2=>?_);have Y:=(btr (btr (btr o V) b) a2);have h7:¬ c<=7:=λg=>W (by rw[<- a,if_pos g]);have a4:i=2:=by rw[<- a,if_neg h7]
   have G:Rl l=2:=(if_neg M).trans (if_pos (by rw[I];omega));rw[G,show P8 l=[]from if_neg (by rw[G];decide),a4];exact kE (.tuple #[S3.v s30,iv 2]) ⟨s30,rfl,EA _,Y⟩
  .refine kI ((i != 0)) false (by simpa using W) ?_;have C:i=0:=by simpa using W
   have h7:c<=7:=by by_cases g:c<=7;exact g;rw[if_neg g,C]at a;cases a
   have R:=a9 C;refine kR 4 [] λc2 c7 j=>kC 1 (jh ((R.af b).af j) (G0 c)) ?_;rintro _ c8 ⟨yc,rfl,Q,k⟩;refine⟨_,rfl,k,?_⟩;obtain⟨y1,a8,P,_⟩:=slB h 1 (by omega);obtain⟨E,F⟩:∃ E,CL (Hq c) 0 0 noB (l.drop 1)=E:=⟨_,rfl⟩;refine kR 19 [0,0,0,0,3,0,0,2] λS c9 d=>kT 2 (S3.v y1) (λ_=>(a8 _)) (Zq 41 (λw' e L=>∃ (v:S3) (b7:Nat) (cs:Array Value),e=[(8,S3.v v),(5,iv E)]/\L=[⟨(S 0),.cells #[S3.v yc,iv 0,iv 0,.bool false,.bool false,.bool false,.bool false,.bool false,.bool false,.bool false,.bool false] 111,.z,false⟩,⟨b7,.cells cs 111,.l,false⟩]/\Sl w' v.v (if E=0 then KB (Hq c) (l.drop 1)else[])/\Bw w w') ?_ ?_)
   .intro J hJ;refine Wu 3 8 ?_ ?_
    .have B19:=(btr (btr (btr (btr (btr o V) b) j) k) d);refine kC 3 (Vw (Q.af d) (P.af B19) (X.af X.pos B19) F) ?_;rintro _ d0 ⟨A,b6,b3,x0,x1,x2,x3,x4,x5,x6,x7,rfl,N,q⟩;refine⟨_,rfl,q,?_⟩;refine kR 9 [8,10,12,14,17,1,0,19,1,0,20,22] λT d1 r=>?_;have Z:=(btr (btr B19 q) r);exact kB [true,true] λz K=>hJ _ _ z _ ⟨b6,(T 0),#[S3.v A,iv 0,iv b3,.bool x0,.bool x1,.bool x2,.bool x3,.bool x4,.bool x5,.bool x6,.bool x7],rfl,rfl,(N.af r),Z⟩ K
    .refine kR 1 [1,0] λU d2 s=>?_;have f:=(btr (btr (btr (btr (btr (btr o V) b) j) k) d) s);refine kC 3 (Vw ((Q.af d).af s) (P.af f) (X.af X.pos f) F) ?_;rintro _ d3 ⟨B,b8,b5,x0,x1,x2,x3,x4,x5,x6,x7,rfl,O,t⟩;refine⟨_,rfl,t,?_⟩;refine kF 8 [8,10,12,14,19,1,0,20,22] λc3 d4 a3 b0=>?_;have a0:=((btr f t).trans a3);exact kB [true,true] λz K=>hJ _ _ z _ ⟨b8,(U 0),#[S3.v B,iv 0,iv b5,.bool x0,.bool x1,.bool x2,.bool x3,.bool x4,.bool x5,.bool x6,.bool x7],rfl,rfl,(O.kept b0),a0⟩ K
   .rintro w17 _ z17 _ ⟨v,b7,cs,rfl,rfl,hv,hb⟩;refine kR 7 [] λc4 d5 u=>?_;have a1:=(btr hb u);have G:Rl l=E:=(if_neg M).trans ((if_neg (by rw[I];omega)).trans (by rw[I];exact F));have a5:P8 l=(if E=0 then KB (Hq c) (l.drop 1)else[]):=by unfold P8;rw[G,I]
    rw[G,a5];exact kE (.tuple #[S3.v v,iv E]) ⟨v,rfl,(hv.af u),a1⟩
theorem RS{l:List Int}(h:Sl w x.v l)(U:AJ w)(hq:CW w)(hN:NTab w)(g:unE l=E) :
  Calls prog 95 #[x.v] w λe w'=>∃ (a b c:Int) (m:Cmd),e=.returned (.tuple #[.agg #[iv a,iv b,iv c],.agg #[iv m.k,iv m.c,iv m.s,iv m.n,iv m.v],iv E])/\(E=0->a=(unT l).getD 0 0/\b=(unT l).getD 1 0/\c=Ac (unT l) 2/\m=⟨Ac (unQ l) 0,Ac (unQ l) 4,Ac (unQ l) 8,Ac (unQ l) 12,Ac (unQ l) 16⟩)/\Bw w w':=by
 obtain⟨C,a2⟩:∃ C,Rl l=C:=⟨_,rfl⟩;obtain⟨D,hD⟩:∃ D,P8 l=D:=⟨_,rfl⟩;unfold unT unQ;unfold unE unT unQ at g;rw[hD]at g ⊢
 rw[a2]at g
 refine kIn func95 (kR 9 [1,0,1,0] λd w1 F=>kC 1 (WL (h.af F) (U.af F) (hq.af hq.pos F) a2 hD) ?_);rintro _ w2 ⟨y,rfl,hy,Z⟩;refine⟨_,rfl,Z,?_⟩;have f1:=JS hy;refine kR 12 [] λh5 w3 p=>?_;by_cases h1:C≠0
 .refine kI ((C != 0)) true (by simpa using h1) (kF 9 [0,0,1,0] λh6 w4 b4 q4=>?_);have B5:=((btr (btr F Z) p).trans b4);have i:C=E:=by rw[<- g];rw[if_pos h1]
  rw[<- i];exact qE5 2 3 4 59 49 0 (d 0) 1 (d 1) #[iv 0,iv 0,iv 0] #[iv 0,iv 0,iv 0,iv 0,iv 0] (iv C) λK=>⟨0,0,0,⟨0,0,0,0,0⟩,rfl,λh=>absurd h (by exact h1),B5⟩
 .refine kI ((C != 0)) false (by simpa using h1) ?_;rw[if_neg h1]at g
  refine kR 8 [] λh7 w6 t=>?_;by_cases h2:y.n≠42
  .refine kI (((y.n:Int) != 42)) true (by simp;omega) (kF 8 [0,0,1,0] λh8 w7 S q7=>?_);have B8:=((btr (btr (btr F Z) p) t).trans S);have i:3=E:=by rw[<- g];rw[if_pos (by omega)]
   rw[<- i];exact qE5 2 3 4 59 49 0 (d 0) 1 (d 1) #[iv 0,iv 0,iv 0] #[iv 0,iv 0,iv 0,iv 0,iv 0] (iv 3) λK=>⟨0,0,0,⟨0,0,0,0,0⟩,rfl,λh=>absurd h (by decide),B8⟩
  .refine kI (((y.n:Int) != 42)) false (by simp;omega) ?_;rw[if_neg (by omega)]at g
   obtain⟨y1,d7,Q⟩:=slT hy 22 (by omega);obtain⟨o,u⟩:∃ o,E9 Hp (D.take 22)=o:=⟨_,rfl⟩;rw[u]at g
   refine kR 4 [10,2] λh9 w9 A=>kT 2 (S3.v y1) (λ_=>(d7 _)) (Zq 45 (λw' e L=>∃ (a b c:Int) (S:Nat),e=[(2,pt (d 0) 0),(3,pt (d 1) 0),(5,S3.v y),(6,iv o),(7,pt S 0)]/\L=[⟨(d 0),.cells #[iv 0,iv 0,iv 0] 59,.l,false⟩,⟨(d 1),.cells #[iv 0,iv 0,iv 0,iv 0,iv 0] 49,.l,false⟩,⟨S,.cells #[iv a,iv b,iv c] 59,.l,false⟩]/\(o=0->a=(D.take 22).getD 0 0/\b=(D.take 22).getD 1 0/\c=Ac (D.take 22) 2)/\Sl w' y.v D/\Bw w w') ?_ ?_)
   .intro J hJ;refine Wu 0 7 ?_ ?_
    .have B13:=(btr (btr (btr (btr F Z) p) t) A);refine kC 0 (JF (U.af B13)) ?_;rintro _ f5 ⟨e2,rfl,j,f⟩;refine⟨_,rfl,f,?_⟩;refine Wu 3 7 ?_ ?_
     .have B17:=(btr B13 f);refine kC 3 (Mx j ((((Q.af p).af t).af A).af f) (U.af B17) u) ?_;rintro _ f6 ⟨c3,d1,d4,rfl,a3,G⟩;refine⟨_,rfl,G,?_⟩;refine kR 7 [8,10,12,15,1,0,17,2,0,18] λa6 f7 Y=>?_;have b0:=(btr (btr B17 G) Y);exact kB [true,true,true] λz K=>hJ _ _ z _ ⟨c3,d1,d4,(a6 0),rfl,rfl,a3,((((((hy.af p).af t).af A).af f).af G).af Y),b0⟩ K
     .refine kR 1 [1,0] λa7 f8 q=>?_;have V:=(btr (btr B13 f) q);refine kC 3 (Mx (j.af q) (((((Q.af p).af t).af A).af f).af q) (U.af V) u) ?_;rintro _ f9 ⟨c4,d2,d5,rfl,a4,H⟩;refine⟨_,rfl,H,?_⟩;refine kF 6 [8,10,12,17,2,0,18] λe4 g0 c6 e0=>?_;have b5:=((btr V H).trans c6);exact kB [true,true,true] λz K=>hJ _ _ z _ ⟨c4,d2,d5,(a7 0),rfl,rfl,a4,(((((((hy.af p).af t).af A).af f).af q).af H).kept e0),b5⟩ K
    .refine kR 1 [1,0] λa8 g1 I=>?_;have W:=(btr (btr (btr (btr (btr F Z) p) t) A) I);refine kC 0 (JF (U.af W)) ?_;rintro _ g2 ⟨e3,rfl,R,r⟩;refine⟨_,rfl,r,?_⟩;have X:=(btr W r);refine kC 3 (Mx R (((((Q.af p).af t).af A).af I).af r) (U.af X) u) ?_;rintro _ g3 ⟨c5,d3,d6,rfl,a5,M⟩;refine⟨_,rfl,M,?_⟩;refine kF 6 [8,10,12,17,2,0,18] λe5 g4 c7 e1=>?_;have b8:=((btr X M).trans c7);exact kB [true,true,true] λz K=>hJ _ _ z _ ⟨c5,d3,d6,(a8 0),rfl,rfl,a5,(((((((hy.af p).af t).af A).af I).af r).af M).kept e1),b8⟩ K
   .rintro w11 _ z11 _ ⟨a,b,c,S,rfl,rfl,hp,hyx,hb⟩;refine kR 6 [] λe6 g5 N=>?_;by_cases T:o≠0
    .refine kI ((o != 0)) true (by simpa using T) (kF 9 [0,0,1,0] λe7 g6 c8 f2=>?_);have c0:=((btr hb N).trans c8);have i:o=E:=by rw[<- g];rw[if_pos T]
     rw[<- i];exact qE5 2 3 4 59 49 0 (d 0) 1 (d 1) #[iv 0,iv 0,iv 0] #[iv 0,iv 0,iv 0,iv 0,iv 0] (iv o) λK=>⟨0,0,0,⟨0,0,0,0,0⟩,rfl,λh=>absurd h (by exact T),c0⟩
    .refine kI ((o != 0)) false (by simpa using T) ?_;have P:o=0:=by simpa using T
     rw[if_neg T]at g
     obtain⟨y3,d8,d9⟩:=slB (hyx.af N) 22 (by omega);refine kR 4 [] λe8 g7 a0=>kV 1 (S3.v y3) (d8 _) ?_;have B:=(btr (btr hb N) a0);refine kC 2 (VV (d9.1.af a0) (hN.af B) g) ?_;rintro _ g8 ⟨m,rfl,hm,O⟩;refine⟨_,rfl,O,?_⟩;refine kR 11 [0,0,3,0,3,0,2,4] λa9 g9 a1=>Zq 45 (λw' e L=>∃ (_:Unit),e=[(2,pt (d 0) 0),(3,pt (d 1) 0),(4,iv E)]/\L=[⟨(d 0),.cells #[iv a,iv b,iv c] 59,.l,false⟩,⟨(d 1),.cells #[iv m.k,iv m.c,iv m.s,iv m.n,iv m.v] 49,.l,false⟩,⟨S,.cells #[iv a,iv b,iv c] 59,.l,false⟩,⟨(a9 0),.cells #[iv m.k,iv m.c,iv m.s,iv m.n,iv m.v] 49,.z,false⟩]/\Bw w w') ?_ ?_
     .intro J hJ;refine Wu 1 3 ?_ ?_
      .refine kF 5 [3,7,0,0,9,1,0,10] λe9 h0 c9 f3=>?_;have c1:=((btr (btr B O) a1).trans c9);exact kB [true,true,true,true] λz K=>hJ _ _ z _ ⟨(),rfl,rfl,c1⟩ K
      .refine kF 5 [0,0,3,3,9,1,0,10] λf0 h4 d0 f4=>?_;have c2:=((btr (btr B O) a1).trans d0);exact kB [true,true,true,true] λz K=>hJ _ _ z _ ⟨(),rfl,rfl,c2⟩ K
     .rintro w42 _ z42 _ ⟨_,rfl,rfl,hb2⟩;exact qE5 2 3 4 59 49 0 (d 0) 1 (d 1) #[iv a,iv b,iv c] #[iv m.k,iv m.c,iv m.s,iv m.n,iv m.v] (iv E) λK=>⟨a,b,c,m,rfl,λh=>⟨(hp P).1,(hp P).2.1,(hp P).2.2,hm h⟩,hb2⟩
theorem Oa{a b c:Int}{m:Cmd}{d:Int}(g:NTab w){F:Int}(f:Fg a b c m.k m.c m.s m.n m.v d=F):Calls prog 96 #[.agg #[iv a,iv b,iv c],.agg #[iv m.k,iv m.c,iv m.s,iv m.n,iv m.v],iv d] w λe w'=>e=.returned (iv F)/\Bw w w':=by subst f;exact Sc a b c m.k m.c m.s m.n m.v d w g
theorem WC(v:Value)(l:List Int)(d:Int)(w:World)(h:Sl w v l)(hT:AJ w)(hq:CW w)(hN:NTab w) :
  Calls prog 51 #[v,iv d] w λe w'=>e=.returned (.tuple #[.agg (opA l d),iv (opE l d)])/\Bw w w':=by
 obtain⟨x,rfl,h⟩:=Vr h;obtain⟨E,H⟩:∃ E,unE l=E:=⟨_,rfl⟩;have c4:=H;refine kIn func51 (kR 8 [1,0] λi w1 z=>kC 1 (RS (h.af z) (hT.af z) (hq.af hq.pos z) (hN.af z) H) ?_);rintro _ w2 ⟨a,b,c,m,rfl,hm,Q⟩;refine⟨_,rfl,Q,?_⟩;refine kR 16 [0,0,0,0,1,0,2,0] λe3 w3 b3=>?_;by_cases L:E≠0
 .refine kI ((E != 0)) true (by simpa using L) (kF 7 [0,0] λe4 w4 b4 q4=>?_);have f:opE l d=E:=(if_pos (by rw[H];exact L)).trans H;rw[P6 (by rw[f];exact L),f];have B5:=((btr (btr z Q) b3).trans b4);exact qE2 4 5 49 0 (i 0) #[iv 0,iv 0,iv 0,iv 0,iv 0] (iv E) λK=>⟨rfl,B5⟩
 .refine kI ((E != 0)) false (by simpa using L) ?_;have D:E=0:=by simpa using L
  obtain⟨ha,N,hc,o⟩:=hm D;have a8:0<l.length:=mf (H.trans D);have hU:¬ unE l≠0:=by rw[H,D];simp
  obtain⟨e1,e2⟩:m.k=Ac (unQ l) 0/\m.c=Ac (unQ l) 4:=by rw[o];exact⟨rfl,rfl⟩
  refine kR 6 [12,0,2,2] λe5 w6 b6=>?_;by_cases R:m.k≠0
  .refine kT 2 (.bool true) (λ_=>(Ix (t:=3) (m:=m.k) (n:=0) (x:=(.tmp 21)) (y:=(.const (iv 0))) (by simpa using R))) ?_;obtain⟨bd,od,a7,a6,O⟩:=RA h a8;obtain⟨C,G⟩:∃ C,l.getD 0 0=C:=⟨_,rfl⟩;have P:=Aj h.byte 0;rw[G]at O P
   refine kR 4 [6,8,10,2,12] λe6 w7 b7=>kT 7 (pt bd od) (λ_=>(a7 _)) ?_;have Y:=(btr (btr (btr (btr z Q) b3) b6) b7);refine kV 8 (.int .u8 C) (D4 underlying5 rfl ((Below.cell Y (p:=⟨bd,od,none⟩) a6).trans O)) (kT 9 (iv C) (λ_=>(rUi P)) ?_);by_cases S:m.c≠C
   .refine kT 10 (.bool true) (λ_=>(Ix (t:=3) (m:=m.c) (n:=C) (x:=(.tmp 25)) (y:=(.tmp 29)) (by simpa using S))) (kF 9 [22,0,0] λa9 d0 Z c5=>?_);have f:opE l d=11:=(if_neg hU).trans (if_pos ⟨by rw[<- e1];exact R,by rw[<- e2,G];exact S⟩);rw[P6 (by rw[f];decide),f];have T:=(Y.trans Z);exact qE2 4 5 49 0 (i 0) #[iv 0,iv 0,iv 0,iv 0,iv 0] (iv 11) λK=>⟨rfl,T⟩
   .refine kT 10 (.bool false) (λ_=>(Ix (t:=3) (m:=m.c) (n:=C) (x:=(.tmp 25)) (y:=(.tmp 29)) (by simpa using S))) (kR 10 [22,1,2] λb0 d1 a0=>?_);obtain⟨F,M⟩:∃ F,Fg a b c m.k m.c m.s m.n m.v d=F:=⟨_,rfl⟩;have f:opE l d=F:=(if_neg hU).trans ((if_neg (λg=>g.2 (by rw[<- e2,G];simpa using S))).trans (by rw[<- M,ha,N,hc,o]));have r:=(btr Y a0);refine kC 3 (Oa (hN.af r) M) ?_;rintro _ d2 ⟨rfl,A⟩;refine⟨_,rfl,A,?_⟩;refine kR 7 [] λb5 d3 I=>?_;by_cases q:F≠0
    .refine kI ((F != 0)) true (by simpa using q) (kF 7 [0,0] λb8 d4 a1 c6=>?_);rw[P6 (by rw[f];exact q),f];have U:=((btr (btr r A) I).trans a1);exact qE2 4 5 49 0 (i 0) #[iv 0,iv 0,iv 0,iv 0,iv 0] (iv F) λK=>⟨rfl,U⟩
    .refine kI ((F != 0)) false (by simpa using q) ?_;have j:F=0:=by simpa using q
     refine kF 7 [2,0,0] λb9 d5 a2 c7=>?_;rw[show opA l d=#[iv m.k,iv m.c,iv m.s,iv m.n,iv m.v]from(ai (f.trans j)).trans (by rw[o];rfl),f,j];have V:=((btr (btr r A) I).trans a2);exact qE2 4 5 49 0 (i 0) #[iv m.k,iv m.c,iv m.s,iv m.n,iv m.v] (iv 0) λK=>⟨rfl,V⟩
  .refine kT 2 (.bool false) (λ_=>(Ix (t:=3) (m:=m.k) (n:=0) (x:=(.tmp 21)) (y:=(.const (iv 0))) (by simpa using R))) (kR 18 [6,8,10,12,14,16,18,20,22,1,2] λc0 d6 a3=>?_);obtain⟨F,M⟩:∃ F,Fg a b c m.k m.c m.s m.n m.v d=F:=⟨_,rfl⟩;have f:opE l d=F:=(if_neg hU).trans ((if_neg (λg=>g.1 (by rw[<- e1];simpa using R))).trans (by rw[<- M,ha,N,hc,o]));have u:=(btr (btr (btr (btr z Q) b3) b6) a3);refine kC 3 (Oa (hN.af u) M) ?_;rintro _ d7 ⟨rfl,B⟩;refine⟨_,rfl,B,?_⟩;refine kR 7 [] λc1 d8 J=>?_;by_cases q:F≠0
   .refine kI ((F != 0)) true (by simpa using q) (kF 7 [0,0] λc2 d9 a4 c8=>?_);rw[P6 (by rw[f];exact q),f];have W:=((btr (btr u B) J).trans a4);exact qE2 4 5 49 0 (i 0) #[iv 0,iv 0,iv 0,iv 0,iv 0] (iv F) λK=>⟨rfl,W⟩
   .refine kI ((F != 0)) false (by simpa using q) ?_;have j:F=0:=by simpa using q
    refine kF 7 [2,0,0] λc3 e0 a5 c9=>?_;rw[show opA l d=#[iv m.k,iv m.c,iv m.s,iv m.n,iv m.v]from(ai (f.trans j)).trans (by rw[o];rfl),f,j];have X:=((btr (btr u B) J).trans a5);exact qE2 4 5 49 0 (i 0) #[iv m.k,iv m.c,iv m.s,iv m.n,iv m.v] (iv 0) λK=>⟨rfl,X⟩
end
end
end Go.Proofs.YtogibonjmbhliabGreatDoor
