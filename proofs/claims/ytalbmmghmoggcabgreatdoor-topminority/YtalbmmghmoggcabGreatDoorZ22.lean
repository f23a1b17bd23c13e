/- Part 22 of the walk. -/
import Derived.Lib.LazyBuf
import Derived.Test.YtalbmmghmoggcabGreatDoorZ21
set_option maxRecDepth 100000
set_option maxHeartbeats 4000000
open Go.Proofs.Tryz
set_option linter.unusedVariables false
namespace Go.Proofs.YtalbmmghmoggcabGreatDoor
section
def pick(n many:Int):Int:=if n<0 then(-(n+1))%many else n%many
theorem AO(n many:Int)(hm:0<many):0<=pick n many/\pick n many<many:=by
 unfold pick;split
 .exact⟨jx _ (by omega),ji _ hm⟩
 .exact⟨jx _ (by omega),ji _ hm⟩
def wK(a:Int):Int:=1+pick a 5/2
def wV(a e:Int):Int:=if wK a=1 then pick e 1000 else 0
theorem Xb(a:Int):1<=wK a/\wK a<=3:=by
 have:=AO a 5 (by omega);unfold wK;omega
theorem Xc(a e:Int):0<=wV a e/\wV a e<=1000:=by
 have:=AO e 1000 (by omega);unfold wV;split<;>omega
theorem Zj(a d e:Int)(c' s':Int)(hc:0<=c'/\c'<=7)(hs:0<=s'/\s'<=1048576):AU (wK a) c' s' (pick d 4) (wV a e)=0:=by
 have h1:=Xb a;have h2:=AO d 4 (by omega);have h3:=Xc a e;refine Rh h1 (by unfold InC;omega) ?_;unfold wV;split
 .exact .inl (by assumption)
 .exact .inr rfl
def I64(n:Int):Prop:=-9223372036854775808<=n/\n<=9223372036854775807
end
section
open Go.RowKit
section
variable{A:Array Value}{B c cap n:Nat}{P:Program}{W W' w w':World}{a:Option Addr}{k v:Value}{l:List Bool}{p:List Int}{s t:Int}{ty:TypeId}{x y:Operand}{xs:List Value}
theorem dP(a:Int)(h:-9223372036854775808<=-a/\-a<=9223372036854775807):(Op.unary .neg (iv a)).run P W=.ok (iv (-a)) W:=by
 simp[go_sem];rw[IntKind.wrap_i64];omega
theorem RC(a b:Int)(hk:P.underlying 3=some (.int .i64))(ha:0<=a)(ha2:a<=9223372036854775807)(hb:0<b)(hb2:b<=9223372036854775807):(do Go.eqGuard .rem 3 x y (iv a) (iv b);Go.binOp .rem 3 (iv a) (iv b):Sem Value).run P W=.ok (iv (a%b)) W:=by
 have h1:=dQ (P:=P) (W:=W) (x:=x) (y:=y) a.toNat b.toNat hk (by omega) (by omega) (by omega);have e1:((a.toNat:Nat):Int)=a:=ik ha;have e2:((b.toNat:Nat):Int)=b:=ik (by omega);rw[e1,e2]at h1
 rw[h1,jo,e1,e2]
theorem ZF(a:Int)(hk:P.underlying 3=some (.int .i64))(ha:0<=a)(ha2:a<=1000):(do Go.eqGuard .quo 3 x y (iv a) (iv 2);Go.binOp .quo 3 (iv a) (iv 2):Sem Value).run P W=.ok (iv (a/2)) W:=by
 have hq:a.tdiv 2=a/2:=jg ha;simp only[Go.eqGuard,go_sem,Op.intDiv];simp[hq];rw[IntKind.wrap_i64];omega
theorem AH{n:Int}(h:I64 n)(many:Int)(hm:0<many:=by decide)(hm2:many<=9223372036854775807:=by decide) :
  Calls prog 8 #[iv n,iv many] w λe w'=>e=.returned (iv (pick n many))/\Bw w w':=by
 unfold I64 at h;refine tIn [] func8 trivial ?_;refine tR 10 [] λσ1 _ _=>?_;by_cases h1:n<0
 .refine tI ((decide (n<0))) true (I' h1) ?_;refine tR 2 [] λσ2 _ _=>?_;refine tV 1 (iv (n+1)) (λF C=>(AK (x:=(.tmp 7)) (y:=(.const (iv 1))) n 1 underlying3 (by omega))) ?_;refine tV 2 (iv (-(n+1))) (λF C=>(dP (n+1) (by omega))) ?_;refine tR 6 [] λσ4 _ _=>?_;refine tV 2 (iv (-(n+1)%many)) (λF C=>(RC (x:=(.tmp 10)) (y:=(.tmp 11)) (-(n+1)) many underlying3 (by omega) (by omega) hm hm2)) ?_;refine tR 2 [] λσ5 _ _=>?_;exact tE (iv (-(n+1)%many)) λ_ B=>⟨by rw[show pick n many=_ from if_pos h1],B⟩
 .refine tI ((decide (n<0))) false (D' h1) ?_;refine tR 5 [] λσ6 _ _=>?_;refine tV 2 (iv (n%many)) (λF C=>(RC (x:=(.tmp 10)) (y:=(.tmp 11)) n many underlying3 (by omega) (by omega) hm hm2)) ?_;refine tR 2 [] λσ7 _ _=>?_;exact tE (iv (n%many)) λ_ B=>⟨by rw[show pick n many=_ from if_neg h1],B⟩
theorem BB{n:Int}(h:I64 n)(many:Int)(hm:0<many:=by decide)(hm2:many<=9223372036854775807:=by decide) :
  Calls prog 4 #[iv n,iv many] w λe w'=>e=.returned (iv (pick n many))/\Bw w w':=by
 refine tIn [] func4 trivial ?_;refine tR 8 [] λσ1 _ _=>?_;refine tC 2 (λF C=>AH h many hm hm2) λNz=>?_;rintro _ _ ⟨rfl,b2⟩;refine⟨_,_,rfl,b2,id,?_⟩;refine tR 2 [] λσ3 _ _=>?_;exact tE (iv (pick n many)) λ_ B=>⟨rfl,B⟩
theorem Pf{k c n v:Int}(hk:I64 k)(hc:I64 c)(hs:I64 s)(hn:I64 n)(hv:I64 v) :
  Calls prog 16 #[.agg #[iv k,iv c,iv s,iv n,iv v]] w λe w'=>e=.returned (.agg #[iv (wK k),iv (pick c 4),iv (pick s 6),iv (pick n 4),iv (wV k v)])/\Bw w w':=by
 have rk:=AO k 5 (by omega);refine tIn [] func16 trivial ?_;refine tR 15 [0,0,1,0,17,0,2,0,10,12,0,16,18,0,22,24,0] λσ1 _ _=>?_;refine T3 27 (λee LL ΦΦ=>∃ (b3:Nat),ee=[(1,pt (σ1 0) 0),(2,pt (σ1 1) 0),(3,pt b3 0)]/\LL=[⟨(σ1 0),.cells #[iv k,iv c,iv s,iv n,iv v] 55,.z,false⟩,⟨(σ1 1),.cells #[iv 0,iv 0,iv 0,iv 0,iv 0] 53,.l,false⟩,⟨b3,.cells #[iv (wK k),iv (pick c 4),iv (pick s 6),iv (pick n 4),iv 0] 53,.l,false⟩]/\ΦΦ=[]) (λJ hJ=>?_) ?_
 .refine T5 2 15 ?_ ?_
  .refine tC 2 (λF C=>AH hk 5) λNz=>?_;rintro _ _ ⟨rfl,b3⟩;refine⟨_,_,rfl,b3,id,?_⟩;refine tT 3 (iv (pick k 5/2)) (λ_=>(ZF (x:=(.tmp 6)) (y:=(.const (iv 2))) (pick k 5) underlying3 (by omega) (by omega))) ?_;refine tT 4 (iv (wK k)) (λ_=>(AK (x:=(.const (iv 1))) (y:=(.tmp 7)) 1 (pick k 5/2) underlying3 (by omega))) ?_;refine T5 7 15 ?_ ?_
   .refine tC 7 (λF C=>AH hc 4) λNz=>?_;rintro _ _ ⟨rfl,b8⟩;refine⟨_,_,rfl,b8,id,?_⟩;refine T5 10 15 ?_ ?_
    .refine tC 10 (λF C=>AH hs 6) λNz=>?_;rintro _ _ ⟨rfl,b11⟩;refine⟨_,_,rfl,b11,id,?_⟩;refine T5 13 15 ?_ ?_
     .refine tC 13 (λF C=>AH hn 4) λNz=>?_;rintro _ _ ⟨rfl,b14⟩;refine⟨_,_,rfl,b14,id,?_⟩;refine tR 4 [28,31,1,0,33,2,0] λσ15 _ _=>?_;exact tD hJ [true,true,true] ⟨(σ15 0),rfl,rfl,rfl⟩ (λF=>trivial)
     .refine tR 1 [1,0] λσ16 _ _=>?_;refine tC 13 (λF C=>AH hn 4) λNz=>?_;rintro _ _ ⟨rfl,b17⟩;refine⟨_,_,rfl,b17,id,?_⟩;refine tR 3 [28,33,2,0] λσ18 _ _=>?_;exact tD hJ [true,true,true] ⟨(σ16 0),rfl,rfl,rfl⟩ (λF=>trivial)
    .refine tR 1 [1,0] λσ19 _ _=>?_;refine tC 10 (λF C=>AH hs 6) λNz=>?_;rintro _ _ ⟨rfl,b20⟩;refine⟨_,_,rfl,b20,id,?_⟩;refine tC 13 (λF C=>AH hn 4) λNz=>?_;rintro _ _ ⟨rfl,b22⟩;refine⟨_,_,rfl,b22,id,?_⟩;refine tR 3 [28,33,2,0] λσ23 _ _=>?_;exact tD hJ [true,true,true] ⟨(σ19 0),rfl,rfl,rfl⟩ (λF=>trivial)
   .refine tR 1 [1,0] λσ24 _ _=>?_;refine tC 7 (λF C=>AH hc 4) λNz=>?_;rintro _ _ ⟨rfl,b25⟩;refine⟨_,_,rfl,b25,id,?_⟩;refine tC 10 (λF C=>AH hs 6) λNz=>?_;rintro _ _ ⟨rfl,b27⟩;refine⟨_,_,rfl,b27,id,?_⟩;refine tC 13 (λF C=>AH hn 4) λNz=>?_;rintro _ _ ⟨rfl,b29⟩;refine⟨_,_,rfl,b29,id,?_⟩;refine tR 3 [28,33,2,0] λσ30 _ _=>?_;exact tD hJ [true,true,true] ⟨(σ24 0),rfl,rfl,rfl⟩ (λF=>trivial)
  .refine tR 1 [1,0] λσ31 _ _=>?_;refine tC 2 (λF C=>AH hk 5) λNz=>?_;rintro _ _ ⟨rfl,b32⟩;refine⟨_,_,rfl,b32,id,?_⟩;refine tT 3 (iv (pick k 5/2)) (λ_=>(ZF (x:=(.tmp 6)) (y:=(.const (iv 2))) (pick k 5) underlying3 (by omega) (by omega))) ?_;refine tT 4 (iv (wK k)) (λ_=>(AK (x:=(.const (iv 1))) (y:=(.tmp 7)) 1 (pick k 5/2) underlying3 (by omega))) ?_;refine tC 7 (λF C=>AH hc 4) λNz=>?_;rintro _ _ ⟨rfl,b36⟩;refine⟨_,_,rfl,b36,id,?_⟩;refine tC 10 (λF C=>AH hs 6) λNz=>?_;rintro _ _ ⟨rfl,b38⟩;refine⟨_,_,rfl,b38,id,?_⟩;refine tC 13 (λF C=>AH hn 4) λNz=>?_;rintro _ _ ⟨rfl,b40⟩;refine⟨_,_,rfl,b40,id,?_⟩;refine tR 3 [28,33,2,0] λσ41 _ _=>?_;exact tD hJ [true,true,true] ⟨(σ31 0),rfl,rfl,rfl⟩ (λF=>trivial)
 rintro _ _ _ ⟨b3,rfl,rfl,rfl⟩ _ _ _;refine tR 7 [2] λσ42 _ _=>?_;by_cases h1:wK k=1
 .refine tI (((wK k)==1)) true (by simpa using h1) ?_;refine tR 3 [0] λσ43 _ _=>?_;refine tC 2 (λF C=>AH hv 1000) λNz=>?_;rintro _ _ ⟨rfl,b44⟩;refine⟨_,_,rfl,b44,id,?_⟩;refine tR 8 [2,0,2,1,0] λσ45 _ _=>?_;exact tX λF C=>qE1 2 53 1 (σ1 1) #[iv (wK k),iv (pick c 4),iv (pick s 6),iv (pick n 4),iv (pick v 1000)] λ_=>⟨by rw[show wV k v=_ from if_pos h1],CgQ.below C⟩
 .refine tI (((wK k)==1)) false (by simpa using h1) ?_;refine tR 6 [2,1,0] λσ46 _ _=>?_;exact tX λF C=>qE1 2 53 1 (σ1 1) #[iv (wK k),iv (pick c 4),iv (pick s 6),iv (pick n 4),iv 0] λ_=>⟨by rw[show wV k v=_ from if_neg h1],CgQ.below C⟩
theorem aQ(c:Int)(w:World)(h0:0<=c)(h1:c<=7)(ht:AA w) :
  Calls prog 36 #[.int .i64 c] w λe w'=>∃ v',e=.returned (.tuple #[v',.int .i64 0])/\w'.ownsRow w.heap.size 5 1 v' (FI c).length ((FI c).map (Value.int .u8))/\Bw w w':=by
 have d0:decide (c<0)=false:=by simp;omega
 have d1:decide ((7:Int)<c)=false:=by simp;omega
 have hw:IntKind.u8.wrap c=c:=by rw[show IntKind.u8.wrap c=c%256 from rfl];omega
 have kc:=Go.Joins.run_convert_bytes_const_at (P:=prog) (w.alloc (.cells #[.int .u8 c] 5)) 25 5 #[.int .u8 99,.int .u8 108,.int .u8 105,.int .u8 101,.int .u8 110,.int .u8 116] 6 6 (w.heap.size+1) (by simp) underlying25 underlying5;go_enter func36,ntmps36
 go_wp2_with fail
 have s0:Sl (w.alloc (.cells #[.int .u8 c] 5)) (.slice (some ⟨w.heap.size,0,none⟩) 1 1) [c]:=Sl.one w c 5 rfl ⟨h0,by omega⟩;have b0:Bw w (w.alloc (.cells #[.int .u8 c] 5)):=(Below.refl _ _).alloc (A' _) _;have s1:=Sl.sixM (w.alloc (.cells #[.int .u8 c] 5)) [99,108,105,101,110,116] 5 (6,7) (g:=w.heap.size+1) (by simp) rfl (by simp);have b1:Bw w ((w.alloc (.cells #[.int .u8 c] 5)).alloc (.cells #[.int .u8 99,.int .u8 108,.int .u8 105,.int .u8 101,.int .u8 110,.int .u8 116] 5 (6,7))):=b0.alloc (by simp) _;have s0':=s0.below ((Below.refl (w.alloc (.cells #[.int .u8 c] 5)).heap.size _).alloc (A' _) (.cells #[.int .u8 99,.int .u8 108,.int .u8 105,.int .u8 101,.int .u8 110,.int .u8 116] 5 (6,7)));refine(QY _ _ _ [c] [99,108,105,101,110,116] [] 32 _ s0' s1 (Sl.nil _ _) (by simp) (by simp) (by simp) (by omega) (ht.below b1)).mono ?_;rintro e w1 ⟨v1,rfl,o1,b2⟩;go_wp2
 go_ret2
 exact⟨v1,rfl,AN o1 b1.size,b1.trans (b2.mono b1.size)⟩
theorem aP(c:Int)(w:World)(h:c<0\/7<c) :
  Calls prog 36 #[.int .i64 c] w λe w'=>e=.returned (.tuple #[.slice none 0 0,.int .i64 2])/\w'=w:=by
 by_cases h0:c<0
 .have d0:decide (c<0)=true:=by simp;omega
  go_enter func36,ntmps36
  go_wp2
  go_ret2
  exact⟨rfl,rfl⟩
 .have d0:decide (c<0)=false:=by simp;omega
  have d1:decide ((7:Int)<c)=true:=by simp;omega
  go_enter func36,ntmps36
  go_wp2
  go_ret2
  exact⟨rfl,rfl⟩
theorem PU(w:World)(ht:AA w) :
  Calls prog 34 #[] w λe w'=>∃ v',e=.returned v'/\w'.ownsRow w.heap.size 5 1 v' FH.length (FH.map (Value.int .u8))/\Bw w w':=by
 have kc:=Go.Joins.run_convert_bytes_const_at (P:=prog) (w.alloc (.cells #[.int .u8 255] 5)) 25 5 #[.int .u8 105,.int .u8 115,.int .u8 115,.int .u8 117,.int .u8 101,.int .u8 114] 6 6 (w.heap.size+1) (by simp) underlying25 underlying5;go_enter func34,ntmps34
 go_wp2_with fail
 have s0:Sl (w.alloc (.cells #[.int .u8 255] 5)) (.slice (some ⟨w.heap.size,0,none⟩) 1 1) [255]:=Sl.one w 255 5 rfl ⟨by omega,by omega⟩;have b0:Bw w (w.alloc (.cells #[.int .u8 255] 5)):=(Below.refl _ _).alloc (A' _) _;have s1:=Sl.sixM (w.alloc (.cells #[.int .u8 255] 5)) [105,115,115,117,101,114] 5 (6,7) (g:=w.heap.size+1) (by simp) rfl (by simp);have b1:Bw w ((w.alloc (.cells #[.int .u8 255] 5)).alloc (.cells #[.int .u8 105,.int .u8 115,.int .u8 115,.int .u8 117,.int .u8 101,.int .u8 114] 5 (6,7))):=b0.alloc (by simp) _;have s0':=s0.below ((Below.refl (w.alloc (.cells #[.int .u8 255] 5)).heap.size _).alloc (A' _) (.cells #[.int .u8 105,.int .u8 115,.int .u8 115,.int .u8 117,.int .u8 101,.int .u8 114] 5 (6,7)));refine(QY _ _ _ [255] [105,115,115,117,101,114] [] 32 _ s0' s1 (Sl.nil _ _) (by simp) (by simp) (by simp) (by omega) (ht.below b1)).mono ?_;rintro e w1 ⟨v1,rfl,o1,b2⟩;go_wp2
 go_ret;exact⟨v1,rfl,AN o1 b1.size,b1.trans (b2.mono b1.size)⟩
theorem Sl.one2H(w:World)(b b':Int)(e:TypeId){g:Nat}(hg:g=w.heap.size)(hb:0<=b/\b<256)(he:b'=b):Sl (w.alloc (.cells #[.int .u8 b'] e)) (.slice (some ⟨g,0,none⟩) 1 1) [b]:=by
 subst he;exact Sl.one w b' e hg hb
theorem NF(a:Option Addr)(n c:Nat):∀ w,(binOp .eql 25 (.slice a n c) (.slice none 0 0)).run prog w=.ok (.bool a.isNone) w :=
 λw=>run_eql_slice_nil (P:=prog) w 25 5 a n c underlying25
theorem Gl{base e:Nat}(h:w.ownsRow base e 1 v n xs)(hk:∀ k,v.ownBlock=some k->w'.heap[k]?=w.heap[k]?):w'.ownsRow base e 1 v n xs:=by
 refine⟨h.1,?_⟩;rcases h.2 with h2|⟨g,cap,cur,hv,hb,hg,hr⟩
 .exact .inl h2
 .exact .inr ⟨g,cap,cur,hv,hb,(hk g (by rw[hv];rfl)).trans hg,hr⟩
theorem H6(v:Value)(l:List Int)(w:World)(h:Sl w v l) :
  Calls prog 77 #[v] w λe w'=>∃ v',e=.returned v'/\w'.ownsRow w.heap.size 5 1 v' l.length (l.map (Value.int .u8))/\Bw w w':=by
 have hs:=h;have hl:=h.len;obtain⟨⟨a,cap,rfl,hc,hn,h1⟩,h2,h3⟩:=h;cases a with
 | none =>
  obtain rfl:=hn rfl;obtain rfl:l=[]:=fw (by omega);have hq:=NF none 0 0;go_enter func77,ntmps77
  go_wp2
  go_ret;exact⟨_,rfl,World.ownsRow_nil _ _ _ _,Below.refl _ _⟩
 | some ad =>
  have ho0:(w.alloc (.cells #[] 5)).ownsRow w.heap.size 5 1 (.slice (some ⟨w.heap.size,0,none⟩) 0 0) ([]:List Int).length (([]:List Int).map (Value.int .u8)):=by
   refine⟨rfl,.inr ⟨w.heap.size,0,#[],rfl,A' _,heap_alloc_new _ _,A' _,fP _,rfl,rfl⟩⟩
  have hq:=NF (some ad) l.length cap;have hs1:=hs.below ((Below.refl w.heap.size w).alloc (A' _) (.cells #[] 5));go_enter func77,ntmps77
  go_wp2_with (at_builtin;refine Aa _ rfl _ _ 25 rfl w.heap.size 5 underlying25 As _ _ rfl rfl [] l ho0 hs1 (by simp;omega) (by simp) ?_)
  intro v' w' ho hg;have hb2:Bw w w':=((Below.refl w.heap.size w).alloc (A' _) (.cells #[] 5)).grown hg (by simp) (λk hk=>(ho0.lt k hk).1);go_wp2
  go_ret;exact⟨v',rfl,by simpa using ho,hb2⟩
theorem PN(n:Int)(w:World)(n0:0<=n)(n1:n<1073741824) :
  Calls prog 116 #[.int .i64 n] w λe w'=>∃ v',e=.returned v'/\w'.ownsRow w.heap.size 5 1 v' (Ag n).length ((Ag n).map (Value.int .u8))/\Bw w w':=by
 go_enter func116,ntmps116
 go_wp2_with fail
 go_loopw [3,4] (λv iv wr=>∃ j:Nat,j<=4/\iv=.int .i64 (3-(j:Int))/\wr.ownsRow w.heap.size 5 1 v ((Ag n).take j).length (((Ag n).take j).map (Value.int .u8))/\Bw w wr) (λ_ iv _=>(intOf iv+1).toNat)
 case atStart=>exact⟨0,by omega,rfl,World.ownsRow_nil _ _ _ _,Below.refl _ _⟩
 case round =>
  obtain⟨j,hj,rfl,hown,hbel⟩:=hrel;have hlt:=hown.lt;have hz:=hbel.size;by_cases hj4:j<4
  .have:j=0\/j=1\/j=2\/j=3:=by omega
   rcases this with rfl|rfl|rfl|rfl
   .rw[show(3:Int)-((0:Nat):Int)=3 from rfl];go_wp2_with (at_builtin;refine Aa _ rfl _ _ 25 rfl w.heap.size 5 underlying25 As _ _ rfl rfl ((Ag n).take 0) [n/16777216%256] (hown.alloc _) (Sl.one2H _ (n/16777216%256) _ _ rfl (by omega) (by omega)) (by simp[Ag]) (by simp;omega) ?_)
    intro v2 w2 ho2 hg2;have hb2:Bw w w2:=(hbel.alloc (by omega) _).grown hg2 (by simp;omega) (λk hk=>(hlt k hk).1);have HO2:Hid (w2.ownsRow w.heap.size 5 1 v2 ((Ag n).take 1).length (((Ag n).take 1).map (Value.int .u8))):=ho2;clear ho2 hg2 hown hlt hbel;go_wp2
    go_roundw
    case rel=>exact⟨1,by omega,rfl,HO2.out,hb2⟩
    case measure=>simp[intOf]
   .rw[show(3:Int)-((1:Nat):Int)=2 from rfl];go_wp2_with (at_builtin;refine Aa _ rfl _ _ 25 rfl w.heap.size 5 underlying25 As _ _ rfl rfl ((Ag n).take 1) [n/65536%256] (hown.alloc _) (Sl.one2H _ (n/65536%256) _ _ rfl (by omega) (by omega)) (by simp[Ag]) (by simp;omega) ?_)
    intro v2 w2 ho2 hg2;have hb2:Bw w w2:=(hbel.alloc (by omega) _).grown hg2 (by simp;omega) (λk hk=>(hlt k hk).1);have HO2:Hid (w2.ownsRow w.heap.size 5 1 v2 ((Ag n).take 2).length (((Ag n).take 2).map (Value.int .u8))):=ho2;clear ho2 hg2 hown hlt hbel;go_wp2
    go_roundw
    case rel=>exact⟨2,by omega,rfl,HO2.out,hb2⟩
    case measure=>simp[intOf]
   .rw[show(3:Int)-((2:Nat):Int)=1 from rfl];go_wp2_with (at_builtin;refine Aa _ rfl _ _ 25 rfl w.heap.size 5 underlying25 As _ _ rfl rfl ((Ag n).take 2) [n/256%256] (hown.alloc _) (Sl.one2H _ (n/256%256) _ _ rfl (by omega) (by omega)) (by simp[Ag]) (by simp;omega) ?_)
    intro v2 w2 ho2 hg2;have hb2:Bw w w2:=(hbel.alloc (by omega) _).grown hg2 (by simp;omega) (λk hk=>(hlt k hk).1);have HO2:Hid (w2.ownsRow w.heap.size 5 1 v2 ((Ag n).take 3).length (((Ag n).take 3).map (Value.int .u8))):=ho2;clear ho2 hg2 hown hlt hbel;go_wp2
    go_roundw
    case rel=>exact⟨3,by omega,rfl,HO2.out,hb2⟩
    case measure=>simp[intOf]
   .rw[show(3:Int)-((3:Nat):Int)=0 from rfl];go_wp2_with (at_builtin;refine Aa _ rfl _ _ 25 rfl w.heap.size 5 underlying25 As _ _ rfl rfl ((Ag n).take 3) [n%256] (hown.alloc _) (Sl.one2H _ (n%256) _ _ rfl (by omega) (by omega)) (by simp[Ag]) (by simp;omega) ?_)
    intro v2 w2 ho2 hg2;have hb2:Bw w w2:=(hbel.alloc (by omega) _).grown hg2 (by simp;omega) (λk hk=>(hlt k hk).1);have HO2:Hid (w2.ownsRow w.heap.size 5 1 v2 ((Ag n).take 4).length (((Ag n).take 4).map (Value.int .u8))):=ho2;clear ho2 hg2 hown hlt hbel;go_wp2
    go_roundw
    case rel=>exact⟨4,by omega,rfl,HO2.out,hb2⟩
    case measure=>simp[intOf]
  .obtain rfl:j=4:=by omega
   rw[show(3:Int)-((4:Nat):Int)=-1 from rfl];have HO:Hid _:=hown;clear hown hlt;go_wp2
   go_ret;exact⟨_,rfl,HO.out,hbel⟩
theorem Ys(x b:Int)(hx:0<=x/\x<36028797018963968)(hb:0<=b/\b<256):bits .or .i64 (x*256) b=x*256+b:=by
 obtain⟨x,rfl⟩:=fO hx.1;obtain⟨y,rfl⟩:=fO hb.1;have e:(x:Int)*256=((x*256:Nat):Int):=by omega
 have key:(BitVec.ofInt 64 ((x*256:Nat):Int) ||| BitVec.ofInt 64 (y:Int)).toNat=x*256+y:=by
  rw[ju,iQ,iQ];have h1:((y:Int)%((2^64:Nat):Int)).toNat=y:=by omega
  have h2:(((x*256:Nat):Int)%((2^64:Nat):Int)).toNat=2^8*x:=by omega
  rw[h1,h2,<- iy (by omega:y<2^8)];omega
 rw[e];show IntKind.i64.wrap ((BitVec.ofInt 64 ((x*256:Nat):Int) ||| BitVec.ofInt 64 (y:Int)).toNat:Nat)=_;rw[key,IntKind.wrap_i64];omega
def Jc(h:List Int):Nat->Int
 | 0=>0
 | k+1=>Jc h k*256+h.getD k 0
theorem Qk{h:List Int}(hb:∀ x∈h,0<=x/\x<256)(k:Nat):0<=Jc h k/\Jc h k<256^k:=by
 induction k with
 | zero=>simp[Jc]
 | succ k ih =>
  have:=Aj hb k;rw[Jc,i8];omega
theorem Sl.spotH{l:List Int}(h:Sl w (.slice a n cap) l)(k:Nat)(hk:k<l.length):∃ bd od,a=some ⟨bd,od,none⟩/\bd<w.heap.size/\w.cell? ⟨bd,od+k,none⟩=some (.int .u8 (l.getD k 0)):=by
 obtain⟨⟨a',cap',e,hc,hn,h1⟩,hla,hba⟩:=h;simp only[Value.slice.injEq]at e;obtain⟨rfl,rfl,rfl⟩:=e;rcases h1 with rfl|⟨b,off,rfl,hb,hcell⟩
 .simp at hk
 .exact⟨b,off,rfl,hb,hcell k hk⟩
theorem M1(v:Value)(l:List Int)(w:World)(h:Sl w v l)(hl:l.length=4) :
  Calls prog 193 #[v] w λe w'=>e=.returned (.int .i64 (E2 l))/\w'=w:=by
 have HN:Hid (Jc l 4=E2 l):=by
  unfold Hid;show((((0:Int)*256+l.getD 0 0)*256+l.getD 1 0)*256+l.getD 2 0)*256+l.getD 3 0=_;unfold E2;omega
 have HB:Hid (∀ x∈l,0<=x/\x<256):=h.byte;have hs:=h;obtain⟨a,c,rfl⟩:=h.shape;rw[hl]at hs ⊢
 go_enter func193,ntmps193
 go_wp2_with fail
 go_loopw [3,8] (λv iv wr=>∃ j:Nat,j<=4/\iv=.int .i64 (j:Int)/\v=.int .i64 (Jc l j)/\wr=w) (λ_ iv _=>(4-intOf iv).toNat)
 case atStart=>exact⟨0,by omega,rfl,rfl,rfl⟩
 case round =>
  obtain⟨j,hj,rfl,rfl,rfl⟩:=hrel;by_cases hj4:j<4
  .have hii:(j:Int)<4:=by omega
   have hx:=Qk HB.out j;have hx2:Jc l j<16777216:=by
    have:(256:Int)^j<=256^3:=by
     rcases(by omega:j=0\/j=1\/j=2\/j=3)with rfl|rfl|rfl|rfl<;>decide
    omega
   have hb:=Aj HB.out j;obtain⟨bd,od,rfl,hbd,hc⟩:=hs.spotH j (by omega);have hor:=Ys (Jc l j) (l.getD j 0) ⟨hx.1,by omega⟩ hb;have HK:Hid (Jc l j*256+l.getD j 0=Jc l (j+1)):=rfl;have hx1:=hx.1;clear hx h hs;generalize Jc l j=X at hx1 hx2 hor HK;generalize l.getD j 0=B at hb hc hor HK;go_wp2
   go_roundw
   case rel=>exact⟨j+1,by omega,by go_num,by rw[<- HK.out],trivial⟩
   case measure=>simp[intOf];omega
  .obtain rfl:j=4:=by omega
   rw[show((4:Nat):Int)=4 from rfl,HN.out];go_wp2
   go_ret;exact⟨rfl,rfl⟩
def KO:Array Value:=(List.replicate 12 (Value.int .u8 0)).toArray
theorem dA(w:World):(Instr.makeSlice 25 (.int .i64 8) (.int .i64 12)).run prog w=.ok (.slice (some ⟨w.heap.size,0,none⟩) 8 12) (w.alloc (.cells KO 5)):=by
 obtain⟨i,hi,hz,hsz,hby⟩:=info_parts As;rw[run_makeSlice (P:=prog) w 25 5 i (.int .u8 0) underlying25 hi hz .i64 .i64 8 12 (by omega) (by omega) (by rw[hsz];decide) (by rw[hby];decide) (by omega),hsz];have e:madeCells (Value.int .u8 0).cells ((12:Int).toNat*1)=KO:=by kernel_rfl
 rw[e];rfl
theorem I8(v:Value)(l:List Int)(w:World)(h:Sl w v l)(hl:l.length=4) :
  Calls prog 118 #[v] w λe w'=>∃ v',e=.returned v'/\Sl w' v' (Bb l)/\Bw w w':=by
 have HB:Hid (∀ x∈Bb l,0<=x/\x<256):=Oj h.byte;have HL:Hid ((Bb l).length=12):=FR hl;have hmk:=dA w;have ho0:(w.alloc (.cells KO 5)).ownsRow w.heap.size 5 1 (.slice (some ⟨w.heap.size,0,none⟩) 8 12) (List.replicate 8 (0:Int)).length ((List.replicate 8 (0:Int)).map (Value.int .u8)) :=
  ⟨rfl,.inr ⟨w.heap.size,12,KO,rfl,A' _,heap_alloc_new _ _,by decide,by simp[maxLen],rfl,rfl⟩⟩
 have b0:Bw w (w.alloc (.cells KO 5)):=(Below.refl w.heap.size w).alloc (A' _) _;have hs1:=h.below b0;have hz:w.heap.size<=(w.alloc (.cells KO 5)).heap.size:=b0.size;generalize w.alloc (.cells KO 5)=W at hmk ho0 b0 hs1 hz;go_enter func118,ntmps118
 go_wp2_with (at_builtin;refine Aa _ rfl _ _ 25 rfl w.heap.size 5 underlying25 As _ _ rfl rfl (List.replicate 8 0) l ho0 hs1 (by simp;omega) hz ?_)
 intro v' w' ho hg;have hb2:Bw w w':=b0.grown hg hz (λk hk=>(ho0.lt k hk).1);have HO:Hid (w'.ownsRow w.heap.size 5 1 v' (Bb l).length ((Bb l).map (Value.int .u8))):=by
  unfold Hid;rw[HL.out];exact ho
 clear ho hg ho0 hs1 hmk;go_wp2
 go_ret;exact⟨v',rfl,Sl.ofOwns HO.out (by rw[HL.out];omega) HB.out,hb2⟩
theorem Sl.first{l:List Int}(h:Sl w (.slice a n cap) l)(m:Nat)(hm:m<=l.length)(h0:0<m):Sl w (.slice (a.map (·.add 0)) m m) (l.take m):=by
 obtain⟨⟨a',cap',e,hc,hn,h1⟩,hla,hba⟩:=h;simp only[Value.slice.injEq]at e;obtain⟨rfl,rfl,rfl⟩:=e;have hl:(l.take m).length=m:=by rw[fx];omega
 rcases h1 with rfl|⟨b,off,rfl,hb,hcell⟩
 .simp at hm;omega
 .have hadd:(⟨b,off,none⟩:Addr).add 0=⟨b,off,none⟩:=by unfold Addr.add;simp
  refine⟨⟨some ⟨b,off,none⟩,m,by rw[hl,gb,hadd],by omega,by simp,.inr ⟨b,off,rfl,hb,λi hi=>?_⟩⟩,by omega,λx hx=>hba x (fK hx)⟩;rw[hcell i (by omega),AL (by omega),AL hi];simp
theorem U9(a:Option Addr)(n cap:Nat)(hc:4<=cap):∀ W,(Instr.slice 25 (.slice a n cap) none (some (.int .i64 4)) (some (.int .i64 4))).run prog W=.ok (.slice (a.map (·.add 0)) 4 4) W:=by
 intro W;rw[run_slice_hm (P:=prog) W 25 a n cap underlying25 .i64 .i64 4 4 (by omega) (by omega) (by omega)];have e:prog.elem 25=5:=by kernel_rfl
 rw[e,Gu];simp[Result.andThen,sliced]
theorem X3(v:Value)(l:List Int)(w:World)(h:Sl w v l)(hl:4<=l.length) :
  Calls prog 192 #[v] w λe w'=>∃ va vb,e=.returned (.tuple #[va,vb])/\Sl w' va (l.take 4)/\Sl w' vb (l.drop 4)/\Bw w w':=by
 obtain⟨a,c,rfl⟩:=h.shape;have hc:l.length<=c:=by
  obtain⟨⟨a',cap',e,hc,_⟩,_⟩:=h;simp only[Value.slice.injEq]at e;omega
 obtain⟨a2,c2,r2',s2⟩:=h.from 4 hl;have r2:∀ W,(Instr.slice 25 (.slice a l.length c) (some (.int .i64 4)) none none).run prog W=.ok (.slice a2 (l.length-4) c2) W:=r2';have r1:=U9 a l.length c (by omega);have s1:=h.first 4 hl (by omega);clear r2';generalize l.length-4=n2 at r2 s2;generalize a.map (·.add 0)=a1 at r1 s1;go_enter func192,ntmps192
 go_wp2_with fail
 go_quiet (fail)
 have e1:Bw w (w.drewN nq):=An (Below.refl _ _) nq;generalize w.drewN nq=w1 at e1 ⊢;go_wp2
 go_ret2
 exact⟨_,_,rfl,s1.below e1,s2.below e1,e1⟩
theorem I1(n:Int)(w:World) :
  Calls prog 145 #[.int .i64 n] w λe w'=>e=.returned (.bool (decide (0<=n/\n<=1073741824)))/\w'=w:=by
 by_cases h0:0<=n
 .by_cases h1:n<=1073741824
  .rw[I' ⟨h0,h1⟩];go_enter func145,ntmps145
   go_wp2
   go_ret;exact⟨Ac (by simp),rfl⟩
  .rw[D' (by omega)];go_enter func145,ntmps145
   go_wp2
   go_ret;exact⟨Ac (by simp),rfl⟩
 .rw[D' (by omega)];go_enter func145,ntmps145
  go_wp2
  go_ret;exact⟨Ac (by simp),rfl⟩
theorem bi{key:List Int}(h1:key.length=32)(h2:0<=s/\s<=1073741824)(h3:0<=t/\t<=1073741824)(h4:Qe t l=true):OkC key s t l :=
 ⟨h1,h2.1,h2.2,h3.1,h3.2,((Fd t l).1 h4).1,((Fd t l).1 h4).2⟩
theorem Hx{key:List Int}(h:OkC key s t l):DO key s t l=0:=if_pos h
theorem Di{key:List Int}(h:¬ OkC key s t l):DO key s t l=5:=if_neg h
theorem F1(vk:Value)(key:List Int)(s t:Int)(l:List Bool)(w:World)(hk:Sl w vk key)(hl:l.length=8) :
  Calls prog 115 #[.agg (chA vk s t l)] w λe w'=>e=.returned (.int .i64 (DO key s t l))/\Bw w w':=by
 obtain⟨ak,ck,rfl⟩:=hk.shape;have hkl:=hk.len;have bb:Bw w (w.alloc (.cells (chA (.slice ak key.length ck) s t l) 109)):=(Below.refl _ _).alloc (A' _) _;obtain⟨b0,b1,b2,b3,b4,b5,b6,b7,rfl⟩:=FP l hl;by_cases h1:key.length=32
 .have HK:Hid (key.length=32):=h1;obtain⟨E,hE⟩:∃ E,DO key s t [b0,b1,b2,b3,b4,b5,b6,b7]=E:=⟨_,rfl⟩;have HE:Hid (DO key s t [b0,b1,b2,b3,b4,b5,b6,b7]=E):=hE;rw[hE];clear hE;have bb0:=bb;simp only[chA,List.map]at bb ⊢;rw[h1]at bb bb0 hk ⊢
  have rr:=heap_alloc_new w (.cells (chA (.slice ak 32 ck) s t [b0,b1,b2,b3,b4,b5,b6,b7]) 109);clear h1;go_enter func115,ntmps115
  go_wp2_with fail
  refine(I1 s _).mono ?_;rintro e w1 ⟨rfl,rfl⟩;by_cases h2:0<=s/\s<=1073741824
  .rw[I' h2];go_wp2_with fail
   refine(I1 t _).mono ?_;rintro e w1 ⟨rfl,rfl⟩;by_cases h3:0<=t/\t<=1073741824
   .rw[I' h3];go_wp2_with fail
    refine(EG (.slice ak 32 ck) s t [b0,b1,b2,b3,b4,b5,b6,b7] _ rfl).mono ?_;rintro e w2 ⟨rfl,c2⟩;have d2:Bw w w2:=bb0.trans (c2.mono (by simp));go_wp2_with fail
    refine(SR t [b0,b1,b2,b3,b4,b5,b6,b7] w2 rfl h3.1 h3.2).mono ?_;rintro e w3 ⟨rfl,c3⟩;have d3:Bw w w3:=d2.trans (c3.mono d2.size);cases h4:Qe t [b0,b1,b2,b3,b4,b5,b6,b7]with
    | true =>
     have H5:Hid (0=E):=HE.out▸(Hx (bi HK.out h2 h3 h4)).symm;go_wp2
     go_ret;exact⟨Az H5.out,d3⟩
    | false =>
     have H5:Hid (5=E):=HE.out▸(Di (λh=>by
      have:=(Fd t [b0,b1,b2,b3,b4,b5,b6,b7]).2 ⟨h.low,h.top⟩;rw[h4]at this
      cases this)).symm
     go_wp2
     go_ret;exact⟨Az H5.out,d3⟩
   .rw[D' h3];have H5:Hid (5=E):=HE.out▸(Di (λh=>h3 ⟨h.t0,h.t1⟩)).symm;go_wp2
    go_ret;exact⟨Az H5.out,bb⟩
  .rw[D' h2];have H5:Hid (5=E):=HE.out▸(Di (λh=>h2 ⟨h.s0,h.s1⟩)).symm;go_wp2
   go_ret;exact⟨Az H5.out,bb⟩
 .have HE:Hid (DO key s t [b0,b1,b2,b3,b4,b5,b6,b7]=5):=Di λh=>h1 h.key;have h1':¬ (key.length:Int)=32:=by omega
  simp only[chA,List.map]at bb ⊢;go_enter func115,ntmps115
  go_wp2
  go_ret;exact⟨Az HE.out.symm,bb⟩
theorem DN(hl:l.length=8):(prog.info? 109).map (·.size)=some (chA k s t l).size:=by rw[EU,hl];kernel_rfl
theorem Jq{key:List Int}(hk:Sl w k key)(s t:Int)(l:List Bool):(chA k s t l).all (·.oneCell')=true:=by
 obtain⟨a,c,rfl⟩:=hk.shape;simp[chA,Value.oneCell']
theorem Ym(vk:Value)(key:List Int)(w:World)(hk:Sl w vk key) :
  Calls prog 155 #[vk] w λe w'=>∃ v',e=.returned (.tuple #[.agg (chA v' 0 0 noB),.int .i64 (if key.length=32 then 0 else 1)])/\w'.ownsRow 0 5 1 v' (if key.length=32 then key else[]).length ((if key.length=32 then key else[]).map (Value.int .u8))/\Bw w w':=by
 obtain⟨ak,ck,rfl⟩:=hk.shape;have hkl:=hk.len;by_cases h1:key.length=32
 .rw[if_pos h1,if_pos h1];rw[h1]at hk ⊢
  have bb:Bw w (w.alloc (.cells (chA (.slice none 0 0) 0 0 noB) 109)):=(Below.refl _ _).alloc (A' _) _;have rr:=heap_alloc_new w (.cells (chA (.slice none 0 0) 0 0 noB) 109);have hz:(w.alloc (.cells (chA (.slice none 0 0) 0 0 noB) 109)).heap.size=w.heap.size+1:=by simp
  go_enter func155,ntmps155
  go_wp2_with fail
  refine(H6 _ key _ (hk.below bb)).mono ?_;rintro e w1 ⟨v1,rfl,o1,c1⟩;rw[hz]at o1
  have s1:=Sl.ofOwns o1 hk.len hk.byte;have r1:=(c1.block w.heap.size (by rw[hz];omega)).trans rr;have d1:Bw w w1:=bb.trans (c1.mono (by rw[hz];omega));have hi:=DN (k:=v1) (s:=0) (t:=0) Gg;have ho:=Jq s1 0 0 noB;clear c1 rr bb hz;have hold:(chA (.slice none 0 0) 0 0 noB).size=(chA v1 0 0 noB).size:=by rw[EU,EU]
  obtain⟨a1,c1,hv1⟩:=s1.shape;rw[h1]at hv1
  subst hv1;go_wp2_with (refine wpList_store_row rfl 109 (.tmp 2) (.tmp 10) rfl w.heap.size (chA (.slice a1 32 c1) 0 0 noB) rfl rfl 109 _ r1 hi hold ho ?_)
  have r2:=setRow_heap w1 w.heap.size _ (chA (.slice a1 32 c1) 0 0 noB) 109 _ r1;have d3:Bw w (w1.setRow w.heap.size (chA (.slice a1 32 c1) 0 0 noB)):=below_setRow d1 (A' _) _;have s2:(w1.setRow w.heap.size (chA (.slice a1 32 c1) 0 0 noB)).ownsRow 0 5 1 (.slice a1 32 c1) key.length (key.map (Value.int .u8)) :=
   AN (Gl o1 λk hk'=>setRow_other _ _ _ _ (by have:=(o1.lt k hk').1;omega)) (fP _)
  exact bodyPost_ret (Ha rfl _ _ w.heap.size 109 _ (0,0) _ rfl r2 underlying109 rfl hi) rfl ⟨.slice a1 32 c1,rfl,h1▸s2,d3⟩
 .rw[if_neg h1,if_neg h1];have h1':¬ (key.length:Int)=32:=by omega
  go_enter func155,ntmps155
  go_wp2
  exact bodyPost_ret (Ha rfl _ _ w.heap.size 109 (chA (.slice none 0 0) 0 0 noB) (0,0) _ rfl (heap_alloc_new _ _) underlying109 rfl (DN Gg)) rfl ⟨.slice none 0 0,rfl,World.ownsRow_nil _ _ _ _,(Below.refl _ _).alloc (A' _) _⟩
structure Bx(w W:World)(k:Value)(s t:Int)(l:List Bool):Prop where
 row:W.heap[w.heap.size]?=some (.cells (chA k s t l) 109 (0,0))
 bel:Bw w W
theorem Bx.new(w:World)(k:Value)(s t:Int)(l:List Bool):Bx w (w.alloc (.cells (chA k s t l) 109)) k s t l:=⟨heap_alloc_new _ _,(Below.refl _ _).alloc (A' _) _⟩
theorem Bx.lt(h:Bx w W k s t l):w.heap.size<W.heap.size:=(G'.1 h.row).1
theorem Bx.step(h:Bx w W k s t l)(hb:Bw W W'):Bx w W' k s t l :=
 ⟨(hb.block _ h.lt).trans h.row,h.bel.trans (hb.mono h.bel.size)⟩
theorem Bx.c0(h:Bx w W k s t l):W.cell? ⟨w.heap.size,0,none⟩=some k:=(cell_of_row _ _ 0 _ _ _ h.row).trans (Re k s t l)
theorem Bx.c1(h:Bx w W k s t l):W.cell? ⟨w.heap.size,1,none⟩=some (.int .i64 s):=(cell_of_row _ _ 1 _ _ _ h.row).trans (Nk k s t l)
def Fp(key:List Int)(s t:Int)(l:List Bool)(p:List Int):List Int:=if Dy key s t l p=0 then Jd key s p else[]
theorem Wu(vk:Value)(key:List Int)(s t:Int)(l:List Bool)(vp:Value)(p:List Int)(w:World)(hk:Sl w vk key)(hl:l.length=8)(hp:Sl w vp p)(ht:Cf w) :
  Calls prog 76 #[.agg (chA vk s t l),vp] w λe w'=>∃ v',e=.returned (.tuple #[v',.int .i64 (Dy key s t l p)])/\w'.ownsRow 0 5 1 v' (Fp key s t l p).length ((Fp key s t l p).map (Value.int .u8))/\Bw w w':=by
 have hpos:=ht.pos;have bx:=Bx.new w vk s t l;obtain⟨ap,cp,rfl⟩:=hp.shape;have hpl:=hp.len;have hi:=DN (k:=vk) (s:=s) (t:=t) hl;by_cases hok:OkC key s t l
 .have HC:Hid (DO key s t l=0):=Hx hok;go_enter func76,ntmps76
  go_wp2_with (refine wpList_load_row rfl 109 _ rfl w.heap.size rfl 109 _ (0,0) _ bx.row underlying109 rfl hi ?_)
  refine(F1 vk key s t l _ (hk.below bx.bel) hl).mono ?_;rintro e w1 ⟨rfl,b1⟩;replace bx:=bx.step b1;rw[HC.out];clear b1;by_cases h2:2000<p.length
  .have HE:Hid (Dy key s t l p=1):=by unfold Hid Dy;rw[if_neg (λh=>h hok),if_pos h2]
   have HR:Hid (Fp key s t l p=[]):=by unfold Hid Fp;rw[HE.out];rfl
   have h2':(2000:Int)<(p.length:Int):=by omega
   go_wp2
   go_ret2
   exact⟨.slice none 0 0,by rw[HE.out];rfl,by rw[HR.out];exact World.ownsRow_nil _ _ _ _,bx.bel⟩
  .have h2':¬ (2000:Int)<(p.length:Int):=by omega
   have c1:=bx.c1;by_cases h3:s=1073741824
   .have HE:Hid (Dy key s t l p=8):=by unfold Hid Dy;rw[if_neg (λh=>h hok),if_neg h2,if_pos h3]
    have HR:Hid (Fp key s t l p=[]):=by unfold Hid Fp;rw[HE.out];rfl
    go_wp2
    go_ret2
    exact⟨.slice none 0 0,by rw[HE.out];rfl,by rw[HR.out];exact World.ownsRow_nil _ _ _ _,bx.bel⟩
   .have HE:Hid (Dy key s t l p=0):=by unfold Hid Dy;rw[if_neg (λh=>h hok),if_neg h2,if_neg h3]
    have HR:Hid (Fp key s t l p=Jd key s p):=by unfold Hid Fp;rw[HE.out];rfl
    have s0:=hok.s0;have s1:s<1073741824:=by have:=hok.s1;omega
    have HKL:Hid (key.length=32):=hok.key;go_wp2_with fail
    have bel1:=bx.bel;refine(PN s w1 s0 s1).mono ?_;rintro e w2 ⟨vh,rfl,oh,b2⟩;replace bx:=bx.step b2;clear c1;have c0:=bx.c0;have sh:Sl w2 vh (Ag s):=Sl.ofOwns oh (by rw[BQ];omega) (AM s);have hk2:=hk.below bx.bel;have hp2:=hp.below bx.bel;have ht2:=ht.below hpos bx.bel;have hpos2:4<w2.heap.size:=by have:=bx.lt;omega
    have HX:Hid (Jd key s p=Ag s++IJ key (Bb (Ag s)) (Ag s) p):=rfl;have hhl:=BQ s;have HF:Hid (FG key (Bb (Ag s)) (Ag s)=true):=XF hok.key (FR rfl) (by rw[BQ];omega);have h2n:p.length<=2000:=by omega
    have bel2:=bx.bel;generalize Ag s=H at HX hhl HF sh oh;have hd:Bw w2 w2.drew:=(Below.refl _ _).drew;have hlt:=oh.lt;have hzz:w.heap.size<w2.drew.heap.size:=bx.lt;clear hk hp ht hok;go_wp2_with fail
    go_region_with (first
     | (go_at_call 118;refine(I8 _ H _ (sh.below hd) hhl).mono ?_;rintro e w3 ⟨vn,rfl,sn,b3⟩;have c3:=(b3.cell (p:=⟨w.heap.size,0,none⟩) hzz).trans c0)
     | (go_at_call 117;refine(YH vk vn _ _ key (Bb H) H p _ ((hk2.below hd).below b3) sn ((sh.below hd).below b3) ((hp2.below hd).below b3) HF.out h2n ((ht2.below hpos2 hd).below hpos2 b3)).mono ?_;rintro e w4 ⟨vx,rfl,sx,b4⟩))
    all_goals
     have o4:=E4 (E4 oh.drew b3) b4;have hl4:=o4.lt;have d3:Bw w w3:=bel2.trans ((hd.trans b3).mono bel2.size);have d4:Bw w w4:=d3.trans (b4.mono d3.size);have hz4:w1.heap.size<=w4.heap.size:=fy b2.size (fy hd.size (fy b3.size b4.size));have hz1:w.heap.size<=w1.heap.size:=bel1.size;have hxl:=Hc key (Bb H) H p;clear bx oh sh hk2 hp2 ht2 hd c0 c3 sn b3 b4 hzz b2 bel2;generalize IJ key (Bb H) H p=X at HX hxl sx;go_wp2_with (at_builtin;refine Aa _ rfl _ _ 25 rfl w1.heap.size 5 underlying25 As _ _ rfl rfl H X o4 sx (by omega) hz4 ?_)
     intro v5 w5 ho5 hg5;have b5:Bw w w5:=d4.grown hg5 (by omega) (λk hk=>fy hz1 (hl4 k hk).1);have HO5:Hid (w5.ownsRow w1.heap.size 5 1 v5 (H++X).length ((H++X).map (Value.int .u8))):=by
      unfold Hid;simpa[hhl,hxl]using ho5
     clear ho5 hg5 o4;go_wp2
     go_ret2
     refine⟨v5,by rw[HE.out];rfl,?_,b5⟩;rw[HR.out,HX.out];exact AN HO5.out (fP _)
 .have HC:Hid (DO key s t l=5):=Di hok;have HE:Hid (Dy key s t l p=5):=if_pos hok;have HR:Hid (Fp key s t l p=[]):=by unfold Hid Fp;rw[HE.out];rfl
  go_enter func76,ntmps76
  go_wp2_with (refine wpList_load_row rfl 109 _ rfl w.heap.size rfl 109 _ (0,0) _ bx.row underlying109 rfl hi ?_)
  refine(F1 vk key s t l _ (hk.below bx.bel) hl).mono ?_;rintro e w1 ⟨rfl,b1⟩;replace bx:=bx.step b1;rw[HC.out];go_wp2
  go_ret2
  exact⟨.slice none 0 0,by rw[HE.out];rfl,by rw[HR.out];exact World.ownsRow_nil _ _ _ _,bx.bel⟩
theorem Ps(k k':Value)(s t:Int)(l:List Bool):(chA k s t l).setIfInBounds 0 k'=chA k' s t l:=by apply il;simp[chA]
theorem Nm(k:Value)(s s' t:Int)(l:List Bool):(chA k s t l).setIfInBounds 1 (.int .i64 s')=chA k s' t l:=by apply il;simp[chA]
theorem Pt(k:Value)(s t t':Int)(l:List Bool):(chA k s t l).setIfInBounds 2 (.int .i64 t')=chA k s t' l:=by apply il;simp[chA]
structure By(w W:World)(k:Value)(s t:Int)(l:List Bool):Prop where
 row:W.heap[w.heap.size]?=some (.cells (chA k s t l) 109 (0,0))
 res:W.heap[w.heap.size+1]?=some (.cells (chA (.slice none 0 0) 0 0 noB) 109 (0,0))
 bel:Bw w W
theorem By.new(w:World)(k:Value)(s t:Int)(l:List Bool):By w ((w.alloc (.cells (chA k s t l) 109)).alloc (.cells (chA (.slice none 0 0) 0 0 noB) 109)) k s t l :=
 ⟨heap_alloc2_old _ _ _,heap_alloc2_new _ _ _,((Below.refl _ _).alloc (A' _) _).alloc (by simp) _⟩
theorem By.lt(h:By w W k s t l):w.heap.size+1<W.heap.size:=(G'.1 h.res).1
theorem By.step(h:By w W k s t l)(hb:Bw W W'):By w W' k s t l :=
 ⟨(hb.block _ (by have:=h.lt;omega)).trans h.row,(hb.block _ h.lt).trans h.res,h.bel.trans (hb.mono h.bel.size)⟩
theorem By.c0(h:By w W k s t l):W.cell? ⟨w.heap.size,0,none⟩=some k:=(cell_of_row _ _ 0 _ _ _ h.row).trans (Re k s t l)
theorem By.c1(h:By w W k s t l):W.cell? ⟨w.heap.size,1,none⟩=some (.int .i64 s):=(cell_of_row _ _ 1 _ _ _ h.row).trans (Nk k s t l)
theorem By.fr(h:By w W k s t l)(i:Nat):W.frozen? ⟨w.heap.size,i,none⟩=false:=frozen_of_row _ _ i _ _ h.row
theorem By.key(h:By w W k s t l)(k':Value):By w (W.setCell ⟨w.heap.size,0,none⟩ k') k' s t l :=
 ⟨by rw[heap_setCell_same _ _ _ _ _ _ h.row,Ps],(heap_setCell_other _ _ _ _ (by simp)).trans h.res,h.bel.setCell (p:=⟨w.heap.size,0,none⟩) (by simp) _⟩
theorem By.sent(h:By w W k s t l)(s':Int):By w (W.setCell ⟨w.heap.size,1,none⟩ (.int .i64 s')) k s' t l :=
 ⟨by rw[heap_setCell_same _ _ _ _ _ _ h.row,Nm],(heap_setCell_other _ _ _ _ (by simp)).trans h.res,h.bel.setCell (p:=⟨w.heap.size,1,none⟩) (by simp) _⟩
theorem Sl.keepBut{l:List Int}(h:Sl w v l)(B:Nat)(hn:∀ i x,w.cell? ⟨B,i,none⟩≠some (.int .u8 x))(hz:w.heap.size<=w'.heap.size)(hk:∀ k,k≠B->w'.heap[k]?=w.heap[k]?):Sl w' v l:=by
 obtain⟨⟨a,cap,rfl,hc,hnn,h1⟩,h2,h3⟩:=h;refine⟨⟨a,cap,rfl,hc,hnn,?_⟩,h2,h3⟩;rcases h1 with h1|⟨b,off,ha,hbs,hcell⟩
 .exact .inl h1
 .refine .inr ⟨b,off,ha,Z' hbs hz,λi hi=>?_⟩;have hb:b≠B:=by
   rintro rfl;exact hn _ _ (hcell i hi)
  rw[<- hcell i hi];exact World.cell?_of_block (w:=w) (hk b hb)
theorem JA{fr:Nat × Nat}(h:W.heap[B]?=some (.cells (chA (.slice a n c) s t l) ty fr)):∀ i x,W.cell? ⟨B,i,none⟩≠some (.int .u8 x):=by
 intro i x hc;rw[cell_of_row _ _ i _ _ _ h]at hc
 have hm:=Array.mem_of_getElem? hc;simp[chA]at hm
theorem Sl.setBox(h:Sl W v p){fr:Nat × Nat}(hr:W.heap[B]?=some (.cells (chA (.slice a n c) s t l) ty fr))(i:Nat)(u:Value):Sl (W.setCell ⟨B,i,none⟩ u) v p :=
 h.keepBut B (JA hr) (by simp[World.setCell]) λk hk=>heap_setCell_other _ _ _ _ (by simpa using hk)
theorem Sl.setRowBox(h:Sl W v p){fr:Nat × Nat}(hr:W.heap[B]?=some (.cells (chA (.slice a n c) s t l) ty fr))(cs:Array Value):Sl (W.setRow B cs) v p :=
 h.keepBut B (JA hr) (by simp[World.setRow]) λk hk=>setRow_other _ _ _ _ hk
theorem Kk(h:W.ownsRow 0 5 1 v n xs){fr:Nat × Nat}(hr:W.heap[B]?=some (.cells A ty fr))(hty:ty≠5):∀ k,v.ownBlock=some k->k≠B:=by
 intro k hk hkB;subst hkB;rcases h.2 with⟨rfl,_⟩|⟨g,cap,cur,rfl,_,hg,_⟩
 .simp[Value.ownBlock]at hk
 .simp only[Value.ownBlock,U']at hk;subst hk;rw[hg]at hr
  simp only[U',Obj.cells.injEq]at hr;exact hty hr.2.1.symm
theorem AF(h:W.ownsRow 0 5 1 v n xs){fr:Nat × Nat}(hr:W.heap[B]?=some (.cells A ty fr))(hty:ty≠5)(i:Nat)(u:Value):(W.setCell ⟨B,i,none⟩ u).ownsRow 0 5 1 v n xs :=
 Gl h λk hk=>heap_setCell_other _ _ _ _ (by simpa using Kk h hr hty k hk)
theorem DR(h:W.ownsRow 0 5 1 v n xs){fr:Nat × Nat}(hr:W.heap[B]?=some (.cells A ty fr))(hty:ty≠5)(cs:Array Value):(W.setRow B cs).ownsRow 0 5 1 v n xs :=
 Gl h λk hk=>setRow_other _ _ _ _ (Kk h hr hty k hk)
theorem Wo{key:List Int}(h:Dy key s t l p=0):OkC key s t l/\p.length<=2000/\s<1073741824:=by
 unfold Dy at h;by_cases h1:OkC key s t l
 .rw[if_neg (λh=>h h1)]at h
  by_cases h2:2000<p.length
  .rw[if_pos h2]at h;omega
  .rw[if_neg h2]at h
   by_cases h3:s=1073741824
   .rw[if_pos h3]at h;omega
   .exact⟨h1,by omega,by have:=h1.s1;omega⟩
 .rw[if_pos h1]at h;omega
theorem YJ(vk:Value)(key:List Int)(s t:Int)(l:List Bool)(vp:Value)(p:List Int)(w:World)(hk:Sl w vk key)(hl:l.length=8)(hp:Sl w vp p)(ht:Cf w)(hE:Dy key s t l p=0) :
  Calls prog 37 #[.agg (chA vk s t l),vp] w λe w'=>∃ v1,∃ v2,e=.returned (.tuple #[.agg (chA v1 (s+1) t l),v2,.int .i64 0])/\Sl w' v1 key/\w'.ownsRow 0 5 1 v1 key.length (key.map (Value.int .u8))/\w'.ownsRow 0 5 1 v2 (Jd key s p).length ((Jd key s p).map (Value.int .u8))/\Bw w w':=by
 have hpos:=ht.pos;have bx:=By.new w vk s t l;have hi:=DN (k:=vk) (s:=s) (t:=t) hl;obtain⟨hok,_,s1⟩:=Wo hE;have s0:=hok.s0;have HE:Hid (Dy key s t l p=0):=hE;have HR:Hid (Fp key s t l p=Jd key s p):=if_pos hE;obtain⟨ak,ck,rfl⟩:=hk.shape;have HKL:Hid (key.length=32):=hok.key;generalize hnk:key.length=nk at hk hi bx ⊢;have HNK:Hid (key.length=nk):=hnk;clear hnk;go_enter func37,ntmps37
 clear hE hok;go_wp2_with (refine wpList_load_row rfl 109 _ rfl w.heap.size rfl 109 _ (0,0) _ bx.row underlying109 rfl hi ?_)
 refine(Wu _ key s t l vp p _ (hk.below bx.bel) hl (hp.below bx.bel) (ht.below hpos bx.bel)).mono ?_;rintro e w1 ⟨v2,rfl,s2,b1⟩;rw[HE.out];rw[HR.out]at s2
 replace bx:=bx.step b1;have c0:=bx.c0;clear b1;go_wp2_with fail
 refine(H6 _ key w1 (hk.below bx.bel)).mono ?_;rintro e w2 ⟨v1,rfl,o1,b2⟩;have hz1:=bx.lt;replace bx:=bx.step b2;replace s2:=E4 s2 b2;have sk:=Sl.ofOwns o1 hk.len hk.byte;replace o1:=AN o1 (fP _);clear b2 c0;obtain⟨a1,c1,hv1⟩:=sk.shape;generalize hn1:key.length=n1 at hv1 o1;have HN:Hid (key.length=n1):=hn1;clear hn1;subst hv1;have c0:=bx.c0;have f0:=bx.fr 0
 go_upto_region 5 with fail
 replace s2:=AF s2 bx.row (by decide) 0 (.slice a1 n1 c1);replace o1:=AF o1 bx.row (by decide) 0 (.slice a1 n1 c1);replace sk:=sk.setBox bx.row 0 (.slice a1 n1 c1);replace bx:=bx.key (.slice a1 n1 c1);generalize w2.setCell ⟨w.heap.size,0,none⟩ (.slice a1 n1 c1)=w3 at s2 sk o1 bx ⊢;clear c0 f0;have c1':=bx.c1;have f1:=bx.fr 1
 go_upto_region 6 with fail
 replace s2:=AF s2 bx.row (by decide) 1 (.int .i64 (s+1));replace o1:=AF o1 bx.row (by decide) 1 (.int .i64 (s+1));replace sk:=sk.setBox bx.row 1 (.int .i64 (s+1));replace bx:=bx.sent (s+1);generalize w3.setCell ⟨w.heap.size,1,none⟩ (.int .i64 (s+1))=w4 at s2 sk o1 bx ⊢;clear c1' f1;have hi4:=DN (k:=.slice a1 n1 c1) (s:=s+1) (t:=t) hl;have ho4:=Jq sk (s+1) t l;have hold:(chA (.slice none 0 0) 0 0 noB).size=(chA (.slice a1 n1 c1) (s+1) t l).size:=by rw[EU,EU,hl];rfl
 go_wp2_with (first
  | (refine wpList_load_row rfl 109 _ rfl w.heap.size rfl 109 _ (0,0) _ bx.row underlying109 rfl hi4 ?_)
  | (refine wpList_store_row rfl 109 _ _ rfl (w.heap.size+1) _ rfl rfl 109 _ bx.res hi4 hold ho4 ?_))
 have r2:=setRow_heap w4 (w.heap.size+1) _ (chA (.slice a1 n1 c1) (s+1) t l) 109 _ bx.res;exact bodyPost_ret (E9 rfl _ _ (w.heap.size+1) 109 _ (0,0) _ rfl r2 underlying109 rfl hi4) rfl ⟨.slice a1 n1 c1,v2,rfl,sk.setRowBox bx.res _,by rw[<- HNK.out,HN.out];exact DR o1 bx.res (by decide) _,DR s2 bx.res (by decide) _,below_setRow bx.bel (by omega) _⟩
end
end
end Go.Proofs.YtalbmmghmoggcabGreatDoor
