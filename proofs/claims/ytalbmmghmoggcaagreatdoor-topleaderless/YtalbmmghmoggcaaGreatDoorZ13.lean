/- Part 13 of the walk. -/
import Derived.Lib.LazyBuf
import Derived.Test.YtalbmmghmoggcaaGreatDoorZ12
set_option maxRecDepth 100000
set_option maxHeartbeats 4000000
open Go.Proofs.Tryz
set_option linter.unusedVariables false
namespace Go.Proofs.YtalbmmghmoggcaaGreatDoor
section
def pick(n many:Int):Int:=if n<0 then(-(n+1))%many else n%many
theorem Bb(n many:Int)(hm:0<many):0<=pick n many/\pick n many<many:=by
 unfold pick;split
 .exact⟨Int.emod_nonneg _ (by omega),Int.emod_lt_of_pos _ hm⟩
 .exact⟨Int.emod_nonneg _ (by omega),Int.emod_lt_of_pos _ hm⟩
def wK(a:Int):Int:=1+pick a 5/2
def wV(a e:Int):Int:=if wK a=1 then pick e 1000 else 0
theorem Xr(a:Int):1<=wK a/\wK a<=3:=by
 have:=Bb a 5 (by omega);unfold wK;omega
theorem Xt(a e:Int):0<=wV a e/\wV a e<=1000:=by
 have:=Bb e 1000 (by omega);unfold wV;split<;>omega
theorem Zz(a d e:Int)(c' s':Int)(hc:0<=c'/\c'<=7)(hs:0<=s'/\s'<=1048576):AT (wK a) c' s' (pick d 4) (wV a e)=0:=by
 have h1:=Xr a;have h2:=Bb d 4 (by omega);have h3:=Xt a e;refine Rt h1 (by unfold InC;omega) ?_;unfold wV;split
 .exact .inl (by assumption)
 .exact .inr rfl
def I64(n:Int):Prop:=-9223372036854775808<=n/\n<=9223372036854775807
end
section
open Go.RowKit
theorem eq{P:Program}{W:World}(a:Int)(h:-9223372036854775808<=-a/\-a<=9223372036854775807):(Op.unary .neg (iv a)).run P W=.ok (iv (-a)) W:=by
 simp[go_sem];rw[IntKind.wrap_i64];omega
theorem Wr{P:Program}{W:World}{x y:Operand}(a b:Int)(hk:P.underlying 3=some (.int .i64))(ha:0<=a)(ha2:a<=9223372036854775807)(hb:0<b)(hb2:b<=9223372036854775807):(do Go.eqGuard .rem 3 x y (iv a) (iv b);Go.binOp .rem 3 (iv a) (iv b):Sem Value).run P W=.ok (iv (a%b)) W:=by
 have h1:=er (P:=P) (W:=W) (x:=x) (y:=y) a.toNat b.toNat hk (by omega) (by omega) (by omega);have e1:((a.toNat:Nat):Int)=a:=Int.toNat_of_nonneg ha;have e2:((b.toNat:Nat):Int)=b:=Int.toNat_of_nonneg (by omega);rw[e1,e2]at h1
 rw[h1,Int.natCast_emod,e1,e2]
theorem ZU{P:Program}{W:World}{x y:Operand}(a:Int)(hk:P.underlying 3=some (.int .i64))(ha:0<=a)(ha2:a<=1000):(do Go.eqGuard .quo 3 x y (iv a) (iv 2);Go.binOp .quo 3 (iv a) (iv 2):Sem Value).run P W=.ok (iv (a/2)) W:=by
 have hq:a.tdiv 2=a/2:=Int.tdiv_eq_ediv_of_nonneg ha;simp only[Go.eqGuard,go_sem,Op.intDiv];simp[hq];rw[IntKind.wrap_i64];omega
theorem AH{n:Int}{w:World}(h:I64 n)(many:Int)(hm:0<many:=by decide)(hm2:many<=9223372036854775807:=by decide) :
  Calls prog 16 #[iv n,iv many] w fun e w'=>e=.returned (iv (pick n many))/\Bw w w':=by
 unfold I64 at h;refine tIn [] func16 trivial ?_;refine tR 10 [] fun σ1 _ _=>?_;by_cases h1:n<0
 .refine tI ((decide (n<0))) true (decide_eq_true h1) ?_;refine tR 2 [] fun σ2 _ _=>?_;refine tV 1 (iv (n+1)) (fun F C=>(AN (x:=(.tmp 7)) (y:=(.const (iv 1))) n 1 underlying3 (by omega))) ?_;refine tV 2 (iv (-(n+1))) (fun F C=>(eq (n+1) (by omega))) ?_;refine tR 6 [] fun σ4 _ _=>?_;refine tV 2 (iv (-(n+1)%many)) (fun F C=>(Wr (x:=(.tmp 10)) (y:=(.tmp 11)) (-(n+1)) many underlying3 (by omega) (by omega) hm hm2)) ?_;refine tR 2 [] fun σ5 _ _=>?_;exact tE (iv (-(n+1)%many)) fun _ B=>⟨by rw[show pick n many=_ from if_pos h1],B⟩
 .refine tI ((decide (n<0))) false (decide_eq_false h1) ?_;refine tR 5 [] fun σ6 _ _=>?_;refine tV 2 (iv (n%many)) (fun F C=>(Wr (x:=(.tmp 10)) (y:=(.tmp 11)) n many underlying3 (by omega) (by omega) hm hm2)) ?_;refine tR 2 [] fun σ7 _ _=>?_;exact tE (iv (n%many)) fun _ B=>⟨by rw[show pick n many=_ from if_neg h1],B⟩
theorem BO{n:Int}{w:World}(h:I64 n)(many:Int)(hm:0<many:=by decide)(hm2:many<=9223372036854775807:=by decide) :
  Calls prog 10 #[iv n,iv many] w fun e w'=>e=.returned (iv (pick n many))/\Bw w w':=by
 refine tIn [] func10 trivial ?_;refine tR 8 [] fun σ1 _ _=>?_;refine tC 2 (fun F C=>AH h many hm hm2) fun Nz=>?_;rintro _ _ ⟨rfl,b2⟩;refine⟨_,_,rfl,b2,id,?_⟩;refine tR 2 [] fun σ3 _ _=>?_;exact tE (iv (pick n many)) fun _ B=>⟨rfl,B⟩
theorem Po{k c s n v:Int}{w:World}(hk:I64 k)(hc:I64 c)(hs:I64 s)(hn:I64 n)(hv:I64 v) :
  Calls prog 17 #[.agg #[iv k,iv c,iv s,iv n,iv v]] w fun e w'=>e=.returned (.agg #[iv (wK k),iv (pick c 4),iv (pick s 6),iv (pick n 4),iv (wV k v)])/\Bw w w':=by
 have rk:=Bb k 5 (by omega);refine tIn [] func17 trivial ?_;refine tR 15 [0,0,1,0,17,0,2,0,10,12,0,16,18,0,22,24,0] fun σ1 _ _=>?_;refine TF 27 (fun ee LL ΦΦ=>∃ (b3:Nat),ee=[(1,pt (σ1 0) 0),(2,pt (σ1 1) 0),(3,pt b3 0)]/\LL=[⟨(σ1 0),.cells #[iv k,iv c,iv s,iv n,iv v] 56,.z,false⟩,⟨(σ1 1),.cells #[iv 0,iv 0,iv 0,iv 0,iv 0] 54,.l,false⟩,⟨b3,.cells #[iv (wK k),iv (pick c 4),iv (pick s 6),iv (pick n 4),iv 0] 54,.l,false⟩]/\ΦΦ=[]) (fun J hJ=>?_) ?_
 .refine TH 2 15 ?_ ?_
  .refine tC 2 (fun F C=>AH hk 5) fun Nz=>?_;rintro _ _ ⟨rfl,b3⟩;refine⟨_,_,rfl,b3,id,?_⟩;refine tT 3 (iv (pick k 5/2)) (fun _=>(ZU (x:=(.tmp 6)) (y:=(.const (iv 2))) (pick k 5) underlying3 (by omega) (by omega))) ?_;refine tT 4 (iv (wK k)) (fun _=>(AN (x:=(.const (iv 1))) (y:=(.tmp 7)) 1 (pick k 5/2) underlying3 (by omega))) ?_;refine TH 7 15 ?_ ?_
   .refine tC 7 (fun F C=>AH hc 4) fun Nz=>?_;rintro _ _ ⟨rfl,b8⟩;refine⟨_,_,rfl,b8,id,?_⟩;refine TH 10 15 ?_ ?_
    .refine tC 10 (fun F C=>AH hs 6) fun Nz=>?_;rintro _ _ ⟨rfl,b11⟩;refine⟨_,_,rfl,b11,id,?_⟩;refine TH 13 15 ?_ ?_
     .refine tC 13 (fun F C=>AH hn 4) fun Nz=>?_;rintro _ _ ⟨rfl,b14⟩;refine⟨_,_,rfl,b14,id,?_⟩;refine tR 4 [28,31,1,0,33,2,0] fun σ15 _ _=>?_;exact tD hJ [true,true,true] ⟨(σ15 0),rfl,rfl,rfl⟩ (fun F=>trivial)
     .refine tR 1 [1,0] fun σ16 _ _=>?_;refine tC 13 (fun F C=>AH hn 4) fun Nz=>?_;rintro _ _ ⟨rfl,b17⟩;refine⟨_,_,rfl,b17,id,?_⟩;refine tR 3 [28,33,2,0] fun σ18 _ _=>?_;exact tD hJ [true,true,true] ⟨(σ16 0),rfl,rfl,rfl⟩ (fun F=>trivial)
    .refine tR 1 [1,0] fun σ19 _ _=>?_;refine tC 10 (fun F C=>AH hs 6) fun Nz=>?_;rintro _ _ ⟨rfl,b20⟩;refine⟨_,_,rfl,b20,id,?_⟩;refine tC 13 (fun F C=>AH hn 4) fun Nz=>?_;rintro _ _ ⟨rfl,b22⟩;refine⟨_,_,rfl,b22,id,?_⟩;refine tR 3 [28,33,2,0] fun σ23 _ _=>?_;exact tD hJ [true,true,true] ⟨(σ19 0),rfl,rfl,rfl⟩ (fun F=>trivial)
   .refine tR 1 [1,0] fun σ24 _ _=>?_;refine tC 7 (fun F C=>AH hc 4) fun Nz=>?_;rintro _ _ ⟨rfl,b25⟩;refine⟨_,_,rfl,b25,id,?_⟩;refine tC 10 (fun F C=>AH hs 6) fun Nz=>?_;rintro _ _ ⟨rfl,b27⟩;refine⟨_,_,rfl,b27,id,?_⟩;refine tC 13 (fun F C=>AH hn 4) fun Nz=>?_;rintro _ _ ⟨rfl,b29⟩;refine⟨_,_,rfl,b29,id,?_⟩;refine tR 3 [28,33,2,0] fun σ30 _ _=>?_;exact tD hJ [true,true,true] ⟨(σ24 0),rfl,rfl,rfl⟩ (fun F=>trivial)
  .refine tR 1 [1,0] fun σ31 _ _=>?_;refine tC 2 (fun F C=>AH hk 5) fun Nz=>?_;rintro _ _ ⟨rfl,b32⟩;refine⟨_,_,rfl,b32,id,?_⟩;refine tT 3 (iv (pick k 5/2)) (fun _=>(ZU (x:=(.tmp 6)) (y:=(.const (iv 2))) (pick k 5) underlying3 (by omega) (by omega))) ?_;refine tT 4 (iv (wK k)) (fun _=>(AN (x:=(.const (iv 1))) (y:=(.tmp 7)) 1 (pick k 5/2) underlying3 (by omega))) ?_;refine tC 7 (fun F C=>AH hc 4) fun Nz=>?_;rintro _ _ ⟨rfl,b36⟩;refine⟨_,_,rfl,b36,id,?_⟩;refine tC 10 (fun F C=>AH hs 6) fun Nz=>?_;rintro _ _ ⟨rfl,b38⟩;refine⟨_,_,rfl,b38,id,?_⟩;refine tC 13 (fun F C=>AH hn 4) fun Nz=>?_;rintro _ _ ⟨rfl,b40⟩;refine⟨_,_,rfl,b40,id,?_⟩;refine tR 3 [28,33,2,0] fun σ41 _ _=>?_;exact tD hJ [true,true,true] ⟨(σ31 0),rfl,rfl,rfl⟩ (fun F=>trivial)
 rintro _ _ _ ⟨b3,rfl,rfl,rfl⟩ _ _ _;refine tR 7 [2] fun σ42 _ _=>?_;by_cases h1:wK k=1
 .refine tI (((wK k)==1)) true (by simpa using h1) ?_;refine tR 3 [0] fun σ43 _ _=>?_;refine tC 2 (fun F C=>AH hv 1000) fun Nz=>?_;rintro _ _ ⟨rfl,b44⟩;refine⟨_,_,rfl,b44,id,?_⟩;refine tR 8 [2,0,2,1,0] fun σ45 _ _=>?_;exact tX fun F C=>qE1 2 54 1 (σ1 1) #[iv (wK k),iv (pick c 4),iv (pick s 6),iv (pick n 4),iv (pick v 1000)] fun _=>⟨by rw[show wV k v=_ from if_pos h1],CgQ.below C⟩
 .refine tI (((wK k)==1)) false (by simpa using h1) ?_;refine tR 6 [2,1,0] fun σ46 _ _=>?_;exact tX fun F C=>qE1 2 54 1 (σ1 1) #[iv (wK k),iv (pick c 4),iv (pick s 6),iv (pick n 4),iv 0] fun _=>⟨by rw[show wV k v=_ from if_neg h1],CgQ.below C⟩
theorem bp(c:Int)(w:World)(h0:0<=c)(h1:c<=7)(ht:AA w) :
  Calls prog 37 #[.int .i64 c] w fun e w'=>∃ v',e=.returned (.tuple #[v',.int .i64 0])/\w'.ownsRow w.heap.size 5 1 v' (FJ c).length ((FJ c).map (Value.int .u8))/\Bw w w':=by
 have d0:decide (c<0)=false:=by simp;omega
 have d1:decide ((7:Int)<c)=false:=by simp;omega
 have hw:IntKind.u8.wrap c=c:=by rw[show IntKind.u8.wrap c=c%256 from rfl];omega
 have kc:=Go.Joins.run_convert_bytes_const_at (P:=prog) (w.alloc (.cells #[.int .u8 c] 5)) 25 5 #[.int .u8 99,.int .u8 108,.int .u8 105,.int .u8 101,.int .u8 110,.int .u8 116] 6 6 (w.heap.size+1) (by simp) underlying25 underlying5;go_enter func37,ntmps37
 go_wp2_with fail
 have s0:Sl (w.alloc (.cells #[.int .u8 c] 5)) (.slice (some ⟨w.heap.size,0,none⟩) 1 1) [c]:=Sl.one w c 5 rfl ⟨h0,by omega⟩;have b0:Bw w (w.alloc (.cells #[.int .u8 c] 5)):=(Below.refl _ _).alloc (Nat.le_refl _) _;have s1:=Sl.sixM (w.alloc (.cells #[.int .u8 c] 5)) [99,108,105,101,110,116] 5 (6,7) (g:=w.heap.size+1) (by simp) rfl (by simp);have b1:Bw w ((w.alloc (.cells #[.int .u8 c] 5)).alloc (.cells #[.int .u8 99,.int .u8 108,.int .u8 105,.int .u8 101,.int .u8 110,.int .u8 116] 5 (6,7))):=b0.alloc (by simp) _;have s0':=s0.below ((Below.refl (w.alloc (.cells #[.int .u8 c] 5)).heap.size _).alloc (Nat.le_refl _) (.cells #[.int .u8 99,.int .u8 108,.int .u8 105,.int .u8 101,.int .u8 110,.int .u8 116] 5 (6,7)));refine(Rk _ _ _ [c] [99,108,105,101,110,116] [] 32 _ s0' s1 (Sl.nil _ _) (by simp) (by simp) (by simp) (by omega) (ht.below b1)).mono ?_;rintro e w1 ⟨v1,rfl,o1,b2⟩;go_wp2
 go_ret2
 exact⟨v1,rfl,AM o1 b1.size,b1.trans (b2.mono b1.size)⟩
theorem bj(c:Int)(w:World)(h:c<0\/7<c) :
  Calls prog 37 #[.int .i64 c] w fun e w'=>e=.returned (.tuple #[.slice none 0 0,.int .i64 2])/\w'=w:=by
 by_cases h0:c<0
 .have d0:decide (c<0)=true:=by simp;omega
  go_enter func37,ntmps37
  go_wp2
  go_ret2
  exact⟨rfl,rfl⟩
 .have d0:decide (c<0)=false:=by simp;omega
  have d1:decide ((7:Int)<c)=true:=by simp;omega
  go_enter func37,ntmps37
  go_wp2
  go_ret2
  exact⟨rfl,rfl⟩
theorem Qe(w:World)(ht:AA w) :
  Calls prog 35 #[] w fun e w'=>∃ v',e=.returned v'/\w'.ownsRow w.heap.size 5 1 v' FI.length (FI.map (Value.int .u8))/\Bw w w':=by
 have kc:=Go.Joins.run_convert_bytes_const_at (P:=prog) (w.alloc (.cells #[.int .u8 255] 5)) 25 5 #[.int .u8 105,.int .u8 115,.int .u8 115,.int .u8 117,.int .u8 101,.int .u8 114] 6 6 (w.heap.size+1) (by simp) underlying25 underlying5;go_enter func35,ntmps35
 go_wp2_with fail
 have s0:Sl (w.alloc (.cells #[.int .u8 255] 5)) (.slice (some ⟨w.heap.size,0,none⟩) 1 1) [255]:=Sl.one w 255 5 rfl ⟨by omega,by omega⟩;have b0:Bw w (w.alloc (.cells #[.int .u8 255] 5)):=(Below.refl _ _).alloc (Nat.le_refl _) _;have s1:=Sl.sixM (w.alloc (.cells #[.int .u8 255] 5)) [105,115,115,117,101,114] 5 (6,7) (g:=w.heap.size+1) (by simp) rfl (by simp);have b1:Bw w ((w.alloc (.cells #[.int .u8 255] 5)).alloc (.cells #[.int .u8 105,.int .u8 115,.int .u8 115,.int .u8 117,.int .u8 101,.int .u8 114] 5 (6,7))):=b0.alloc (by simp) _;have s0':=s0.below ((Below.refl (w.alloc (.cells #[.int .u8 255] 5)).heap.size _).alloc (Nat.le_refl _) (.cells #[.int .u8 105,.int .u8 115,.int .u8 115,.int .u8 117,.int .u8 101,.int .u8 114] 5 (6,7)));refine(Rk _ _ _ [255] [105,115,115,117,101,114] [] 32 _ s0' s1 (Sl.nil _ _) (by simp) (by simp) (by simp) (by omega) (ht.below b1)).mono ?_;rintro e w1 ⟨v1,rfl,o1,b2⟩;go_wp2
 go_ret;exact⟨v1,rfl,AM o1 b1.size,b1.trans (b2.mono b1.size)⟩
theorem Sl.one2H(w:World)(b b':Int)(e:TypeId){g:Nat}(hg:g=w.heap.size)(hb:0<=b/\b<256)(he:b'=b):Sl (w.alloc (.cells #[.int .u8 b'] e)) (.slice (some ⟨g,0,none⟩) 1 1) [b]:=by
 subst he;exact Sl.one w b' e hg hb
theorem NQ(a:Option Addr)(n c:Nat):∀ w,(binOp .eql 25 (.slice a n c) (.slice none 0 0)).run prog w=.ok (.bool a.isNone) w :=
 fun w=>run_eql_slice_nil (P:=prog) w 25 5 a n c underlying25
theorem Gm{w w':World}{base e:Nat}{v:Value}{n:Nat}{xs:List Value}(h:w.ownsRow base e 1 v n xs)(hk:∀ k,v.ownBlock=some k->w'.heap[k]?=w.heap[k]?):w'.ownsRow base e 1 v n xs:=by
 refine⟨h.1,?_⟩;rcases h.2 with h2|⟨g,cap,cur,hv,hb,hg,hr⟩
 .exact .inl h2
 .exact .inr ⟨g,cap,cur,hv,hb,(hk g (by rw[hv];rfl)).trans hg,hr⟩
theorem H9(v:Value)(l:List Int)(w:World)(h:Sl w v l) :
  Calls prog 78 #[v] w fun e w'=>∃ v',e=.returned v'/\w'.ownsRow w.heap.size 5 1 v' l.length (l.map (Value.int .u8))/\Bw w w':=by
 have hs:=h;have hl:=h.len;obtain⟨⟨a,cap,rfl,hc,hn,h1⟩,h2,h3⟩:=h;cases a with
 | none =>
  obtain rfl:=hn rfl;obtain rfl:l=[]:=List.eq_nil_of_length_eq_zero (by omega);have hq:=NQ none 0 0;go_enter func78,ntmps78
  go_wp2
  go_ret;exact⟨_,rfl,World.ownsRow_nil _ _ _ _,Below.refl _ _⟩
 | some ad =>
  have ho0:(w.alloc (.cells #[] 5)).ownsRow w.heap.size 5 1 (.slice (some ⟨w.heap.size,0,none⟩) 0 0) ([]:List Int).length (([]:List Int).map (Value.int .u8)):=by
   refine⟨rfl,.inr ⟨w.heap.size,0,#[],rfl,Nat.le_refl _,heap_alloc_new _ _,Nat.le_refl _,Nat.zero_le _,rfl,rfl⟩⟩
  have hq:=NQ (some ad) l.length cap;have hs1:=hs.below ((Below.refl w.heap.size w).alloc (Nat.le_refl _) (.cells #[] 5));go_enter func78,ntmps78
  go_wp2_with (at_builtin;refine Aa _ rfl _ _ 25 rfl w.heap.size 5 underlying25 As _ _ rfl rfl [] l ho0 hs1 (by simp;omega) (by simp) ?_)
  intro v' w' ho hg;have hb2:Bw w w':=((Below.refl w.heap.size w).alloc (Nat.le_refl _) (.cells #[] 5)).grown hg (by simp) (fun k hk=>(ho0.lt k hk).1);go_wp2
  go_ret;exact⟨v',rfl,by simpa using ho,hb2⟩
theorem PX(n:Int)(w:World)(n0:0<=n)(n1:n<1073741824) :
  Calls prog 117 #[.int .i64 n] w fun e w'=>∃ v',e=.returned v'/\w'.ownsRow w.heap.size 5 1 v' (Ag n).length ((Ag n).map (Value.int .u8))/\Bw w w':=by
 go_enter func117,ntmps117
 go_wp2_with fail
 go_loopw [3,4] (fun v iv wr=>∃ j:Nat,j<=4/\iv=.int .i64 (3-(j:Int))/\wr.ownsRow w.heap.size 5 1 v ((Ag n).take j).length (((Ag n).take j).map (Value.int .u8))/\Bw w wr) (fun _ iv _=>(intOf iv+1).toNat)
 case atStart=>exact⟨0,by omega,rfl,World.ownsRow_nil _ _ _ _,Below.refl _ _⟩
 case round =>
  obtain⟨j,hj,rfl,hown,hbel⟩:=hrel;have hlt:=hown.lt;have hz:=hbel.size;by_cases hj4:j<4
  .have:j=0\/j=1\/j=2\/j=3:=by omega
   rcases this with rfl|rfl|rfl|rfl
   .rw[show(3:Int)-((0:Nat):Int)=3 from rfl];go_wp2_with (at_builtin;refine Aa _ rfl _ _ 25 rfl w.heap.size 5 underlying25 As _ _ rfl rfl ((Ag n).take 0) [n/16777216%256] (hown.alloc _) (Sl.one2H _ (n/16777216%256) _ _ rfl (by omega) (by omega)) (by simp[Ag]) (by simp;omega) ?_)
    intro v2 w2 ho2 hg2;have hb2:Bw w w2:=(hbel.alloc (by omega) _).grown hg2 (by simp;omega) (fun k hk=>(hlt k hk).1);have HO2:Hid (w2.ownsRow w.heap.size 5 1 v2 ((Ag n).take 1).length (((Ag n).take 1).map (Value.int .u8))):=ho2;clear ho2 hg2 hown hlt hbel;go_wp2
    go_roundw
    case rel=>exact⟨1,by omega,rfl,HO2.out,hb2⟩
    case measure=>simp[intOf]
   .rw[show(3:Int)-((1:Nat):Int)=2 from rfl];go_wp2_with (at_builtin;refine Aa _ rfl _ _ 25 rfl w.heap.size 5 underlying25 As _ _ rfl rfl ((Ag n).take 1) [n/65536%256] (hown.alloc _) (Sl.one2H _ (n/65536%256) _ _ rfl (by omega) (by omega)) (by simp[Ag]) (by simp;omega) ?_)
    intro v2 w2 ho2 hg2;have hb2:Bw w w2:=(hbel.alloc (by omega) _).grown hg2 (by simp;omega) (fun k hk=>(hlt k hk).1);have HO2:Hid (w2.ownsRow w.heap.size 5 1 v2 ((Ag n).take 2).length (((Ag n).take 2).map (Value.int .u8))):=ho2;clear ho2 hg2 hown hlt hbel;go_wp2
    go_roundw
    case rel=>exact⟨2,by omega,rfl,HO2.out,hb2⟩
    case measure=>simp[intOf]
   .rw[show(3:Int)-((2:Nat):Int)=1 from rfl];go_wp2_with (at_builtin;refine Aa _ rfl _ _ 25 rfl w.heap.size 5 underlying25 As _ _ rfl rfl ((Ag n).take 2) [n/256%256] (hown.alloc _) (Sl.one2H _ (n/256%256) _ _ rfl (by omega) (by omega)) (by simp[Ag]) (by simp;omega) ?_)
    intro v2 w2 ho2 hg2;have hb2:Bw w w2:=(hbel.alloc (by omega) _).grown hg2 (by simp;omega) (fun k hk=>(hlt k hk).1);have HO2:Hid (w2.ownsRow w.heap.size 5 1 v2 ((Ag n).take 3).length (((Ag n).take 3).map (Value.int .u8))):=ho2;clear ho2 hg2 hown hlt hbel;go_wp2
    go_roundw
    case rel=>exact⟨3,by omega,rfl,HO2.out,hb2⟩
    case measure=>simp[intOf]
   .rw[show(3:Int)-((3:Nat):Int)=0 from rfl];go_wp2_with (at_builtin;refine Aa _ rfl _ _ 25 rfl w.heap.size 5 underlying25 As _ _ rfl rfl ((Ag n).take 3) [n%256] (hown.alloc _) (Sl.one2H _ (n%256) _ _ rfl (by omega) (by omega)) (by simp[Ag]) (by simp;omega) ?_)
    intro v2 w2 ho2 hg2;have hb2:Bw w w2:=(hbel.alloc (by omega) _).grown hg2 (by simp;omega) (fun k hk=>(hlt k hk).1);have HO2:Hid (w2.ownsRow w.heap.size 5 1 v2 ((Ag n).take 4).length (((Ag n).take 4).map (Value.int .u8))):=ho2;clear ho2 hg2 hown hlt hbel;go_wp2
    go_roundw
    case rel=>exact⟨4,by omega,rfl,HO2.out,hb2⟩
    case measure=>simp[intOf]
  .obtain rfl:j=4:=by omega
   rw[show(3:Int)-((4:Nat):Int)=-1 from rfl];have HO:Hid _:=hown;clear hown hlt;go_wp2
   go_ret;exact⟨_,rfl,HO.out,hbel⟩
theorem Y8(x b:Int)(hx:0<=x/\x<36028797018963968)(hb:0<=b/\b<256):bits .or .i64 (x*256) b=x*256+b:=by
 obtain⟨x,rfl⟩:=Int.eq_ofNat_of_zero_le hx.1;obtain⟨y,rfl⟩:=Int.eq_ofNat_of_zero_le hb.1;have e:(x:Int)*256=((x*256:Nat):Int):=by omega
 have key:(BitVec.ofInt 64 ((x*256:Nat):Int) ||| BitVec.ofInt 64 (y:Int)).toNat=x*256+y:=by
  rw[BitVec.toNat_or,BitVec.toNat_ofInt,BitVec.toNat_ofInt];have h1:((y:Int)%((2^64:Nat):Int)).toNat=y:=by omega
  have h2:(((x*256:Nat):Int)%((2^64:Nat):Int)).toNat=2^8*x:=by omega
  rw[h1,h2,<- Nat.two_pow_add_eq_or_of_lt (by omega:y<2^8)];omega
 rw[e];show IntKind.i64.wrap ((BitVec.ofInt 64 ((x*256:Nat):Int) ||| BitVec.ofInt 64 (y:Int)).toNat:Nat)=_;rw[key,IntKind.wrap_i64];omega
def Jh(h:List Int):Nat->Int
 | 0=>0
 | k+1=>Jh h k*256+h.getD k 0
theorem Qv{h:List Int}(hb:∀ x∈h,0<=x/\x<256)(k:Nat):0<=Jh h k/\Jh h k<256^k:=by
 induction k with
 | zero=>simp[Jh]
 | succ k ih =>
  have:=Aj hb k;rw[Jh,Int.pow_succ];omega
theorem Sl.spotH{w:World}{a:Option Addr}{n cap:Nat}{l:List Int}(h:Sl w (.slice a n cap) l)(k:Nat)(hk:k<l.length):∃ bd od,a=some ⟨bd,od,none⟩/\bd<w.heap.size/\w.cell? ⟨bd,od+k,none⟩=some (.int .u8 (l.getD k 0)):=by
 obtain⟨⟨a',cap',e,hc,hn,h1⟩,hla,hba⟩:=h;simp only[Value.slice.injEq]at e;obtain⟨rfl,rfl,rfl⟩:=e;rcases h1 with rfl|⟨b,off,rfl,hb,hcell⟩
 .simp at hk
 .exact⟨b,off,rfl,hb,hcell k hk⟩
theorem MJ(v:Value)(l:List Int)(w:World)(h:Sl w v l)(hl:l.length=4) :
  Calls prog 194 #[v] w fun e w'=>e=.returned (.int .i64 (E4 l))/\w'=w:=by
 have HN:Hid (Jh l 4=E4 l):=by
  unfold Hid;show((((0:Int)*256+l.getD 0 0)*256+l.getD 1 0)*256+l.getD 2 0)*256+l.getD 3 0=_;unfold E4;omega
 have HB:Hid (∀ x∈l,0<=x/\x<256):=h.byte;have hs:=h;obtain⟨a,c,rfl⟩:=h.shape;rw[hl]at hs ⊢
 go_enter func194,ntmps194
 go_wp2_with fail
 go_loopw [3,8] (fun v iv wr=>∃ j:Nat,j<=4/\iv=.int .i64 (j:Int)/\v=.int .i64 (Jh l j)/\wr=w) (fun _ iv _=>(4-intOf iv).toNat)
 case atStart=>exact⟨0,by omega,rfl,rfl,rfl⟩
 case round =>
  obtain⟨j,hj,rfl,rfl,rfl⟩:=hrel;by_cases hj4:j<4
  .have hii:(j:Int)<4:=by omega
   have hx:=Qv HB.out j;have hx2:Jh l j<16777216:=by
    have:(256:Int)^j<=256^3:=by
     rcases(by omega:j=0\/j=1\/j=2\/j=3)with rfl|rfl|rfl|rfl<;>decide
    omega
   have hb:=Aj HB.out j;obtain⟨bd,od,rfl,hbd,hc⟩:=hs.spotH j (by omega);have hor:=Y8 (Jh l j) (l.getD j 0) ⟨hx.1,by omega⟩ hb;have HK:Hid (Jh l j*256+l.getD j 0=Jh l (j+1)):=rfl;have hx1:=hx.1;clear hx h hs;generalize Jh l j=X at hx1 hx2 hor HK;generalize l.getD j 0=B at hb hc hor HK;go_wp2
   go_roundw
   case rel=>exact⟨j+1,by omega,by go_num,by rw[<- HK.out],trivial⟩
   case measure=>simp[intOf];omega
  .obtain rfl:j=4:=by omega
   rw[show((4:Nat):Int)=4 from rfl,HN.out];go_wp2
   go_ret;exact⟨rfl,rfl⟩
def KU:Array Value:=(List.replicate 12 (Value.int .u8 0)).toArray
theorem dX(w:World):(Instr.makeSlice 25 (.int .i64 8) (.int .i64 12)).run prog w=.ok (.slice (some ⟨w.heap.size,0,none⟩) 8 12) (w.alloc (.cells KU 5)):=by
 obtain⟨i,hi,hz,hsz,hby⟩:=info_parts As;rw[run_makeSlice (P:=prog) w 25 5 i (.int .u8 0) underlying25 hi hz .i64 .i64 8 12 (by omega) (by omega) (by rw[hsz];decide) (by rw[hby];decide) (by omega),hsz];have e:madeCells (Value.int .u8 0).cells ((12:Int).toNat*1)=KU:=by kernel_rfl
 rw[e];rfl
theorem IC(v:Value)(l:List Int)(w:World)(h:Sl w v l)(hl:l.length=4) :
  Calls prog 119 #[v] w fun e w'=>∃ v',e=.returned v'/\Sl w' v' (Ba l)/\Bw w w':=by
 have HB:Hid (∀ x∈Ba l,0<=x/\x<256):=Ox h.byte;have HL:Hid ((Ba l).length=12):=FT hl;have hmk:=dX w;have ho0:(w.alloc (.cells KU 5)).ownsRow w.heap.size 5 1 (.slice (some ⟨w.heap.size,0,none⟩) 8 12) (List.replicate 8 (0:Int)).length ((List.replicate 8 (0:Int)).map (Value.int .u8)) :=
  ⟨rfl,.inr ⟨w.heap.size,12,KU,rfl,Nat.le_refl _,heap_alloc_new _ _,by decide,by simp[maxLen],rfl,rfl⟩⟩
 have b0:Bw w (w.alloc (.cells KU 5)):=(Below.refl w.heap.size w).alloc (Nat.le_refl _) _;have hs1:=h.below b0;have hz:w.heap.size<=(w.alloc (.cells KU 5)).heap.size:=b0.size;generalize w.alloc (.cells KU 5)=W at hmk ho0 b0 hs1 hz;go_enter func119,ntmps119
 go_wp2_with (at_builtin;refine Aa _ rfl _ _ 25 rfl w.heap.size 5 underlying25 As _ _ rfl rfl (List.replicate 8 0) l ho0 hs1 (by simp;omega) hz ?_)
 intro v' w' ho hg;have hb2:Bw w w':=b0.grown hg hz (fun k hk=>(ho0.lt k hk).1);have HO:Hid (w'.ownsRow w.heap.size 5 1 v' (Ba l).length ((Ba l).map (Value.int .u8))):=by
  unfold Hid;rw[HL.out];exact ho
 clear ho hg ho0 hs1 hmk;go_wp2
 go_ret;exact⟨v',rfl,Sl.ofOwns HO.out (by rw[HL.out];omega) HB.out,hb2⟩
theorem Sl.first{w:World}{a:Option Addr}{n cap:Nat}{l:List Int}(h:Sl w (.slice a n cap) l)(m:Nat)(hm:m<=l.length)(h0:0<m):Sl w (.slice (a.map (·.add 0)) m m) (l.take m):=by
 obtain⟨⟨a',cap',e,hc,hn,h1⟩,hla,hba⟩:=h;simp only[Value.slice.injEq]at e;obtain⟨rfl,rfl,rfl⟩:=e;have hl:(l.take m).length=m:=by rw[List.length_take];omega
 rcases h1 with rfl|⟨b,off,rfl,hb,hcell⟩
 .simp at hm;omega
 .have hadd:(⟨b,off,none⟩:Addr).add 0=⟨b,off,none⟩:=by unfold Addr.add;simp
  refine⟨⟨some ⟨b,off,none⟩,m,by rw[hl,Option.map_some,hadd],by omega,by simp,.inr ⟨b,off,rfl,hb,fun i hi=>?_⟩⟩,by omega,fun x hx=>hba x (List.mem_of_mem_take hx)⟩;rw[hcell i (by omega),AK (by omega),AK hi];simp
theorem UM(a:Option Addr)(n cap:Nat)(hc:4<=cap):∀ W,(Instr.slice 25 (.slice a n cap) none (some (.int .i64 4)) (some (.int .i64 4))).run prog W=.ok (.slice (a.map (·.add 0)) 4 4) W:=by
 intro W;rw[run_slice_hm (P:=prog) W 25 a n cap underlying25 .i64 .i64 4 4 (by omega) (by omega) (by omega)];have e:prog.elem 25=5:=by kernel_rfl
 rw[e,Gy];simp[Result.andThen,sliced]
theorem XL(v:Value)(l:List Int)(w:World)(h:Sl w v l)(hl:4<=l.length) :
  Calls prog 193 #[v] w fun e w'=>∃ va vb,e=.returned (.tuple #[va,vb])/\Sl w' va (l.take 4)/\Sl w' vb (l.drop 4)/\Bw w w':=by
 obtain⟨a,c,rfl⟩:=h.shape;have hc:l.length<=c:=by
  obtain⟨⟨a',cap',e,hc,_⟩,_⟩:=h;simp only[Value.slice.injEq]at e;omega
 obtain⟨a2,c2,r2',s2⟩:=h.from 4 hl;have r2:∀ W,(Instr.slice 25 (.slice a l.length c) (some (.int .i64 4)) none none).run prog W=.ok (.slice a2 (l.length-4) c2) W:=r2';have r1:=UM a l.length c (by omega);have s1:=h.first 4 hl (by omega);clear r2';generalize l.length-4=n2 at r2 s2;generalize a.map (·.add 0)=a1 at r1 s1;go_enter func193,ntmps193
 go_wp2_with fail
 go_quiet (fail)
 have e1:Bw w (w.drewN nq):=An (Below.refl _ _) nq;generalize w.drewN nq=w1 at e1 ⊢;go_wp2
 go_ret2
 exact⟨_,_,rfl,s1.below e1,s2.below e1,e1⟩
theorem I4(n:Int)(w:World) :
  Calls prog 146 #[.int .i64 n] w fun e w'=>e=.returned (.bool (decide (0<=n/\n<=1073741824)))/\w'=w:=by
 by_cases h0:0<=n
 .by_cases h1:n<=1073741824
  .rw[decide_eq_true ⟨h0,h1⟩];go_enter func146,ntmps146
   go_wp2
   go_ret;exact⟨Ac (by simp),rfl⟩
  .rw[decide_eq_false (by omega)];go_enter func146,ntmps146
   go_wp2
   go_ret;exact⟨Ac (by simp),rfl⟩
 .rw[decide_eq_false (by omega)];go_enter func146,ntmps146
  go_wp2
  go_ret;exact⟨Ac (by simp),rfl⟩
theorem bO{key:List Int}{s t:Int}{l:List Bool}(h1:key.length=32)(h2:0<=s/\s<=1073741824)(h3:0<=t/\t<=1073741824)(h4:Qp t l=true):OkC key s t l :=
 ⟨h1,h2.1,h2.2,h3.1,h3.2,((Ff t l).1 h4).1,((Ff t l).1 h4).2⟩
theorem Hz{key:List Int}{s t:Int}{l:List Bool}(h:OkC key s t l):DN key s t l=0:=if_pos h
theorem Di{key:List Int}{s t:Int}{l:List Bool}(h:¬ OkC key s t l):DN key s t l=5:=if_neg h
theorem F5(vk:Value)(key:List Int)(s t:Int)(l:List Bool)(w:World)(hk:Sl w vk key)(hl:l.length=8) :
  Calls prog 116 #[.agg (chA vk s t l)] w fun e w'=>e=.returned (.int .i64 (DN key s t l))/\Bw w w':=by
 obtain⟨ak,ck,rfl⟩:=hk.shape;have hkl:=hk.len;have bb:Bw w (w.alloc (.cells (chA (.slice ak key.length ck) s t l) 110)):=(Below.refl _ _).alloc (Nat.le_refl _) _;obtain⟨b0,b1,b2,b3,b4,b5,b6,b7,rfl⟩:=FS l hl;by_cases h1:key.length=32
 .have HK:Hid (key.length=32):=h1;obtain⟨E,hE⟩:∃ E,DN key s t [b0,b1,b2,b3,b4,b5,b6,b7]=E:=⟨_,rfl⟩;have HE:Hid (DN key s t [b0,b1,b2,b3,b4,b5,b6,b7]=E):=hE;rw[hE];clear hE;have bb0:=bb;simp only[chA,List.map]at bb ⊢;rw[h1]at bb bb0 hk ⊢
  have rr:=heap_alloc_new w (.cells (chA (.slice ak 32 ck) s t [b0,b1,b2,b3,b4,b5,b6,b7]) 110);clear h1;go_enter func116,ntmps116
  go_wp2_with fail
  refine(I4 s _).mono ?_;rintro e w1 ⟨rfl,rfl⟩;by_cases h2:0<=s/\s<=1073741824
  .rw[decide_eq_true h2];go_wp2_with fail
   refine(I4 t _).mono ?_;rintro e w1 ⟨rfl,rfl⟩;by_cases h3:0<=t/\t<=1073741824
   .rw[decide_eq_true h3];go_wp2_with fail
    refine(EH (.slice ak 32 ck) s t [b0,b1,b2,b3,b4,b5,b6,b7] _ rfl).mono ?_;rintro e w2 ⟨rfl,c2⟩;have d2:Bw w w2:=bb0.trans (c2.mono (by simp));go_wp2_with fail
    refine(Td t [b0,b1,b2,b3,b4,b5,b6,b7] w2 rfl h3.1 h3.2).mono ?_;rintro e w3 ⟨rfl,c3⟩;have d3:Bw w w3:=d2.trans (c3.mono d2.size);cases h4:Qp t [b0,b1,b2,b3,b4,b5,b6,b7]with
    | true =>
     have H5:Hid (0=E):=HE.out▸(Hz (bO HK.out h2 h3 h4)).symm;go_wp2
     go_ret;exact⟨Az H5.out,d3⟩
    | false =>
     have H5:Hid (5=E):=HE.out▸(Di (fun h=>by
      have:=(Ff t [b0,b1,b2,b3,b4,b5,b6,b7]).2 ⟨h.low,h.top⟩;rw[h4]at this
      cases this)).symm
     go_wp2
     go_ret;exact⟨Az H5.out,d3⟩
   .rw[decide_eq_false h3];have H5:Hid (5=E):=HE.out▸(Di (fun h=>h3 ⟨h.t0,h.t1⟩)).symm;go_wp2
    go_ret;exact⟨Az H5.out,bb⟩
  .rw[decide_eq_false h2];have H5:Hid (5=E):=HE.out▸(Di (fun h=>h2 ⟨h.s0,h.s1⟩)).symm;go_wp2
   go_ret;exact⟨Az H5.out,bb⟩
 .have HE:Hid (DN key s t [b0,b1,b2,b3,b4,b5,b6,b7]=5):=Di fun h=>h1 h.key;have h1':¬ (key.length:Int)=32:=by omega
  simp only[chA,List.map]at bb ⊢;go_enter func116,ntmps116
  go_wp2
  go_ret;exact⟨Az HE.out.symm,bb⟩
theorem DM{k:Value}{s t:Int}{l:List Bool}(hl:l.length=8):(prog.info? 110).map (·.size)=some (chA k s t l).size:=by rw[EV,hl];kernel_rfl
theorem Js{w:World}{k:Value}{key:List Int}(hk:Sl w k key)(s t:Int)(l:List Bool):(chA k s t l).all (·.oneCell')=true:=by
 obtain⟨a,c,rfl⟩:=hk.shape;simp[chA,Value.oneCell']
theorem Y1(vk:Value)(key:List Int)(w:World)(hk:Sl w vk key) :
  Calls prog 156 #[vk] w fun e w'=>∃ v',e=.returned (.tuple #[.agg (chA v' 0 0 noB),.int .i64 (if key.length=32 then 0 else 1)])/\w'.ownsRow 0 5 1 v' (if key.length=32 then key else[]).length ((if key.length=32 then key else[]).map (Value.int .u8))/\Bw w w':=by
 obtain⟨ak,ck,rfl⟩:=hk.shape;have hkl:=hk.len;by_cases h1:key.length=32
 .rw[if_pos h1,if_pos h1];rw[h1]at hk ⊢
  have bb:Bw w (w.alloc (.cells (chA (.slice none 0 0) 0 0 noB) 110)):=(Below.refl _ _).alloc (Nat.le_refl _) _;have rr:=heap_alloc_new w (.cells (chA (.slice none 0 0) 0 0 noB) 110);have hz:(w.alloc (.cells (chA (.slice none 0 0) 0 0 noB) 110)).heap.size=w.heap.size+1:=by simp
  go_enter func156,ntmps156
  go_wp2_with fail
  refine(H9 _ key _ (hk.below bb)).mono ?_;rintro e w1 ⟨v1,rfl,o1,c1⟩;rw[hz]at o1
  have s1:=Sl.ofOwns o1 hk.len hk.byte;have r1:=(c1.block w.heap.size (by rw[hz];omega)).trans rr;have d1:Bw w w1:=bb.trans (c1.mono (by rw[hz];omega));have hi:=DM (k:=v1) (s:=0) (t:=0) Gi;have ho:=Js s1 0 0 noB;clear c1 rr bb hz;have hold:(chA (.slice none 0 0) 0 0 noB).size=(chA v1 0 0 noB).size:=by rw[EV,EV]
  obtain⟨a1,c1,hv1⟩:=s1.shape;rw[h1]at hv1
  subst hv1;go_wp2_with (refine wpList_store_row rfl 110 (.tmp 2) (.tmp 10) rfl w.heap.size (chA (.slice a1 32 c1) 0 0 noB) rfl rfl 110 _ r1 hi hold ho ?_)
  have r2:=setRow_heap w1 w.heap.size _ (chA (.slice a1 32 c1) 0 0 noB) 110 _ r1;have d3:Bw w (w1.setRow w.heap.size (chA (.slice a1 32 c1) 0 0 noB)):=below_setRow d1 (Nat.le_refl _) _;have s2:(w1.setRow w.heap.size (chA (.slice a1 32 c1) 0 0 noB)).ownsRow 0 5 1 (.slice a1 32 c1) key.length (key.map (Value.int .u8)) :=
   AM (Gm o1 fun k hk'=>setRow_other _ _ _ _ (by have:=(o1.lt k hk').1;omega)) (Nat.zero_le _)
  exact bodyPost_ret (Hc rfl _ _ w.heap.size 110 _ (0,0) _ rfl r2 underlying110 rfl hi) rfl ⟨.slice a1 32 c1,rfl,h1▸s2,d3⟩
 .rw[if_neg h1,if_neg h1];have h1':¬ (key.length:Int)=32:=by omega
  go_enter func156,ntmps156
  go_wp2
  exact bodyPost_ret (Hc rfl _ _ w.heap.size 110 (chA (.slice none 0 0) 0 0 noB) (0,0) _ rfl (heap_alloc_new _ _) underlying110 rfl (DM Gi)) rfl ⟨.slice none 0 0,rfl,World.ownsRow_nil _ _ _ _,(Below.refl _ _).alloc (Nat.le_refl _) _⟩
structure Bx(w W:World)(k:Value)(s t:Int)(l:List Bool):Prop where
 row:W.heap[w.heap.size]?=some (.cells (chA k s t l) 110 (0,0))
 bel:Bw w W
theorem Bx.new(w:World)(k:Value)(s t:Int)(l:List Bool):Bx w (w.alloc (.cells (chA k s t l) 110)) k s t l:=⟨heap_alloc_new _ _,(Below.refl _ _).alloc (Nat.le_refl _) _⟩
theorem Bx.lt{w W:World}{k:Value}{s t:Int}{l:List Bool}(h:Bx w W k s t l):w.heap.size<W.heap.size:=(Array.getElem?_eq_some_iff.1 h.row).1
theorem Bx.step{w W W':World}{k:Value}{s t:Int}{l:List Bool}(h:Bx w W k s t l)(hb:Bw W W'):Bx w W' k s t l :=
 ⟨(hb.block _ h.lt).trans h.row,h.bel.trans (hb.mono h.bel.size)⟩
theorem Bx.c0{w W:World}{k:Value}{s t:Int}{l:List Bool}(h:Bx w W k s t l):W.cell? ⟨w.heap.size,0,none⟩=some k:=(cell_of_row _ _ 0 _ _ _ h.row).trans (Rp k s t l)
theorem Bx.c1{w W:World}{k:Value}{s t:Int}{l:List Bool}(h:Bx w W k s t l):W.cell? ⟨w.heap.size,1,none⟩=some (.int .i64 s):=(cell_of_row _ _ 1 _ _ _ h.row).trans (Nv k s t l)
def Fr(key:List Int)(s t:Int)(l:List Bool)(p:List Int):List Int:=if Dz key s t l p=0 then Ji key s p else[]
theorem WI(vk:Value)(key:List Int)(s t:Int)(l:List Bool)(vp:Value)(p:List Int)(w:World)(hk:Sl w vk key)(hl:l.length=8)(hp:Sl w vp p)(ht:Cf w) :
  Calls prog 77 #[.agg (chA vk s t l),vp] w fun e w'=>∃ v',e=.returned (.tuple #[v',.int .i64 (Dz key s t l p)])/\w'.ownsRow 0 5 1 v' (Fr key s t l p).length ((Fr key s t l p).map (Value.int .u8))/\Bw w w':=by
 have hpos:=ht.pos;have bx:=Bx.new w vk s t l;obtain⟨ap,cp,rfl⟩:=hp.shape;have hpl:=hp.len;have hi:=DM (k:=vk) (s:=s) (t:=t) hl;by_cases hok:OkC key s t l
 .have HC:Hid (DN key s t l=0):=Hz hok;go_enter func77,ntmps77
  go_wp2_with (refine wpList_load_row rfl 110 _ rfl w.heap.size rfl 110 _ (0,0) _ bx.row underlying110 rfl hi ?_)
  refine(F5 vk key s t l _ (hk.below bx.bel) hl).mono ?_;rintro e w1 ⟨rfl,b1⟩;replace bx:=bx.step b1;rw[HC.out];clear b1;by_cases h2:2000<p.length
  .have HE:Hid (Dz key s t l p=1):=by unfold Hid Dz;rw[if_neg (fun h=>h hok),if_pos h2]
   have HR:Hid (Fr key s t l p=[]):=by unfold Hid Fr;rw[HE.out];rfl
   have h2':(2000:Int)<(p.length:Int):=by omega
   go_wp2
   go_ret2
   exact⟨.slice none 0 0,by rw[HE.out];rfl,by rw[HR.out];exact World.ownsRow_nil _ _ _ _,bx.bel⟩
  .have h2':¬ (2000:Int)<(p.length:Int):=by omega
   have c1:=bx.c1;by_cases h3:s=1073741824
   .have HE:Hid (Dz key s t l p=8):=by unfold Hid Dz;rw[if_neg (fun h=>h hok),if_neg h2,if_pos h3]
    have HR:Hid (Fr key s t l p=[]):=by unfold Hid Fr;rw[HE.out];rfl
    go_wp2
    go_ret2
    exact⟨.slice none 0 0,by rw[HE.out];rfl,by rw[HR.out];exact World.ownsRow_nil _ _ _ _,bx.bel⟩
   .have HE:Hid (Dz key s t l p=0):=by unfold Hid Dz;rw[if_neg (fun h=>h hok),if_neg h2,if_neg h3]
    have HR:Hid (Fr key s t l p=Ji key s p):=by unfold Hid Fr;rw[HE.out];rfl
    have s0:=hok.s0;have s1:s<1073741824:=by have:=hok.s1;omega
    have HKL:Hid (key.length=32):=hok.key;go_wp2_with fail
    have bel1:=bx.bel;refine(PX s w1 s0 s1).mono ?_;rintro e w2 ⟨vh,rfl,oh,b2⟩;replace bx:=bx.step b2;clear c1;have c0:=bx.c0;have sh:Sl w2 vh (Ag s):=Sl.ofOwns oh (by rw[BP];omega) (AL s);have hk2:=hk.below bx.bel;have hp2:=hp.below bx.bel;have ht2:=ht.below hpos bx.bel;have hpos2:4<w2.heap.size:=by have:=bx.lt;omega
    have HX:Hid (Ji key s p=Ag s++IN key (Ba (Ag s)) (Ag s) p):=rfl;have hhl:=BP s;have HF:Hid (FH key (Ba (Ag s)) (Ag s)=true):=XV hok.key (FT rfl) (by rw[BP];omega);have h2n:p.length<=2000:=by omega
    have bel2:=bx.bel;generalize Ag s=H at HX hhl HF sh oh;have hd:Bw w2 w2.drew:=(Below.refl _ _).drew;have hlt:=oh.lt;have hzz:w.heap.size<w2.drew.heap.size:=bx.lt;clear hk hp ht hok;go_wp2_with fail
    go_region_with (first
     | (go_at_call 119;refine(IC _ H _ (sh.below hd) hhl).mono ?_;rintro e w3 ⟨vn,rfl,sn,b3⟩;have c3:=(b3.cell (p:=⟨w.heap.size,0,none⟩) hzz).trans c0)
     | (go_at_call 118;refine(YY vk vn _ _ key (Ba H) H p _ ((hk2.below hd).below b3) sn ((sh.below hd).below b3) ((hp2.below hd).below b3) HF.out h2n ((ht2.below hpos2 hd).below hpos2 b3)).mono ?_;rintro e w4 ⟨vx,rfl,sx,b4⟩))
    all_goals
     have o4:=E6 (E6 oh.drew b3) b4;have hl4:=o4.lt;have d3:Bw w w3:=bel2.trans ((hd.trans b3).mono bel2.size);have d4:Bw w w4:=d3.trans (b4.mono d3.size);have hz4:w1.heap.size<=w4.heap.size:=Nat.le_trans b2.size (Nat.le_trans hd.size (Nat.le_trans b3.size b4.size));have hz1:w.heap.size<=w1.heap.size:=bel1.size;have hxl:=He key (Ba H) H p;clear bx oh sh hk2 hp2 ht2 hd c0 c3 sn b3 b4 hzz b2 bel2;generalize IN key (Ba H) H p=X at HX hxl sx;go_wp2_with (at_builtin;refine Aa _ rfl _ _ 25 rfl w1.heap.size 5 underlying25 As _ _ rfl rfl H X o4 sx (by omega) hz4 ?_)
     intro v5 w5 ho5 hg5;have b5:Bw w w5:=d4.grown hg5 (by omega) (fun k hk=>Nat.le_trans hz1 (hl4 k hk).1);have HO5:Hid (w5.ownsRow w1.heap.size 5 1 v5 (H++X).length ((H++X).map (Value.int .u8))):=by
      unfold Hid;simpa[hhl,hxl]using ho5
     clear ho5 hg5 o4;go_wp2
     go_ret2
     refine⟨v5,by rw[HE.out];rfl,?_,b5⟩;rw[HR.out,HX.out];exact AM HO5.out (Nat.zero_le _)
 .have HC:Hid (DN key s t l=5):=Di hok;have HE:Hid (Dz key s t l p=5):=if_pos hok;have HR:Hid (Fr key s t l p=[]):=by unfold Hid Fr;rw[HE.out];rfl
  go_enter func77,ntmps77
  go_wp2_with (refine wpList_load_row rfl 110 _ rfl w.heap.size rfl 110 _ (0,0) _ bx.row underlying110 rfl hi ?_)
  refine(F5 vk key s t l _ (hk.below bx.bel) hl).mono ?_;rintro e w1 ⟨rfl,b1⟩;replace bx:=bx.step b1;rw[HC.out];go_wp2
  go_ret2
  exact⟨.slice none 0 0,by rw[HE.out];rfl,by rw[HR.out];exact World.ownsRow_nil _ _ _ _,bx.bel⟩
theorem P0(k k':Value)(s t:Int)(l:List Bool):(chA k s t l).setIfInBounds 0 k'=chA k' s t l:=by apply Array.ext';simp[chA]
theorem Ny(k:Value)(s s' t:Int)(l:List Bool):(chA k s t l).setIfInBounds 1 (.int .i64 s')=chA k s' t l:=by apply Array.ext';simp[chA]
theorem P3(k:Value)(s t t':Int)(l:List Bool):(chA k s t l).setIfInBounds 2 (.int .i64 t')=chA k s t' l:=by apply Array.ext';simp[chA]
structure By(w W:World)(k:Value)(s t:Int)(l:List Bool):Prop where
 row:W.heap[w.heap.size]?=some (.cells (chA k s t l) 110 (0,0))
 res:W.heap[w.heap.size+1]?=some (.cells (chA (.slice none 0 0) 0 0 noB) 110 (0,0))
 bel:Bw w W
theorem By.new(w:World)(k:Value)(s t:Int)(l:List Bool):By w ((w.alloc (.cells (chA k s t l) 110)).alloc (.cells (chA (.slice none 0 0) 0 0 noB) 110)) k s t l :=
 ⟨heap_alloc2_old _ _ _,heap_alloc2_new _ _ _,((Below.refl _ _).alloc (Nat.le_refl _) _).alloc (by simp) _⟩
theorem By.lt{w W:World}{k:Value}{s t:Int}{l:List Bool}(h:By w W k s t l):w.heap.size+1<W.heap.size:=(Array.getElem?_eq_some_iff.1 h.res).1
theorem By.step{w W W':World}{k:Value}{s t:Int}{l:List Bool}(h:By w W k s t l)(hb:Bw W W'):By w W' k s t l :=
 ⟨(hb.block _ (by have:=h.lt;omega)).trans h.row,(hb.block _ h.lt).trans h.res,h.bel.trans (hb.mono h.bel.size)⟩
theorem By.c0{w W:World}{k:Value}{s t:Int}{l:List Bool}(h:By w W k s t l):W.cell? ⟨w.heap.size,0,none⟩=some k:=(cell_of_row _ _ 0 _ _ _ h.row).trans (Rp k s t l)
theorem By.c1{w W:World}{k:Value}{s t:Int}{l:List Bool}(h:By w W k s t l):W.cell? ⟨w.heap.size,1,none⟩=some (.int .i64 s):=(cell_of_row _ _ 1 _ _ _ h.row).trans (Nv k s t l)
theorem By.fr{w W:World}{k:Value}{s t:Int}{l:List Bool}(h:By w W k s t l)(i:Nat):W.frozen? ⟨w.heap.size,i,none⟩=false:=frozen_of_row _ _ i _ _ h.row
theorem By.key{w W:World}{k:Value}{s t:Int}{l:List Bool}(h:By w W k s t l)(k':Value):By w (W.setCell ⟨w.heap.size,0,none⟩ k') k' s t l :=
 ⟨by rw[heap_setCell_same _ _ _ _ _ _ h.row,P0],(heap_setCell_other _ _ _ _ (by simp)).trans h.res,h.bel.setCell (p:=⟨w.heap.size,0,none⟩) (by simp) _⟩
theorem By.sent{w W:World}{k:Value}{s t:Int}{l:List Bool}(h:By w W k s t l)(s':Int):By w (W.setCell ⟨w.heap.size,1,none⟩ (.int .i64 s')) k s' t l :=
 ⟨by rw[heap_setCell_same _ _ _ _ _ _ h.row,Ny],(heap_setCell_other _ _ _ _ (by simp)).trans h.res,h.bel.setCell (p:=⟨w.heap.size,1,none⟩) (by simp) _⟩
theorem Sl.keepBut{w w':World}{v:Value}{l:List Int}(h:Sl w v l)(B:Nat)(hn:∀ i x,w.cell? ⟨B,i,none⟩≠some (.int .u8 x))(hz:w.heap.size<=w'.heap.size)(hk:∀ k,k≠B->w'.heap[k]?=w.heap[k]?):Sl w' v l:=by
 obtain⟨⟨a,cap,rfl,hc,hnn,h1⟩,h2,h3⟩:=h;refine⟨⟨a,cap,rfl,hc,hnn,?_⟩,h2,h3⟩;rcases h1 with h1|⟨b,off,ha,hbs,hcell⟩
 .exact .inl h1
 .refine .inr ⟨b,off,ha,Nat.lt_of_lt_of_le hbs hz,fun i hi=>?_⟩;have hb:b≠B:=by
   rintro rfl;exact hn _ _ (hcell i hi)
  rw[<- hcell i hi];exact World.cell?_of_block (w:=w) (hk b hb)
theorem JE{W:World}{B:Nat}{a:Option Addr}{n c:Nat}{s t:Int}{l:List Bool}{ty:TypeId}{fr:Nat × Nat}(h:W.heap[B]?=some (.cells (chA (.slice a n c) s t l) ty fr)):∀ i x,W.cell? ⟨B,i,none⟩≠some (.int .u8 x):=by
 intro i x hc;rw[cell_of_row _ _ i _ _ _ h]at hc
 have hm:=Array.mem_of_getElem? hc;simp[chA]at hm
theorem Sl.setBox{W:World}{v:Value}{p:List Int}(h:Sl W v p){B:Nat}{a:Option Addr}{n c:Nat}{s t:Int}{l:List Bool}{ty:TypeId}{fr:Nat × Nat}(hr:W.heap[B]?=some (.cells (chA (.slice a n c) s t l) ty fr))(i:Nat)(u:Value):Sl (W.setCell ⟨B,i,none⟩ u) v p :=
 h.keepBut B (JE hr) (by simp[World.setCell]) fun k hk=>heap_setCell_other _ _ _ _ (by simpa using hk)
theorem Sl.setRowBox{W:World}{v:Value}{p:List Int}(h:Sl W v p){B:Nat}{a:Option Addr}{n c:Nat}{s t:Int}{l:List Bool}{ty:TypeId}{fr:Nat × Nat}(hr:W.heap[B]?=some (.cells (chA (.slice a n c) s t l) ty fr))(cs:Array Value):Sl (W.setRow B cs) v p :=
 h.keepBut B (JE hr) (by simp[World.setRow]) fun k hk=>setRow_other _ _ _ _ hk
theorem Kr{W:World}{v:Value}{n:Nat}{xs:List Value}(h:W.ownsRow 0 5 1 v n xs){B:Nat}{A:Array Value}{ty:TypeId}{fr:Nat × Nat}(hr:W.heap[B]?=some (.cells A ty fr))(hty:ty≠5):∀ k,v.ownBlock=some k->k≠B:=by
 intro k hk hkB;subst hkB;rcases h.2 with⟨rfl,_⟩|⟨g,cap,cur,rfl,_,hg,_⟩
 .simp[Value.ownBlock]at hk
 .simp only[Value.ownBlock,Option.some.injEq]at hk;subst hk;rw[hg]at hr
  simp only[Option.some.injEq,Obj.cells.injEq]at hr;exact hty hr.2.1.symm
theorem AF{W:World}{v:Value}{n:Nat}{xs:List Value}(h:W.ownsRow 0 5 1 v n xs){B:Nat}{A:Array Value}{ty:TypeId}{fr:Nat × Nat}(hr:W.heap[B]?=some (.cells A ty fr))(hty:ty≠5)(i:Nat)(u:Value):(W.setCell ⟨B,i,none⟩ u).ownsRow 0 5 1 v n xs :=
 Gm h fun k hk=>heap_setCell_other _ _ _ _ (by simpa using Kr h hr hty k hk)
theorem DR{W:World}{v:Value}{n:Nat}{xs:List Value}(h:W.ownsRow 0 5 1 v n xs){B:Nat}{A:Array Value}{ty:TypeId}{fr:Nat × Nat}(hr:W.heap[B]?=some (.cells A ty fr))(hty:ty≠5)(cs:Array Value):(W.setRow B cs).ownsRow 0 5 1 v n xs :=
 Gm h fun k hk=>setRow_other _ _ _ _ (Kr h hr hty k hk)
theorem WC{key:List Int}{s t:Int}{l:List Bool}{p:List Int}(h:Dz key s t l p=0):OkC key s t l/\p.length<=2000/\s<1073741824:=by
 unfold Dz at h;by_cases h1:OkC key s t l
 .rw[if_neg (fun h=>h h1)]at h
  by_cases h2:2000<p.length
  .rw[if_pos h2]at h;omega
  .rw[if_neg h2]at h
   by_cases h3:s=1073741824
   .rw[if_pos h3]at h;omega
   .exact⟨h1,by omega,by have:=h1.s1;omega⟩
 .rw[if_pos h1]at h;omega
theorem Za(vk:Value)(key:List Int)(s t:Int)(l:List Bool)(vp:Value)(p:List Int)(w:World)(hk:Sl w vk key)(hl:l.length=8)(hp:Sl w vp p)(ht:Cf w)(hE:Dz key s t l p=0) :
  Calls prog 38 #[.agg (chA vk s t l),vp] w fun e w'=>∃ v1,∃ v2,e=.returned (.tuple #[.agg (chA v1 (s+1) t l),v2,.int .i64 0])/\Sl w' v1 key/\w'.ownsRow 0 5 1 v1 key.length (key.map (Value.int .u8))/\w'.ownsRow 0 5 1 v2 (Ji key s p).length ((Ji key s p).map (Value.int .u8))/\Bw w w':=by
 have hpos:=ht.pos;have bx:=By.new w vk s t l;have hi:=DM (k:=vk) (s:=s) (t:=t) hl;obtain⟨hok,_,s1⟩:=WC hE;have s0:=hok.s0;have HE:Hid (Dz key s t l p=0):=hE;have HR:Hid (Fr key s t l p=Ji key s p):=if_pos hE;obtain⟨ak,ck,rfl⟩:=hk.shape;have HKL:Hid (key.length=32):=hok.key;generalize hnk:key.length=nk at hk hi bx ⊢;have HNK:Hid (key.length=nk):=hnk;clear hnk;go_enter func38,ntmps38
 clear hE hok;go_wp2_with (refine wpList_load_row rfl 110 _ rfl w.heap.size rfl 110 _ (0,0) _ bx.row underlying110 rfl hi ?_)
 refine(WI _ key s t l vp p _ (hk.below bx.bel) hl (hp.below bx.bel) (ht.below hpos bx.bel)).mono ?_;rintro e w1 ⟨v2,rfl,s2,b1⟩;rw[HE.out];rw[HR.out]at s2
 replace bx:=bx.step b1;have c0:=bx.c0;clear b1;go_wp2_with fail
 refine(H9 _ key w1 (hk.below bx.bel)).mono ?_;rintro e w2 ⟨v1,rfl,o1,b2⟩;have hz1:=bx.lt;replace bx:=bx.step b2;replace s2:=E6 s2 b2;have sk:=Sl.ofOwns o1 hk.len hk.byte;replace o1:=AM o1 (Nat.zero_le _);clear b2 c0;obtain⟨a1,c1,hv1⟩:=sk.shape;generalize hn1:key.length=n1 at hv1 o1;have HN:Hid (key.length=n1):=hn1;clear hn1;subst hv1;have c0:=bx.c0;have f0:=bx.fr 0
 go_upto_region 5 with fail
 replace s2:=AF s2 bx.row (by decide) 0 (.slice a1 n1 c1);replace o1:=AF o1 bx.row (by decide) 0 (.slice a1 n1 c1);replace sk:=sk.setBox bx.row 0 (.slice a1 n1 c1);replace bx:=bx.key (.slice a1 n1 c1);generalize w2.setCell ⟨w.heap.size,0,none⟩ (.slice a1 n1 c1)=w3 at s2 sk o1 bx ⊢;clear c0 f0;have c1':=bx.c1;have f1:=bx.fr 1
 go_upto_region 6 with fail
 replace s2:=AF s2 bx.row (by decide) 1 (.int .i64 (s+1));replace o1:=AF o1 bx.row (by decide) 1 (.int .i64 (s+1));replace sk:=sk.setBox bx.row 1 (.int .i64 (s+1));replace bx:=bx.sent (s+1);generalize w3.setCell ⟨w.heap.size,1,none⟩ (.int .i64 (s+1))=w4 at s2 sk o1 bx ⊢;clear c1' f1;have hi4:=DM (k:=.slice a1 n1 c1) (s:=s+1) (t:=t) hl;have ho4:=Js sk (s+1) t l;have hold:(chA (.slice none 0 0) 0 0 noB).size=(chA (.slice a1 n1 c1) (s+1) t l).size:=by rw[EV,EV,hl];rfl
 go_wp2_with (first
  | (refine wpList_load_row rfl 110 _ rfl w.heap.size rfl 110 _ (0,0) _ bx.row underlying110 rfl hi4 ?_)
  | (refine wpList_store_row rfl 110 _ _ rfl (w.heap.size+1) _ rfl rfl 110 _ bx.res hi4 hold ho4 ?_))
 have r2:=setRow_heap w4 (w.heap.size+1) _ (chA (.slice a1 n1 c1) (s+1) t l) 110 _ bx.res;exact bodyPost_ret (EA rfl _ _ (w.heap.size+1) 110 _ (0,0) _ rfl r2 underlying110 rfl hi4) rfl ⟨.slice a1 n1 c1,v2,rfl,sk.setRowBox bx.res _,by rw[<- HNK.out,HN.out];exact DR o1 bx.res (by decide) _,DR s2 bx.res (by decide) _,below_setRow bx.bel (by omega) _⟩
theorem Xv(t n:Int)(l:List Bool)(w:World)(hl:l.length=8)(t0:0<=t)(t1:t<=1073741824)(n0:t-8<=n)(n2:0<=n)(n1:n<1073741824) :
  Calls prog 180 #[.agg (wA t l),.int .i64 n] w fun e w'=>e=.returned (.agg (wA (FK t n) (Jl t l n)))/\Bw w w':=by
 have e0:((w.alloc (.cells (wA t l) 227)).alloc (.cells (wA 0 noB) 227)).heap[w.heap.size]?=some (.cells (wA t l) 227 (0,0)):=heap_alloc2_old _ _ _;have e1:((w.alloc (.cells (wA t l) 227)).alloc (.cells (wA 0 noB) 227)).heap[w.heap.size+1]?=some (.cells (wA 0 noB) 227 (0,0)):=heap_alloc2_new _ _ _;have bb:Bw w ((w.alloc (.cells (wA t l) 227)).alloc (.cells (wA 0 noB) 227)):=((Below.refl _ _).alloc (Nat.le_refl _) _).alloc (by simp) _;have hz:((w.alloc (.cells (wA t l) 227)).alloc (.cells (wA 0 noB) 227)).heap.size=w.heap.size+1+1:=by simp
 have hiT:=IV (t:=t) hl;have ct:=(cell_of_row _ _ 0 _ _ _ e0).trans (dh t l);by_cases h1:t<=n
 .obtain⟨d,hd⟩:∃ d,d=min (n+1-t).toNat 8:=⟨_,rfl⟩;obtain⟨HS',HT'⟩:=TS t n l hl h1 d hd;have HS:Hid _:=HS';have HT:Hid (FK t n=n+1):=HT';clear HS' HT';have hRl:(l.drop d++List.replicate d false).length=8:=by simp;omega
  have HD:Hid (d=min (n+1-t).toNat 8):=hd;clear hd;go_enter func180,ntmps180
  go_upto_region 1 with fail
  generalize hWW:((w.alloc (.cells (wA t l) 227)).alloc (.cells (wA 0 noB) 227))=W at e0 e1 bb hz ct;refine(congrArg (Code.wp _ _ _ _) hWW).mpr ?_;clear hWW;go_wp2_with (refine wpList_load_row rfl 227 _ rfl w.heap.size rfl 227 _ (0,0) _ e0 underlying227 rfl hiT ?_)
  refine(QM t (n+1) l W hl t0 t1 (by omega) (by omega) d HD.out).mono ?_;rintro e w1 ⟨rfl,b1⟩;generalize l.drop d++List.replicate d false=R at HS hRl;have a0:=(b1.block w.heap.size (by omega)).trans e0;have a1:=(b1.block (w.heap.size+1) (by omega)).trans e1;have bd1:Bw w w1:=bb.trans (b1.mono (by omega));have hz1:w.heap.size+1+1<=w1.heap.size:=by have:=b1.size;omega
  have hiR:=IV (t:=n+1) hRl
  go_upto_region 3 with(refine wpList_store_row rfl 227 _ _ rfl w.heap.size _ rfl rfl 227 _ a0 hiR (by rw[Dg,Dg,hRl,hl]) (Nj _ _) ?_)
  have f0:=setRow_heap w1 w.heap.size _ (wA (n+1) R) 227 _ a0;have f1:=(setRow_other w1 w.heap.size (w.heap.size+1) (wA (n+1) R) (by omega)).trans a1;have bd2:Bw w (w1.setRow w.heap.size (wA (n+1) R)):=below_setRow bd1 (Nat.le_refl _) _;have hz2:w.heap.size+1+1<=(w1.setRow w.heap.size (wA (n+1) R)).heap.size:=by have:=(Array.getElem?_eq_some_iff.1 f1).1;omega
  generalize w1.setRow w.heap.size (wA (n+1) R)=W2 at f0 f1 bd2 hz2 ⊢;clear a0 a1 bd1 b1 e0 e1 bb ct hz hz1;have hTb:n+1<=1073741824:=by omega
  obtain⟨i,hi,hni⟩:∃ i:Nat,i<8/\n-(n+1-8)=(i:Int):=⟨7,by omega,by omega⟩;have HS2:Hid (Jl t l n=R.set i true):=by unfold Hid;rw[show i=7 by omega];exact HS.out
  clear HS;have HS:=HS2;clear HS2;have hTl:0<=n+1:=by omega
  generalize n+1=T at HT f0 hTb hni hTl hiR;go_wp2_with (refine wpList_load_row rfl 227 _ rfl w.heap.size rfl 227 _ (0,0) _ f0 underlying227 rfl (IV hRl) ?_)
  refine(Dt T R W2 hRl (by omega) (by omega)).mono ?_;rintro e w3 ⟨rfl,b3⟩;have g0:=(b3.block w.heap.size (by omega)).trans f0;have g1:=(b3.block (w.heap.size+1) (by omega)).trans f1;have bd3:Bw w w3:=bd2.trans (b3.mono (by omega));have hz3:w.heap.size+1<w3.heap.size:=by have:=b3.size;omega
  have ci:=(cell_of_row _ _ (1+i) _ _ _ g0).trans (J3 T R i (by omega));have fi:=frozen_of_row _ _ (1+i) _ _ g0;have h0:=Pm g0 i true;have h1':(w3.setCell ⟨w.heap.size,1+i,none⟩ (.bool true)).heap[w.heap.size+1]?=some (.cells (wA 0 noB) 227 (0,0)):=(heap_setCell_other _ _ _ _ (by simp)).trans g1;have bd4:Bw w (w3.setCell ⟨w.heap.size,1+i,none⟩ (.bool true)):=bd3.setCell (p:=⟨w.heap.size,1+i,none⟩) (by simp) _;have hsl:(R.set i true).length=8:=by rw[List.length_set];exact hRl
  have hw4:=IV (t:=T) hsl;have hii:(i:Int)<8:=by omega
  generalize R.getD i false=c at ci;clear f0 f1 g0 g1 b3 bd2 bd3;go_wp2_with (first
   | (refine wpList_load_row rfl 227 _ rfl w.heap.size rfl 227 _ (0,0) _ h0 underlying227 rfl hw4 ?_)
   | (refine wpList_store_row rfl 227 _ _ rfl (w.heap.size+1) _ rfl rfl 227 _ h1' hw4 (by rw[Dg,Dg,hsl];rfl) (Nj _ _) ?_))
  exact bodyPost_ret (v:=.agg (wA T (R.set i true))) (results_cell_row rfl _ _ (w.heap.size+1) 227 _ (0,0) _ rfl (setRow_heap _ (w.heap.size+1) _ _ 227 _ h1') underlying227 rfl hw4) rfl ⟨by rw[HS.out,HT.out],below_setRow bd4 (by omega) _⟩
 .obtain⟨i,hi,hni⟩:∃ i:Nat,i<8/\n-(t-8)=(i:Int):=⟨(n-(t-8)).toNat,by omega,by omega⟩;obtain⟨HS',HT'⟩:=Xb t n l hl (by omega) i hi (by omega);have HS:Hid (Jl t l n=l.set i true):=HS';have HT:Hid (FK t n=t):=HT';clear HS' HT';go_enter func180,ntmps180
  go_upto_region 1 with fail
  generalize hWW:((w.alloc (.cells (wA t l) 227)).alloc (.cells (wA 0 noB) 227))=W at e0 e1 bb hz ct;refine(congrArg (Code.wp _ _ _ _) hWW).mpr ?_;clear hWW;go_wp2_with (refine wpList_load_row rfl 227 _ rfl w.heap.size rfl 227 _ (0,0) _ e0 underlying227 rfl (IV hl) ?_)
  refine(Dt t l W hl (by omega) (by omega)).mono ?_;rintro e w3 ⟨rfl,b3⟩;have g0:=(b3.block w.heap.size (by omega)).trans e0;have g1:=(b3.block (w.heap.size+1) (by omega)).trans e1;have bd3:Bw w w3:=bb.trans (b3.mono (by omega));have hz3:w.heap.size+1<w3.heap.size:=by have:=b3.size;omega
  have ci:=(cell_of_row _ _ (1+i) _ _ _ g0).trans (J3 t l i (by omega));have fi:=frozen_of_row _ _ (1+i) _ _ g0;have h0:=Pm g0 i true;have h1':(w3.setCell ⟨w.heap.size,1+i,none⟩ (.bool true)).heap[w.heap.size+1]?=some (.cells (wA 0 noB) 227 (0,0)):=(heap_setCell_other _ _ _ _ (by simp)).trans g1;have bd4:Bw w (w3.setCell ⟨w.heap.size,1+i,none⟩ (.bool true)):=bd3.setCell (p:=⟨w.heap.size,1+i,none⟩) (by simp) _;have hsl:(l.set i true).length=8:=by rw[List.length_set];exact hl
  have hw4:=IV (t:=t) hsl;have hii:(i:Int)<8:=by omega
  generalize l.getD i false=c at ci;clear e0 e1 g0 g1 b3 bb bd3;go_wp2_with (first
   | (refine wpList_load_row rfl 227 _ rfl w.heap.size rfl 227 _ (0,0) _ h0 underlying227 rfl hw4 ?_)
   | (refine wpList_store_row rfl 227 _ _ rfl (w.heap.size+1) _ rfl rfl 227 _ h1' hw4 (by rw[Dg,Dg,hsl];rfl) (Nj _ _) ?_))
  exact bodyPost_ret (v:=.agg (wA t (l.set i true))) (results_cell_row rfl _ _ (w.heap.size+1) 227 _ (0,0) _ rfl (setRow_heap _ (w.heap.size+1) _ _ 227 _ h1') underlying227 rfl hw4) rfl ⟨by rw[HS.out,HT.out],below_setRow bd4 (by omega) _⟩
def I0(w':World)(v':Value)(n':Int)(key:List Int)(s t:Int)(l:List Bool)(r:List Int):Prop:=BR key s t l r=0->n'=E4 (r.take 4)/\Sl w' v' (IS key r)
theorem I0.no{w':World}{v':Value}{n':Int}{key:List Int}{s t:Int}{l:List Bool}{r:List Int}{E:Int}(h:BR key s t l r=E)(hE:E≠0):I0 w' v' n' key s t l r:=fun h0=>absurd (h.symm.trans h0) hE
theorem Mh(vk:Value)(key:List Int)(s t:Int)(l:List Bool)(vr:Value)(r:List Int)(w:World)(hk:Sl w vk key)(hl:l.length=8)(hr:Sl w vr r)(ht:Cf w) :
  Calls prog 179 #[.agg (chA vk s t l),vr] w fun e w'=>∃ v',∃ n',e=.returned (.tuple #[v',.int .i64 n',.int .i64 (BR key s t l r)])/\I0 w' v' n' key s t l r/\Bw w w':=by
 have hpos:=ht.pos;have bx:=Bx.new w vk s t l;obtain⟨ar,cr,rfl⟩:=hr.shape;have hrl:=hr.len;have hi:=DM (k:=vk) (s:=s) (t:=t) hl;by_cases hok:OkC key s t l
 .have HC:Hid (DN key s t l=0):=Hz hok;go_enter func179,ntmps179
  go_wp2_with (refine wpList_load_row rfl 110 _ rfl w.heap.size rfl 110 _ (0,0) _ bx.row underlying110 rfl hi ?_)
  refine(F5 vk key s t l _ (hk.below bx.bel) hl).mono ?_;rintro e w1 ⟨rfl,b1⟩;replace bx:=bx.step b1;rw[HC.out];clear b1;by_cases h2:2020<r.length
  .have HE:Hid (BR key s t l r=1):=by unfold Hid BR;rw[if_neg (fun h=>h hok),if_pos h2]
   have h2':(2020:Int)<(r.length:Int):=by omega
   go_wp2
   go_ret3
   exact⟨.slice none 0 0,0,by rw[HE.out];rfl,I0.no HE.out (by decide),bx.bel⟩
  .have h2':¬ (2020:Int)<(r.length:Int):=by omega
   by_cases h3:r.length<20
   .have HE:Hid (BR key s t l r=13):=by unfold Hid BR;rw[if_neg (fun h=>h hok),if_neg h2,if_pos h3]
    have h3':(r.length:Int)<20:=by omega
    go_wp2
    go_ret3
    exact⟨.slice none 0 0,0,by rw[HE.out];rfl,I0.no HE.out (by decide),bx.bel⟩
   .have h3':¬ (r.length:Int)<20:=by omega
    go_wp2_with fail
    refine(XL _ r w1 (hr.below bx.bel) (by omega)).mono ?_;rintro e w2 ⟨vh,vd,rfl,sh,sd,b2⟩;replace bx:=bx.step b2;have hhl:(r.take 4).length=4:=by rw[List.length_take];omega
    have hdl:(r.drop 4).length=r.length-4:=by rw[List.length_drop]
    obtain⟨H,hH⟩:∃ H,r.take 4=H:=⟨_,rfl⟩;obtain⟨D,hD⟩:∃ D,r.drop 4=D:=⟨_,rfl⟩;have HH:Hid (r.take 4=H):=hH;have HD:Hid (r.drop 4=D):=hD;rw[hH]at sh hhl
    rw[hD]at sd hdl
    have nr:=Ko hhl sh.byte;have HT:Hid (BR key s t l r=if 1073741824<=E4 H then 2 else if Gk t l (E4 H)=true then 7 else Dv key (Ba H) H D):=by
     unfold Hid BR;rw[if_neg (fun h=>h hok),if_neg h2,if_neg h3,hH,hD]
    have HTL:Hid (IS key r=O4 key (Ba H) H D):=by unfold Hid IS;rw[hH,hD]
    clear hH hD b2;go_wp2_with fail
    refine(MJ vh H w2 sh hhl).mono ?_;rintro e w2' ⟨rfl,rfl⟩;generalize hN:E4 H=N at HT nr;have HN:Hid (E4 H=N):=hN;clear hN;by_cases h4:1073741824<=N
    .have HE:Hid (BR key s t l r=2):=by unfold Hid;rw[HT.out,if_pos h4]
     go_wp2
     go_ret3
     exact⟨.slice none 0 0,0,by rw[HE.out];rfl,I0.no HE.out (by decide),bx.bel⟩
    .go_wp2_with (refine wpList_load_row rfl 110 _ rfl w.heap.size rfl 110 _ (0,0) _ bx.row underlying110 rfl hi ?_)
     refine(EH vk s t l w2' hl).mono ?_;rintro e w3 ⟨rfl,b3⟩;replace bx:=bx.step b3;replace sh:=sh.below b3;replace sd:=sd.below b3;have n0:=nr.1;have n1:N<1073741824:=by omega
     clear b3;go_wp2_with fail
     refine(SS t N l w3 hl hok.t0 hok.t1 n0 n1).mono ?_;rintro e w4 ⟨rfl,b4⟩;replace bx:=bx.step b4;replace sh:=sh.below b4;replace sd:=sd.below b4;clear b4;cases h5:Gk t l N with
     | true =>
      have HE:Hid (BR key s t l r=7):=by unfold Hid;rw[HT.out,if_neg (show ¬ 1073741824<=N by omega),h5,if_pos rfl]
      clear h5;go_wp2
      go_ret3
      exact⟨.slice none 0 0,0,by rw[HE.out];rfl,I0.no HE.out (by decide),bx.bel⟩
     | false =>
      have HE:Hid (BR key s t l r=Dv key (Ba H) H D):=by unfold Hid;rw[HT.out,if_neg (show ¬ 1073741824<=N by omega),h5,if_neg (by simp)]
      have hk2:=hk.below bx.bel;have ht2:=ht.below hpos bx.bel;have hpos2:4<w4.heap.size:=by have:=bx.lt;omega
      have c0:=bx.c0;have bel2:=bx.bel;have hd:Bw w4 w4.drew:=(Below.refl _ _).drew;have hzz:w.heap.size<w4.drew.heap.size:=bx.lt;clear h5 hk hr ht hok;go_wp2_with fail
      go_region_with (first
       | (go_at_call 119;refine(IC _ H _ (sh.below hd) hhl).mono ?_;rintro e w5 ⟨vn,rfl,sn,b5⟩;have c5:=(b5.cell (p:=⟨w.heap.size,0,none⟩) hzz).trans c0)
       | (go_at_call 196;refine(VY vk vn _ _ key (Ba H) H D _ ((hk2.below hd).below b5) sn ((sh.below hd).below b5) ((sd.below hd).below b5) ((ht2.below hpos2 hd).below hpos2 b5)).mono ?_;rintro e w6 ⟨vx,rfl,sx,b6⟩))
      all_goals
       have d5:Bw w w5:=bel2.trans ((hd.trans b5).mono bel2.size);have d6:Bw w w6:=d5.trans (b6.mono d5.size);clear bx sh sd hk2 ht2 hd c0 c5 sn b5 b6 hzz bel2;generalize Dv key (Ba H) H D=E at HE;generalize O4 key (Ba H) H D=X at HTL sx;go_wp2
       go_ret3
       exact⟨vx,N,by rw[HE.out];rfl,fun _=>⟨by rw[HH.out,HN.out],by rw[HTL.out];exact sx⟩,d6⟩
 .have HC:Hid (DN key s t l=5):=Di hok;have HE:Hid (BR key s t l r=5):=if_pos hok;go_enter func179,ntmps179
  go_wp2_with (refine wpList_load_row rfl 110 _ rfl w.heap.size rfl 110 _ (0,0) _ bx.row underlying110 rfl hi ?_)
  refine(F5 vk key s t l _ (hk.below bx.bel) hl).mono ?_;rintro e w1 ⟨rfl,b1⟩;replace bx:=bx.step b1;rw[HC.out];go_wp2
  go_ret3
  exact⟨.slice none 0 0,0,by rw[HE.out];rfl,I0.no HE.out (by decide),bx.bel⟩
theorem Xc{key:List Int}{s t:Int}{l:List Bool}{r:List Int}(h:BR key s t l r=0):OkC key s t l/\20<=r.length/\r.length<=2020/\E4 (r.take 4)<1073741824/\Gk t l (E4 (r.take 4))=false/\Dv key (Ba (r.take 4)) (r.take 4) (r.drop 4)=0:=by
 unfold BR at h;by_cases h1:OkC key s t l
 .rw[if_neg (fun h=>h h1)]at h
  by_cases h2:2020<r.length
  .rw[if_pos h2]at h;omega
  .rw[if_neg h2]at h
   by_cases h3:r.length<20
   .rw[if_pos h3]at h;omega
   .rw[if_neg h3]at h
    by_cases h4:1073741824<=E4 (r.take 4)
    .rw[if_pos h4]at h;omega
    .rw[if_neg h4]at h
     cases h5:Gk t l (E4 (r.take 4))with
     | true=>rw[h5,if_pos rfl]at h;omega
     | false =>
      rw[h5,if_neg (by simp)]at h
      exact⟨h1,by omega,by omega,by omega,rfl,h⟩
 .rw[if_pos h1]at h;omega
theorem Zg(vk:Value)(key:List Int)(s t:Int)(l:List Bool)(vr:Value)(r:List Int)(w:World)(hk:Sl w vk key)(hl:l.length=8)(hr:Sl w vr r)(ht:Cf w)(E:Int)(hE:BR key s t l r=E)(hE0:E≠0) :
  Calls prog 157 #[.agg (chA vk s t l),vr] w fun e w'=>e=.returned (.tuple #[.agg (chA (.slice none 0 0) 0 0 noB),.slice none 0 0,.int .i64 E])/\Bw w w':=by
 have hpos:=ht.pos;have bx:=By.new w vk s t l;have hi:=DM (k:=vk) (s:=s) (t:=t) hl;have HE:Hid (BR key s t l r=E):=hE;clear hE;go_enter func157,ntmps157
 go_wp2_with (refine wpList_load_row rfl 110 _ rfl w.heap.size rfl 110 _ (0,0) _ bx.row underlying110 rfl hi ?_)
 refine(Mh _ key s t l vr r _ (hk.below bx.bel) hl (hr.below bx.bel) (ht.below hpos bx.bel)).mono ?_;rintro e w1 ⟨v2,n2,rfl,s2,b1⟩;rw[HE.out];replace bx:=bx.step b1;clear b1;have hi4:=DM (k:=.slice none 0 0) (s:=0) (t:=0) Gi;have ho4:=Js (Sl.nil w none) 0 0 noB;go_wp2_with (refine wpList_store_row rfl 110 _ _ rfl (w.heap.size+1) (chA (.slice none 0 0) 0 0 noB) rfl rfl 110 _ bx.res hi4 rfl ho4 ?_)
 have r2:=setRow_heap w1 (w.heap.size+1) _ (chA (.slice none 0 0) 0 0 noB) 110 _ bx.res;exact bodyPost_ret (EA rfl _ _ (w.heap.size+1) 110 _ (0,0) _ rfl r2 underlying110 rfl hi4) rfl ⟨rfl,below_setRow bx.bel (by omega) _⟩
theorem Nx(k:Value)(s t:Int)(l:List Bool)(i:Nat)(x:Bool):(chA k s t l).setIfInBounds (3+i) (.bool x)=chA k s t (l.set i x):=by
 apply Array.ext';rw[Nat.add_comm];simp[chA,List.map_set]
theorem By.top{w W:World}{k:Value}{s t:Int}{l:List Bool}(h:By w W k s t l)(t':Int):By w (W.setCell ⟨w.heap.size,2,none⟩ (.int .i64 t')) k s t' l :=
 ⟨by rw[heap_setCell_same _ _ _ _ _ _ h.row,P3],(heap_setCell_other _ _ _ _ (by simp)).trans h.res,h.bel.setCell (p:=⟨w.heap.size,2,none⟩) (by simp) _⟩
theorem By.seen{w W:World}{k:Value}{s t:Int}{l:List Bool}(h:By w W k s t l)(i o:Nat)(ho:o=3+i)(x:Bool)(l':List Bool)(hl':l.set i x=l'):By w (W.setCell ⟨w.heap.size,o,none⟩ (.bool x)) k s t l':=by
 subst ho;subst hl';exact⟨by rw[heap_setCell_same _ _ _ _ _ _ h.row,Nx],(heap_setCell_other _ _ _ _ (by simp)).trans h.res,h.bel.setCell (p:=⟨w.heap.size,3+i,none⟩) (by simp) _⟩
theorem By.drew{w W:World}{k:Value}{s t:Int}{l:List Bool}(h:By w W k s t l):By w W.drew k s t l:=⟨h.row,h.res,h.bel.drew⟩
theorem By.laid{w W:World}{a:Option Addr}{n c:Nat}{s t:Int}{x0 x1 x2 x3 x4 x5 x6 x7:Bool}(h:By w W (.slice a n c) s t [x0,x1,x2,x3,x4,x5,x6,x7])(T:Int)(b0 b1 b2 b3 b4 b5 b6 b7:Bool) :
  By w (((((((((W.setCell ⟨w.heap.size,2,none⟩ (.int .i64 T)).setCell ⟨w.heap.size,3,none⟩ (.bool b0)).setCell ⟨w.heap.size,4,none⟩ (.bool b1)).setCell ⟨w.heap.size,5,none⟩ (.bool b2)).setCell ⟨w.heap.size,6,none⟩ (.bool b3)).setCell ⟨w.heap.size,7,none⟩ (.bool b4)).setCell ⟨w.heap.size,8,none⟩ (.bool b5)).setCell ⟨w.heap.size,9,none⟩ (.bool b6)).setCell ⟨w.heap.size,10,none⟩ (.bool b7)).drew (.slice a n c) s T [b0,b1,b2,b3,b4,b5,b6,b7]/\(∀ v n xs,W.ownsRow 0 5 1 v n xs->(((((((((W.setCell ⟨w.heap.size,2,none⟩ (.int .i64 T)).setCell ⟨w.heap.size,3,none⟩ (.bool b0)).setCell ⟨w.heap.size,4,none⟩ (.bool b1)).setCell ⟨w.heap.size,5,none⟩ (.bool b2)).setCell ⟨w.heap.size,6,none⟩ (.bool b3)).setCell ⟨w.heap.size,7,none⟩ (.bool b4)).setCell ⟨w.heap.size,8,none⟩ (.bool b5)).setCell ⟨w.heap.size,9,none⟩ (.bool b6)).setCell ⟨w.heap.size,10,none⟩ (.bool b7)).drew.ownsRow 0 5 1 v n xs)/\∀ v p,Sl W v p->Sl (((((((((W.setCell ⟨w.heap.size,2,none⟩ (.int .i64 T)).setCell ⟨w.heap.size,3,none⟩ (.bool b0)).setCell ⟨w.heap.size,4,none⟩ (.bool b1)).setCell ⟨w.heap.size,5,none⟩ (.bool b2)).setCell ⟨w.heap.size,6,none⟩ (.bool b3)).setCell ⟨w.heap.size,7,none⟩ (.bool b4)).setCell ⟨w.heap.size,8,none⟩ (.bool b5)).setCell ⟨w.heap.size,9,none⟩ (.bool b6)).setCell ⟨w.heap.size,10,none⟩ (.bool b7)).drew v p:=by
 have h0:=h.top T;have h1:=h0.seen 0 3 rfl b0 [b0,x1,x2,x3,x4,x5,x6,x7] rfl;have h2:=h1.seen 1 4 rfl b1 [b0,b1,x2,x3,x4,x5,x6,x7] rfl;have h3:=h2.seen 2 5 rfl b2 [b0,b1,b2,x3,x4,x5,x6,x7] rfl;have h4:=h3.seen 3 6 rfl b3 [b0,b1,b2,b3,x4,x5,x6,x7] rfl;have h5:=h4.seen 4 7 rfl b4 [b0,b1,b2,b3,b4,x5,x6,x7] rfl;have h6:=h5.seen 5 8 rfl b5 [b0,b1,b2,b3,b4,b5,x6,x7] rfl;have h7:=h6.seen 6 9 rfl b6 [b0,b1,b2,b3,b4,b5,b6,x7] rfl;have h8:=h7.seen 7 10 rfl b7 [b0,b1,b2,b3,b4,b5,b6,b7] rfl;refine⟨h8.drew,fun v n xs ho=>?_,fun v p hs=>?_⟩
 .exact(AF (AF (AF (AF (AF (AF (AF (AF (AF ho h.row (by decide) 2 _) h0.row (by decide) 3 _) h1.row (by decide) 4 _) h2.row (by decide) 5 _) h3.row (by decide) 6 _) h4.row (by decide) 7 _) h5.row (by decide) 8 _) h6.row (by decide) 9 _) h7.row (by decide) 10 _).drew
 exact(((((((((hs.setBox h.row 2 _).setBox h0.row 3 _).setBox h1.row 4 _).setBox h2.row 5 _).setBox h3.row 6 _).setBox h4.row 7 _).setBox h5.row 8 _).setBox h6.row 9 _).setBox h7.row 10 _).drew
theorem Zh(vk:Value)(key:List Int)(s t:Int)(l:List Bool)(vr:Value)(r:List Int)(w:World)(hk:Sl w vk key)(hl:l.length=8)(hr:Sl w vr r)(ht:Cf w)(hE:BR key s t l r=0)(n:Int)(hn:E4 (r.take 4)=n) :
  Calls prog 157 #[.agg (chA vk s t l),vr] w fun e w'=>∃ v1,∃ v2,e=.returned (.tuple #[.agg (chA v1 s (FK t n) (Jl t l n)),v2,.int .i64 0])/\Sl w' v1 key/\w'.ownsRow 0 5 1 v1 key.length (key.map (Value.int .u8))/\Sl w' v2 (IS key r)/\Bw w w':=by
 have hpos:=ht.pos;have bx:=By.new w vk s t l;have hi:=DM (k:=vk) (s:=s) (t:=t) hl;obtain⟨hok,hr20,hr2020,hn1,hold,hop⟩:=Xc hE;rw[hn]at hn1 hold
 have hn0:0<=n:=by
  rw[<- hn];exact(Ko (by rw[List.length_take];omega) (fun x hx=>hr.byte x (List.mem_of_mem_take hx))).1
 have hn8:t-8<=n:=by
  by_cases h:n<t-8
  .rw[Oz h]at hold;cases hold
  .omega
 have t0:=hok.t0;have t1:=hok.t1;have HE:Hid (BR key s t l r=0):=hE;have HN:Hid (E4 (r.take 4)=n):=hn;obtain⟨ak,ck,rfl⟩:=hk.shape;generalize hnk:key.length=nk at hk hi bx ⊢;have HNK:Hid (key.length=nk):=hnk;clear hnk;go_enter func157,ntmps157
 clear hE hok hn hold hop hr20 hr2020;go_wp2_with (refine wpList_load_row rfl 110 _ rfl w.heap.size rfl 110 _ (0,0) _ bx.row underlying110 rfl hi ?_)
 refine(Mh _ key s t l vr r _ (hk.below bx.bel) hl (hr.below bx.bel) (ht.below hpos bx.bel)).mono ?_;rintro e w1 ⟨v2,n2,rfl,s2',b1⟩;rw[HE.out];obtain⟨hn2,s2⟩:=s2' HE.out;rw[HN.out]at hn2
 subst hn2;replace bx:=bx.step b1;clear b1 s2';go_wp2_with (refine wpList_load_row rfl 110 _ rfl w.heap.size rfl 110 _ (0,0) _ bx.row underlying110 rfl hi ?_)
 refine(EH _ s t l w1 hl).mono ?_;rintro e w2 ⟨rfl,b2⟩;replace bx:=bx.step b2;replace s2:=s2.below b2;clear b2;go_wp2_with fail
 refine(Xv t n2 l w2 hl t0 t1 hn8 hn0 hn1).mono ?_;rintro e w3 ⟨rfl,b3⟩;replace bx:=bx.step b3;replace s2:=s2.below b3;clear b3;have hSl:=DH t l n2;generalize hT:FK t n2=T;generalize hS:Jl t l n2=S at hSl;have HT:Hid (FK t n2=T):=hT;have HS:Hid (Jl t l n2=S):=hS;clear hT hS;obtain⟨b0,b1,b2,b3,b4,b5,b6,b7,rfl⟩:=FS S hSl;simp only[wA,List.map]
 go_upto_region 5 with fail
 have g0:(w3.alloc (.cells (wA T [b0,b1,b2,b3,b4,b5,b6,b7]) 227)).heap[w3.heap.size]?=some (.cells (wA T [b0,b1,b2,b3,b4,b5,b6,b7]) 227 (0,0)):=heap_alloc_new _ _;have b4':Bw w3 (w3.alloc (.cells (wA T [b0,b1,b2,b3,b4,b5,b6,b7]) 227)):=(Below.refl _ _).alloc (Nat.le_refl _) _;simp only[wA,List.map]at g0 b4';have hG:=bx.lt;replace bx:=bx.step b4';replace s2:=s2.below b4';generalize w3.alloc (.cells #[.int .i64 T,.bool b0,.bool b1,.bool b2,.bool b3,.bool b4,.bool b5,.bool b6,.bool b7] 227)=w4 at g0 b4' bx s2 ⊢;clear b4';generalize w3.heap.size=G at g0 hG ⊢;have c0:=bx.c0;have hGz:G<w4.heap.size:=(Array.getElem?_eq_some_iff.1 g0).1;go_wp2_with fail
 refine(H9 _ key w4 (hk.below bx.bel)).mono ?_;rintro e w5 ⟨v1,rfl,o1,b5'⟩;replace bx:=bx.step b5';replace s2:=s2.below b5';replace g0:=(b5'.block G hGz).trans g0;have sk:=Sl.ofOwns o1 hk.len hk.byte;replace o1:=AM o1 (Nat.zero_le _);clear b5' c0 hGz;obtain⟨a1,c1,hv1⟩:=sk.shape;generalize hn1:key.length=n1 at hv1 o1;have HKN:Hid (key.length=n1):=hn1;clear hn1;subst hv1;have c0:=bx.c0;have f0:=bx.fr 0
 go_upto_region 6 with fail
 replace s2:=s2.setBox bx.row 0 (.slice a1 n1 c1);replace sk:=sk.setBox bx.row 0 (.slice a1 n1 c1);replace o1:=AF o1 bx.row (by decide) 0 (.slice a1 n1 c1);have g1:(w5.setCell ⟨w.heap.size,0,none⟩ (.slice a1 n1 c1)).heap[G]?=some (.cells (wA T [b0,b1,b2,b3,b4,b5,b6,b7]) 227 (0,0)):=(heap_setCell_other _ _ _ _ (by simp;omega)).trans g0;replace bx:=bx.key (.slice a1 n1 c1);generalize w5.setCell ⟨w.heap.size,0,none⟩ (.slice a1 n1 c1)=w6 at s2 sk o1 bx g1 ⊢;clear c0 f0 g0;have e1:Bw w6 w6.drew:=(Below.refl _ _).drew;obtain⟨x0,x1,x2,x3,x4,x5,x6,x7,rfl⟩:=FS l hl;obtain⟨c0,c1',c2,c3,c4,c5,c6,c7,c8,c9,c10⟩:=Sz bx.row;obtain⟨e0,e1',e2,e3,e4,e5,e6,e7,e8⟩:=KL g1;have f2:=bx.fr 2;have f3:=bx.fr 3;have f4:=bx.fr 4;have f5:=bx.fr 5;have f6:=bx.fr 6;have f7:=bx.fr 7;have f8:=bx.fr 8;have f9:=bx.fr 9;have f10:=bx.fr 10;have hne:¬ G=w.heap.size:=by omega
 have hne':¬ w.heap.size=G:=by omega
 go_region
 obtain⟨by2,hO2,hS2⟩:=bx.laid T b0 b1 b2 b3 b4 b5 b6 b7;replace s2:=hS2 _ _ s2;replace sk:=hS2 _ _ sk;replace o1:=hO2 _ _ _ o1;clear hS2 hO2 c0 c1' c2 c3 c4 c5 c6 c7 c8 c9 c10 e0 e1' e2 e3 e4 e5 e6 e7 e8 f2 f3 f4 f5 f6 f7 f8 f9 f10 bx g1 e1;generalize (((((((((w6.setCell ⟨w.heap.size,2,none⟩ (.int .i64 T)).setCell ⟨w.heap.size,3,none⟩ (.bool b0)).setCell ⟨w.heap.size,4,none⟩ (.bool b1)).setCell ⟨w.heap.size,5,none⟩ (.bool b2)).setCell ⟨w.heap.size,6,none⟩ (.bool b3)).setCell ⟨w.heap.size,7,none⟩ (.bool b4)).setCell ⟨w.heap.size,8,none⟩ (.bool b5)).setCell ⟨w.heap.size,9,none⟩ (.bool b6)).setCell ⟨w.heap.size,10,none⟩ (.bool b7)).drew=w7 at by2 s2 sk o1 ⊢;have hi4:=DM (k:=.slice a1 n1 c1) (s:=s) (t:=T) hSl;have ho4:=Js sk s T [b0,b1,b2,b3,b4,b5,b6,b7];have hold:(chA (.slice none 0 0) 0 0 noB).size=(chA (.slice a1 n1 c1) s T [b0,b1,b2,b3,b4,b5,b6,b7]).size:=rfl;go_wp2_with (first
  | (refine wpList_load_row rfl 110 _ rfl w.heap.size rfl 110 _ (0,0) _ by2.row underlying110 rfl hi4 ?_)
  | (refine wpList_store_row rfl 110 _ _ rfl (w.heap.size+1) _ rfl rfl 110 _ by2.res hi4 hold ho4 ?_))
 have r2:=setRow_heap w7 (w.heap.size+1) _ (chA (.slice a1 n1 c1) s T [b0,b1,b2,b3,b4,b5,b6,b7]) 110 _ by2.res;exact bodyPost_ret (EA rfl _ _ (w.heap.size+1) 110 _ (0,0) _ rfl r2 underlying110 rfl hi4) rfl ⟨.slice a1 n1 c1,v2,by rw[HT.out,HS.out];rfl,sk.setRowBox by2.res _,by rw[<- HNK.out,HKN.out];exact DR o1 by2.res (by decide) _,s2.setRowBox by2.res _,below_setRow by2.bel (by omega) _⟩
end
end Go.Proofs.YtalbmmghmoggcaaGreatDoor
