/- Part 24 of the walk. -/
import Derived.Lib.LazyBuf
import Derived.Test.YtalbmmghmoggcadGreatDoorZ14
set_option maxRecDepth 100000
set_option maxHeartbeats 4000000
open Go.Proofs.Tryz
set_option linter.unusedVariables false
namespace Go.Proofs.YtalbmmghmoggcadGreatDoor
open Go.RowKit
section
theorem dU(c:Int)(w:World)(h0:0<=c)(h1:c<=7)(ht:AE w) :
  Calls prog 14 #[.int .i64 c] w λe w'=>∃ v',e=.returned (.tuple #[v',.int .i64 0])/\w'.ownsRow w.heap.size 5 1 v' (Gr c).length ((Gr c).map (Value.int .u8))/\Bw w w':=by
 have d0:decide (c<0)=false:=by simp;omega
 have d1:decide ((7:Int)<c)=false:=by simp;omega
 have hw:IntKind.u8.wrap c=c:=by rw[show IntKind.u8.wrap c=c%256 from rfl];omega
 have kc:=Go.Joins.run_convert_bytes_const_at (P:=prog) (w.alloc (.cells #[.int .u8 c] 5)) 28 5 #[.int .u8 99,.int .u8 108,.int .u8 105,.int .u8 101,.int .u8 110,.int .u8 116] 6 6 (w.heap.size+1) (by simp) underlying28 underlying5;go_enter func14,ntmps14
 go_wp2_with fail
 have s0:Sl (w.alloc (.cells #[.int .u8 c] 5)) (.slice (some ⟨w.heap.size,0,none⟩) 1 1) [c]:=Sl.one w c 5 rfl ⟨h0,by omega⟩;have b0:Bw w (w.alloc (.cells #[.int .u8 c] 5)):=(Below.refl _ _).alloc (A' _) _;have s1:=Sl.sixM (w.alloc (.cells #[.int .u8 c] 5)) [99,108,105,101,110,116] 5 (6,7) (g:=w.heap.size+1) (by simp) rfl (by simp);have b1:Bw w ((w.alloc (.cells #[.int .u8 c] 5)).alloc (.cells #[.int .u8 99,.int .u8 108,.int .u8 105,.int .u8 101,.int .u8 110,.int .u8 116] 5 (6,7))):=b0.alloc (by simp) _;have s0':=s0.below ((Below.refl (w.alloc (.cells #[.int .u8 c] 5)).heap.size _).alloc (A' _) (.cells #[.int .u8 99,.int .u8 108,.int .u8 105,.int .u8 101,.int .u8 110,.int .u8 116] 5 (6,7)));refine(S9 _ _ _ [c] [99,108,105,101,110,116] [] 32 _ s0' s1 (Sl.nil _ _) (by simp) (by simp) (by simp) (by omega) (ht.below b1)).mono ?_;rintro e w1 ⟨v1,rfl,o1,b2⟩;go_wp2
 go_ret2
 exact⟨v1,rfl,AV o1 b1.size,b1.trans (b2.mono b1.size)⟩
theorem dS(c:Int)(w:World)(h:c<0\/7<c) :
  Calls prog 14 #[.int .i64 c] w λe w'=>e=.returned (.tuple #[.slice none 0 0,.int .i64 2])/\w'=w:=by
 by_cases h0:c<0
 .have d0:decide (c<0)=true:=by simp;omega
  go_enter func14,ntmps14
  go_wp2
  go_ret2
  exact⟨rfl,rfl⟩
 .have d0:decide (c<0)=false:=by simp;omega
  have d1:decide ((7:Int)<c)=true:=by simp;omega
  go_enter func14,ntmps14
  go_wp2
  go_ret2
  exact⟨rfl,rfl⟩
theorem R0(w:World)(ht:AE w) :
  Calls prog 12 #[] w λe w'=>∃ v',e=.returned v'/\w'.ownsRow w.heap.size 5 1 v' Gq.length (Gq.map (Value.int .u8))/\Bw w w':=by
 have kc:=Go.Joins.run_convert_bytes_const_at (P:=prog) (w.alloc (.cells #[.int .u8 255] 5)) 28 5 #[.int .u8 105,.int .u8 115,.int .u8 115,.int .u8 117,.int .u8 101,.int .u8 114] 6 6 (w.heap.size+1) (by simp) underlying28 underlying5;go_enter func12,ntmps12
 go_wp2_with fail
 have s0:Sl (w.alloc (.cells #[.int .u8 255] 5)) (.slice (some ⟨w.heap.size,0,none⟩) 1 1) [255]:=Sl.one w 255 5 rfl ⟨by omega,by omega⟩;have b0:Bw w (w.alloc (.cells #[.int .u8 255] 5)):=(Below.refl _ _).alloc (A' _) _;have s1:=Sl.sixM (w.alloc (.cells #[.int .u8 255] 5)) [105,115,115,117,101,114] 5 (6,7) (g:=w.heap.size+1) (by simp) rfl (by simp);have b1:Bw w ((w.alloc (.cells #[.int .u8 255] 5)).alloc (.cells #[.int .u8 105,.int .u8 115,.int .u8 115,.int .u8 117,.int .u8 101,.int .u8 114] 5 (6,7))):=b0.alloc (by simp) _;have s0':=s0.below ((Below.refl (w.alloc (.cells #[.int .u8 255] 5)).heap.size _).alloc (A' _) (.cells #[.int .u8 105,.int .u8 115,.int .u8 115,.int .u8 117,.int .u8 101,.int .u8 114] 5 (6,7)));refine(S9 _ _ _ [255] [105,115,115,117,101,114] [] 32 _ s0' s1 (Sl.nil _ _) (by simp) (by simp) (by simp) (by omega) (ht.below b1)).mono ?_;rintro e w1 ⟨v1,rfl,o1,b2⟩;go_wp2
 go_ret;exact⟨v1,rfl,AV o1 b1.size,b1.trans (b2.mono b1.size)⟩
theorem Sl.one2H(w:World)(b b':Int)(e:TypeId){g:Nat}(hg:g=w.heap.size)(hb:0<=b/\b<256)(he:b'=b):Sl (w.alloc (.cells #[.int .u8 b'] e)) (.slice (some ⟨g,0,none⟩) 1 1) [b]:=by
 subst he;exact Sl.one w b' e hg hb
theorem Pj(a:Option Addr)(n c:Nat):∀ w,(binOp .eql 28 (.slice a n c) (.slice none 0 0)).run prog w=.ok (.bool a.isNone) w :=
 λw=>run_eql_slice_nil (P:=prog) w 28 5 a n c underlying28
variable{A:Array Value}{B c cap n:Nat}{W W' w w':World}{a:Option Addr}{k v:Value}{l:List Bool}{p:List Int}{s t:Int}{ty:TypeId}{xs:List Value}
theorem GS{base e:Nat}(h:w.ownsRow base e 1 v n xs)(hk:∀ k,v.ownBlock=some k->w'.heap[k]?=w.heap[k]?):w'.ownsRow base e 1 v n xs:=by
 refine⟨h.1,?_⟩;rcases h.2 with h2|⟨g,cap,cur,hv,hb,hg,hr⟩
 .exact .inl h2
 .exact .inr ⟨g,cap,cur,hv,hb,(hk g (by rw[hv];rfl)).trans hg,hr⟩
theorem I7(v:Value)(l:List Int)(w:World)(h:Sl w v l) :
  Calls prog 26 #[v] w λe w'=>∃ v',e=.returned v'/\w'.ownsRow w.heap.size 5 1 v' l.length (l.map (Value.int .u8))/\Bw w w':=by
 have hs:=h;have hl:=h.len;obtain⟨⟨a,cap,rfl,hc,hn,h1⟩,h2,h3⟩:=h;cases a with
 | none =>
  obtain rfl:=hn rfl;obtain rfl:l=[]:=iN (by omega);have hq:=Pj none 0 0;go_enter func26,ntmps26
  go_wp2
  go_ret;exact⟨_,rfl,World.ownsRow_nil _ _ _ _,Below.refl _ _⟩
 | some ad =>
  have ho0:(w.alloc (.cells #[] 5)).ownsRow w.heap.size 5 1 (.slice (some ⟨w.heap.size,0,none⟩) 0 0) ([]:List Int).length (([]:List Int).map (Value.int .u8)):=by
   refine⟨rfl,.inr ⟨w.heap.size,0,#[],rfl,A' _,heap_alloc_new _ _,A' _,jf _,rfl,rfl⟩⟩
  have hq:=Pj (some ad) l.length cap;have hs1:=hs.below ((Below.refl w.heap.size w).alloc (A' _) (.cells #[] 5));go_enter func26,ntmps26
  go_wp2_with (at_builtin;refine Aa _ rfl _ _ 28 rfl w.heap.size 5 underlying28 At _ _ rfl rfl [] l ho0 hs1 (by simp;omega) (by simp) ?_)
  intro v' w' ho hg;have hb2:Bw w w':=((Below.refl w.heap.size w).alloc (A' _) (.cells #[] 5)).grown hg (by simp) (λk hk=>(ho0.lt k hk).1);go_wp2
  go_ret;exact⟨v',rfl,by simpa using ho,hb2⟩
theorem Rr(n:Int)(w:World)(n0:0<=n)(n1:n<1073741824) :
  Calls prog 40 #[.int .i64 n] w λe w'=>∃ v',e=.returned v'/\w'.ownsRow w.heap.size 5 1 v' (Ad n).length ((Ad n).map (Value.int .u8))/\Bw w w':=by
 go_enter func40,ntmps40
 go_wp2_with fail
 go_loopw [3,4] (λv iv wr=>∃ j:Nat,j<=4/\iv=.int .i64 (3-(j:Int))/\wr.ownsRow w.heap.size 5 1 v ((Ad n).take j).length (((Ad n).take j).map (Value.int .u8))/\Bw w wr) (λ_ iv _=>(intOf iv+1).toNat)
 case atStart=>exact⟨0,by omega,rfl,World.ownsRow_nil _ _ _ _,Below.refl _ _⟩
 case round =>
  obtain⟨j,hj,rfl,hown,hbel⟩:=hrel;have hlt:=hown.lt;have hz:=hbel.size;by_cases hj4:j<4
  .have:j=0\/j=1\/j=2\/j=3:=by omega
   rcases this with rfl|rfl|rfl|rfl
   .rw[show(3:Int)-((0:Nat):Int)=3 from rfl];go_wp2_with (at_builtin;refine Aa _ rfl _ _ 28 rfl w.heap.size 5 underlying28 At _ _ rfl rfl ((Ad n).take 0) [n/16777216%256] (hown.alloc _) (Sl.one2H _ (n/16777216%256) _ _ rfl (by omega) (by omega)) (by simp[Ad]) (by simp;omega) ?_)
    intro v2 w2 ho2 hg2;have hb2:Bw w w2:=(hbel.alloc (by omega) _).grown hg2 (by simp;omega) (λk hk=>(hlt k hk).1);have HO2:Hid (w2.ownsRow w.heap.size 5 1 v2 ((Ad n).take 1).length (((Ad n).take 1).map (Value.int .u8))):=ho2;clear ho2 hg2 hown hlt hbel;go_wp2
    go_roundw
    case rel=>exact⟨1,by omega,rfl,HO2.out,hb2⟩
    case measure=>simp[intOf]
   .rw[show(3:Int)-((1:Nat):Int)=2 from rfl];go_wp2_with (at_builtin;refine Aa _ rfl _ _ 28 rfl w.heap.size 5 underlying28 At _ _ rfl rfl ((Ad n).take 1) [n/65536%256] (hown.alloc _) (Sl.one2H _ (n/65536%256) _ _ rfl (by omega) (by omega)) (by simp[Ad]) (by simp;omega) ?_)
    intro v2 w2 ho2 hg2;have hb2:Bw w w2:=(hbel.alloc (by omega) _).grown hg2 (by simp;omega) (λk hk=>(hlt k hk).1);have HO2:Hid (w2.ownsRow w.heap.size 5 1 v2 ((Ad n).take 2).length (((Ad n).take 2).map (Value.int .u8))):=ho2;clear ho2 hg2 hown hlt hbel;go_wp2
    go_roundw
    case rel=>exact⟨2,by omega,rfl,HO2.out,hb2⟩
    case measure=>simp[intOf]
   .rw[show(3:Int)-((2:Nat):Int)=1 from rfl];go_wp2_with (at_builtin;refine Aa _ rfl _ _ 28 rfl w.heap.size 5 underlying28 At _ _ rfl rfl ((Ad n).take 2) [n/256%256] (hown.alloc _) (Sl.one2H _ (n/256%256) _ _ rfl (by omega) (by omega)) (by simp[Ad]) (by simp;omega) ?_)
    intro v2 w2 ho2 hg2;have hb2:Bw w w2:=(hbel.alloc (by omega) _).grown hg2 (by simp;omega) (λk hk=>(hlt k hk).1);have HO2:Hid (w2.ownsRow w.heap.size 5 1 v2 ((Ad n).take 3).length (((Ad n).take 3).map (Value.int .u8))):=ho2;clear ho2 hg2 hown hlt hbel;go_wp2
    go_roundw
    case rel=>exact⟨3,by omega,rfl,HO2.out,hb2⟩
    case measure=>simp[intOf]
   .rw[show(3:Int)-((3:Nat):Int)=0 from rfl];go_wp2_with (at_builtin;refine Aa _ rfl _ _ 28 rfl w.heap.size 5 underlying28 At _ _ rfl rfl ((Ad n).take 3) [n%256] (hown.alloc _) (Sl.one2H _ (n%256) _ _ rfl (by omega) (by omega)) (by simp[Ad]) (by simp;omega) ?_)
    intro v2 w2 ho2 hg2;have hb2:Bw w w2:=(hbel.alloc (by omega) _).grown hg2 (by simp;omega) (λk hk=>(hlt k hk).1);have HO2:Hid (w2.ownsRow w.heap.size 5 1 v2 ((Ad n).take 4).length (((Ad n).take 4).map (Value.int .u8))):=ho2;clear ho2 hg2 hown hlt hbel;go_wp2
    go_roundw
    case rel=>exact⟨4,by omega,rfl,HO2.out,hb2⟩
    case measure=>simp[intOf]
  .obtain rfl:j=4:=by omega
   rw[show(3:Int)-((4:Nat):Int)=-1 from rfl];have HO:Hid _:=hown;clear hown hlt;go_wp2
   go_ret;exact⟨_,rfl,HO.out,hbel⟩
theorem aI(x b:Int)(hx:0<=x/\x<36028797018963968)(hb:0<=b/\b<256):bits .or .i64 (x*256) b=x*256+b:=by
 obtain⟨x,rfl⟩:=jj hx.1;obtain⟨y,rfl⟩:=jj hb.1;have e:(x:Int)*256=((x*256:Nat):Int):=by omega
 have key:(BitVec.ofInt 64 ((x*256:Nat):Int) ||| BitVec.ofInt 64 (y:Int)).toNat=x*256+y:=by
  rw[mt,lE,lE];have h1:((y:Int)%((2^64:Nat):Int)).toNat=y:=by omega
  have h2:(((x*256:Nat):Int)%((2^64:Nat):Int)).toNat=2^8*x:=by omega
  rw[h1,h2,<- kM (by omega:y<2^8)];omega
 rw[e];show IntKind.i64.wrap ((BitVec.ofInt 64 ((x*256:Nat):Int) ||| BitVec.ofInt 64 (y:Int)).toNat:Nat)=_;rw[key,IntKind.wrap_i64];omega
def JM(h:List Int):Nat->Int
 | 0=>0
 | k+1=>JM h k*256+h.getD k 0
theorem RF{h:List Int}(hb:∀ x∈h,0<=x/\x<256)(k:Nat):0<=JM h k/\JM h k<256^k:=by
 induction k with
 | zero=>simp[JM]
 | succ k ih =>
  have:=Al hb k;rw[JM,lQ];omega
theorem Sl.spotH{l:List Int}(h:Sl w (.slice a n cap) l)(k:Nat)(hk:k<l.length):∃ bd od,a=some ⟨bd,od,none⟩/\bd<w.heap.size/\w.cell? ⟨bd,od+k,none⟩=some (.int .u8 (l.getD k 0)):=by
 obtain⟨⟨a',cap',e,hc,hn,h1⟩,hla,hba⟩:=h;simp only[Value.slice.injEq]at e;obtain⟨rfl,rfl,rfl⟩:=e;rcases h1 with rfl|⟨b,off,rfl,hb,hcell⟩
 .simp at hk
 .exact⟨b,off,rfl,hb,hcell k hk⟩
theorem Oj(v:Value)(l:List Int)(w:World)(h:Sl w v l)(hl:l.length=4) :
  Calls prog 202 #[v] w λe w'=>e=.returned (.int .i64 (EW l))/\w'=w:=by
 have HN:Hid (JM l 4=EW l):=by
  unfold Hid;show((((0:Int)*256+l.getD 0 0)*256+l.getD 1 0)*256+l.getD 2 0)*256+l.getD 3 0=_;unfold EW;omega
 have HB:Hid (∀ x∈l,0<=x/\x<256):=h.byte;have hs:=h;obtain⟨a,c,rfl⟩:=h.shape;rw[hl]at hs ⊢
 go_enter func202,ntmps202
 go_wp2_with fail
 go_loopw [3,8] (λv iv wr=>∃ j:Nat,j<=4/\iv=.int .i64 (j:Int)/\v=.int .i64 (JM l j)/\wr=w) (λ_ iv _=>(4-intOf iv).toNat)
 case atStart=>exact⟨0,by omega,rfl,rfl,rfl⟩
 case round =>
  obtain⟨j,hj,rfl,rfl,rfl⟩:=hrel;by_cases hj4:j<4
  .have hii:(j:Int)<4:=by omega
   have hx:=RF HB.out j;have hx2:JM l j<16777216:=by
    have:(256:Int)^j<=256^3:=by
     rcases(by omega:j=0\/j=1\/j=2\/j=3)with rfl|rfl|rfl|rfl<;>decide
    omega
   have hb:=Al HB.out j;obtain⟨bd,od,rfl,hbd,hc⟩:=hs.spotH j (by omega);have hor:=aI (JM l j) (l.getD j 0) ⟨hx.1,by omega⟩ hb;have HK:Hid (JM l j*256+l.getD j 0=JM l (j+1)):=rfl;have hx1:=hx.1;clear hx h hs;generalize JM l j=X at hx1 hx2 hor HK;generalize l.getD j 0=B at hb hc hor HK;go_wp2
   go_roundw
   case rel=>exact⟨j+1,by omega,by go_num,by rw[<- HK.out],trivial⟩
   case measure=>simp[intOf];omega
  .obtain rfl:j=4:=by omega
   rw[show((4:Nat):Int)=4 from rfl,HN.out];go_wp2
   go_ret;exact⟨rfl,rfl⟩
def Mb:Array Value:=(List.replicate 12 (Value.int .u8 0)).toArray
theorem gb(w:World):(Instr.makeSlice 28 (.int .i64 8) (.int .i64 12)).run prog w=.ok (.slice (some ⟨w.heap.size,0,none⟩) 8 12) (w.alloc (.cells Mb 5)):=by
 obtain⟨i,hi,hz,hsz,hby⟩:=info_parts At;rw[run_makeSlice (P:=prog) w 28 5 i (.int .u8 0) underlying28 hi hz .i64 .i64 8 12 (by omega) (by omega) (by rw[hsz];decide) (by rw[hby];decide) (by omega),hsz];have e:madeCells (Value.int .u8 0).cells ((12:Int).toNat*1)=Mb:=by kernel_rfl
 rw[e];rfl
theorem Jq(v:Value)(l:List Int)(w:World)(h:Sl w v l)(hl:l.length=4) :
  Calls prog 42 #[v] w λe w'=>∃ v',e=.returned v'/\Sl w' v' (Bm l)/\Bw w w':=by
 have HB:Hid (∀ x∈Bm l,0<=x/\x<256):=PH h.byte;have HL:Hid ((Bm l).length=12):=G3 hl;have hmk:=gb w;have ho0:(w.alloc (.cells Mb 5)).ownsRow w.heap.size 5 1 (.slice (some ⟨w.heap.size,0,none⟩) 8 12) (List.replicate 8 (0:Int)).length ((List.replicate 8 (0:Int)).map (Value.int .u8)) :=
  ⟨rfl,.inr ⟨w.heap.size,12,Mb,rfl,A' _,heap_alloc_new _ _,by decide,by simp[maxLen],rfl,rfl⟩⟩
 have b0:Bw w (w.alloc (.cells Mb 5)):=(Below.refl w.heap.size w).alloc (A' _) _;have hs1:=h.below b0;have hz:w.heap.size<=(w.alloc (.cells Mb 5)).heap.size:=b0.size;generalize w.alloc (.cells Mb 5)=W at hmk ho0 b0 hs1 hz;go_enter func42,ntmps42
 go_wp2_with (at_builtin;refine Aa _ rfl _ _ 28 rfl w.heap.size 5 underlying28 At _ _ rfl rfl (List.replicate 8 0) l ho0 hs1 (by simp;omega) hz ?_)
 intro v' w' ho hg;have hb2:Bw w w':=b0.grown hg hz (λk hk=>(ho0.lt k hk).1);have HO:Hid (w'.ownsRow w.heap.size 5 1 v' (Bm l).length ((Bm l).map (Value.int .u8))):=by
  unfold Hid;rw[HL.out];exact ho
 clear ho hg ho0 hs1 hmk;go_wp2
 go_ret;exact⟨v',rfl,Sl.ofOwns HO.out (by rw[HL.out];omega) HB.out,hb2⟩
theorem Sl.first{l:List Int}(h:Sl w (.slice a n cap) l)(m:Nat)(hm:m<=l.length)(h0:0<m):Sl w (.slice (a.map (·.add 0)) m m) (l.take m):=by
 obtain⟨⟨a',cap',e,hc,hn,h1⟩,hla,hba⟩:=h;simp only[Value.slice.injEq]at e;obtain⟨rfl,rfl,rfl⟩:=e;have hl:(l.take m).length=m:=by rw[iO];omega
 rcases h1 with rfl|⟨b,off,rfl,hb,hcell⟩
 .simp at hm;omega
 .have hadd:(⟨b,off,none⟩:Addr).add 0=⟨b,off,none⟩:=by unfold Addr.add;simp
  refine⟨⟨some ⟨b,off,none⟩,m,by rw[hl,jC,hadd],by omega,by simp,.inr ⟨b,off,rfl,hb,λi hi=>?_⟩⟩,by omega,λx hx=>hba x (jb hx)⟩;rw[hcell i (by omega),AR (by omega),AR hi];simp
theorem Wj(a:Option Addr)(n cap:Nat)(hc:4<=cap):∀ W,(Instr.slice 28 (.slice a n cap) none (some (.int .i64 4)) (some (.int .i64 4))).run prog W=.ok (.slice (a.map (·.add 0)) 4 4) W:=by
 intro W;rw[run_slice_hm (P:=prog) W 28 a n cap underlying28 .i64 .i64 4 4 (by omega) (by omega) (by omega)];have e:prog.elem 28=5:=by kernel_rfl
 rw[e,IR];simp[Result.andThen,sliced]
theorem Zs(v:Value)(l:List Int)(w:World)(h:Sl w v l)(hl:4<=l.length) :
  Calls prog 201 #[v] w λe w'=>∃ va vb,e=.returned (.tuple #[va,vb])/\Sl w' va (l.take 4)/\Sl w' vb (l.drop 4)/\Bw w w':=by
 obtain⟨a,c,rfl⟩:=h.shape;have hc:l.length<=c:=by
  obtain⟨⟨a',cap',e,hc,_⟩,_⟩:=h;simp only[Value.slice.injEq]at e;omega
 obtain⟨a2,c2,r2',s2⟩:=h.from 4 hl;have r2:∀ W,(Instr.slice 28 (.slice a l.length c) (some (.int .i64 4)) none none).run prog W=.ok (.slice a2 (l.length-4) c2) W:=r2';have r1:=Wj a l.length c (by omega);have s1:=h.first 4 hl (by omega);clear r2';generalize l.length-4=n2 at r2 s2;generalize a.map (·.add 0)=a1 at r1 s1;go_enter func201,ntmps201
 go_wp2_with fail
 go_quiet (fail)
 have e1:Bw w (w.drewN nq):=Ao (Below.refl _ _) nq;generalize w.drewN nq=w1 at e1 ⊢;go_wp2
 go_ret2
 exact⟨_,_,rfl,s1.below e1,s2.below e1,e1⟩
theorem Ji(n:Int)(w:World) :
  Calls prog 62 #[.int .i64 n] w λe w'=>e=.returned (.bool (decide (0<=n/\n<=1073741824)))/\w'=w:=by
 by_cases h0:0<=n
 .by_cases h1:n<=1073741824
  .rw[I' ⟨h0,h1⟩];go_enter func62,ntmps62
   go_wp2
   go_ret;exact⟨Ae (by simp),rfl⟩
  .rw[D' (by omega)];go_enter func62,ntmps62
   go_wp2
   go_ret;exact⟨Ae (by simp),rfl⟩
 .rw[D' (by omega)];go_enter func62,ntmps62
  go_wp2
  go_ret;exact⟨Ae (by simp),rfl⟩
theorem ej{key:List Int}(h1:key.length=32)(h2:0<=s/\s<=1073741824)(h3:0<=t/\t<=1073741824)(h4:R9 t l=true):OkC key s t l :=
 ⟨h1,h2.1,h2.2,h3.1,h3.2,((FD t l).1 h4).1,((FD t l).1 h4).2⟩
theorem I4{key:List Int}(h:OkC key s t l):Em key s t l=0:=if_pos h
theorem D5{key:List Int}(h:¬ OkC key s t l):Em key s t l=5:=if_neg h
theorem Ga(vk:Value)(key:List Int)(s t:Int)(l:List Bool)(w:World)(hk:Sl w vk key)(hl:l.length=8) :
  Calls prog 39 #[.agg (chA vk s t l)] w λe w'=>e=.returned (.int .i64 (Em key s t l))/\Bw w w':=by
 obtain⟨ak,ck,rfl⟩:=hk.shape;have hkl:=hk.len;have bb:Bw w (w.alloc (.cells (chA (.slice ak key.length ck) s t l) 55)):=(Below.refl _ _).alloc (A' _) _;obtain⟨b0,b1,b2,b3,b4,b5,b6,b7,rfl⟩:=G1 l hl;by_cases h1:key.length=32
 .have HK:Hid (key.length=32):=h1;obtain⟨E,hE⟩:∃ E,Em key s t [b0,b1,b2,b3,b4,b5,b6,b7]=E:=⟨_,rfl⟩;have HE:Hid (Em key s t [b0,b1,b2,b3,b4,b5,b6,b7]=E):=hE;rw[hE];clear hE;have bb0:=bb;simp only[chA,List.map]at bb ⊢;rw[h1]at bb bb0 hk ⊢
  have rr:=heap_alloc_new w (.cells (chA (.slice ak 32 ck) s t [b0,b1,b2,b3,b4,b5,b6,b7]) 55);clear h1;go_enter func39,ntmps39
  go_wp2_with fail
  refine(Ji s _).mono ?_;rintro e w1 ⟨rfl,rfl⟩;by_cases h2:0<=s/\s<=1073741824
  .rw[I' h2];go_wp2_with fail
   refine(Ji t _).mono ?_;rintro e w1 ⟨rfl,rfl⟩;by_cases h3:0<=t/\t<=1073741824
   .rw[I' h3];go_wp2_with fail
    refine(Fk (.slice ak 32 ck) s t [b0,b1,b2,b3,b4,b5,b6,b7] _ rfl).mono ?_;rintro e w2 ⟨rfl,c2⟩;have d2:Bw w w2:=bb0.trans (c2.mono (by simp));go_wp2_with fail
    refine(UB t [b0,b1,b2,b3,b4,b5,b6,b7] w2 rfl h3.1 h3.2).mono ?_;rintro e w3 ⟨rfl,c3⟩;have d3:Bw w w3:=d2.trans (c3.mono d2.size);cases h4:R9 t [b0,b1,b2,b3,b4,b5,b6,b7]with
    | true =>
     have H5:Hid (0=E):=HE.out▸(I4 (ej HK.out h2 h3 h4)).symm;go_wp2
     go_ret;exact⟨AC H5.out,d3⟩
    | false =>
     have H5:Hid (5=E):=HE.out▸(D5 (λh=>by
      have:=(FD t [b0,b1,b2,b3,b4,b5,b6,b7]).2 ⟨h.low,h.top⟩;rw[h4]at this
      cases this)).symm
     go_wp2
     go_ret;exact⟨AC H5.out,d3⟩
   .rw[D' h3];have H5:Hid (5=E):=HE.out▸(D5 (λh=>h3 ⟨h.t0,h.t1⟩)).symm;go_wp2
    go_ret;exact⟨AC H5.out,bb⟩
  .rw[D' h2];have H5:Hid (5=E):=HE.out▸(D5 (λh=>h2 ⟨h.s0,h.s1⟩)).symm;go_wp2
   go_ret;exact⟨AC H5.out,bb⟩
 .have HE:Hid (Em key s t [b0,b1,b2,b3,b4,b5,b6,b7]=5):=D5 λh=>h1 h.key;have h1':¬ (key.length:Int)=32:=by omega
  simp only[chA,List.map]at bb ⊢;go_enter func39,ntmps39
  go_wp2
  go_ret;exact⟨AC HE.out.symm,bb⟩
theorem El(hl:l.length=8):(prog.info? 55).map (·.size)=some (chA k s t l).size:=by rw[F4,hl];kernel_rfl
theorem Kd{key:List Int}(hk:Sl w k key)(s t:Int)(l:List Bool):(chA k s t l).all (·.oneCell')=true:=by
 obtain⟨a,c,rfl⟩:=hk.shape;simp[chA,Value.oneCell']
theorem aC(vk:Value)(key:List Int)(w:World)(hk:Sl w vk key) :
  Calls prog 180 #[vk] w λe w'=>∃ v',e=.returned (.tuple #[.agg (chA v' 0 0 noB),.int .i64 (if key.length=32 then 0 else 1)])/\w'.ownsRow 0 5 1 v' (if key.length=32 then key else[]).length ((if key.length=32 then key else[]).map (Value.int .u8))/\Bw w w':=by
 obtain⟨ak,ck,rfl⟩:=hk.shape;have hkl:=hk.len;by_cases h1:key.length=32
 .rw[if_pos h1,if_pos h1];rw[h1]at hk ⊢
  have bb:Bw w (w.alloc (.cells (chA (.slice none 0 0) 0 0 noB) 55)):=(Below.refl _ _).alloc (A' _) _;have rr:=heap_alloc_new w (.cells (chA (.slice none 0 0) 0 0 noB) 55);have hz:(w.alloc (.cells (chA (.slice none 0 0) 0 0 noB) 55)).heap.size=w.heap.size+1:=by simp
  go_enter func180,ntmps180
  go_wp2_with fail
  refine(I7 _ key _ (hk.below bb)).mono ?_;rintro e w1 ⟨v1,rfl,o1,c1⟩;rw[hz]at o1
  have s1:=Sl.ofOwns o1 hk.len hk.byte;have r1:=(c1.block w.heap.size (by rw[hz];omega)).trans rr;have d1:Bw w w1:=bb.trans (c1.mono (by rw[hz];omega));have hi:=El (k:=v1) (s:=0) (t:=0) GO;have ho:=Kd s1 0 0 noB;clear c1 rr bb hz;have hold:(chA (.slice none 0 0) 0 0 noB).size=(chA v1 0 0 noB).size:=by rw[F4,F4]
  obtain⟨a1,c1,hv1⟩:=s1.shape;rw[h1]at hv1
  subst hv1;go_wp2_with (refine wpList_store_row rfl 55 (.tmp 2) (.tmp 10) rfl w.heap.size (chA (.slice a1 32 c1) 0 0 noB) rfl rfl 55 _ r1 hi hold ho ?_)
  have r2:=setRow_heap w1 w.heap.size _ (chA (.slice a1 32 c1) 0 0 noB) 55 _ r1;have d3:Bw w (w1.setRow w.heap.size (chA (.slice a1 32 c1) 0 0 noB)):=below_setRow d1 (A' _) _;have s2:(w1.setRow w.heap.size (chA (.slice a1 32 c1) 0 0 noB)).ownsRow 0 5 1 (.slice a1 32 c1) key.length (key.map (Value.int .u8)) :=
   AV (GS o1 λk hk'=>setRow_other _ _ _ _ (by have:=(o1.lt k hk').1;omega)) (jf _)
  exact bodyPost_ret (Ig rfl _ _ w.heap.size 55 _ (0,0) _ rfl r2 underlying55 rfl hi) rfl ⟨.slice a1 32 c1,rfl,h1▸s2,d3⟩
 .rw[if_neg h1,if_neg h1];have h1':¬ (key.length:Int)=32:=by omega
  go_enter func180,ntmps180
  go_wp2
  exact bodyPost_ret (Ig rfl _ _ w.heap.size 55 (chA (.slice none 0 0) 0 0 noB) (0,0) _ rfl (heap_alloc_new _ _) underlying55 rfl (El GO)) rfl ⟨.slice none 0 0,rfl,World.ownsRow_nil _ _ _ _,(Below.refl _ _).alloc (A' _) _⟩
structure Bx(w W:World)(k:Value)(s t:Int)(l:List Bool):Prop where
 row:W.heap[w.heap.size]?=some (.cells (chA k s t l) 55 (0,0))
 bel:Bw w W
theorem Bx.new(w:World)(k:Value)(s t:Int)(l:List Bool):Bx w (w.alloc (.cells (chA k s t l) 55)) k s t l:=⟨heap_alloc_new _ _,(Below.refl _ _).alloc (A' _) _⟩
theorem Bx.lt(h:Bx w W k s t l):w.heap.size<W.heap.size:=(H'.1 h.row).1
theorem Bx.step(h:Bx w W k s t l)(hb:Bw W W'):Bx w W' k s t l :=
 ⟨(hb.block _ h.lt).trans h.row,h.bel.trans (hb.mono h.bel.size)⟩
theorem Bx.c0(h:Bx w W k s t l):W.cell? ⟨w.heap.size,0,none⟩=some k:=(cell_of_row _ _ 0 _ _ _ h.row).trans (SI k s t l)
theorem Bx.c1(h:Bx w W k s t l):W.cell? ⟨w.heap.size,1,none⟩=some (.int .i64 s):=(cell_of_row _ _ 1 _ _ _ h.row).trans (OQ k s t l)
def FO(key:List Int)(s t:Int)(l:List Bool)(p:List Int):List Int:=if DM key s t l p=0 then JO key s p else[]
theorem Yr(vk:Value)(key:List Int)(s t:Int)(l:List Bool)(vp:Value)(p:List Int)(w:World)(hk:Sl w vk key)(hl:l.length=8)(hp:Sl w vp p)(ht:CB w) :
  Calls prog 25 #[.agg (chA vk s t l),vp] w λe w'=>∃ v',e=.returned (.tuple #[v',.int .i64 (DM key s t l p)])/\w'.ownsRow 0 5 1 v' (FO key s t l p).length ((FO key s t l p).map (Value.int .u8))/\Bw w w':=by
 have hpos:=ht.pos;have bx:=Bx.new w vk s t l;obtain⟨ap,cp,rfl⟩:=hp.shape;have hpl:=hp.len;have hi:=El (k:=vk) (s:=s) (t:=t) hl;by_cases hok:OkC key s t l
 .have HC:Hid (Em key s t l=0):=I4 hok;go_enter func25,ntmps25
  go_wp2_with (refine wpList_load_row rfl 55 _ rfl w.heap.size rfl 55 _ (0,0) _ bx.row underlying55 rfl hi ?_)
  refine(Ga vk key s t l _ (hk.below bx.bel) hl).mono ?_;rintro e w1 ⟨rfl,b1⟩;replace bx:=bx.step b1;rw[HC.out];clear b1;by_cases h2:2000<p.length
  .have HE:Hid (DM key s t l p=1):=by unfold Hid DM;rw[if_neg (λh=>h hok),if_pos h2]
   have HR:Hid (FO key s t l p=[]):=by unfold Hid FO;rw[HE.out];rfl
   have h2':(2000:Int)<(p.length:Int):=by omega
   go_wp2
   go_ret2
   exact⟨.slice none 0 0,by rw[HE.out];rfl,by rw[HR.out];exact World.ownsRow_nil _ _ _ _,bx.bel⟩
  .have h2':¬ (2000:Int)<(p.length:Int):=by omega
   have c1:=bx.c1;by_cases h3:s=1073741824
   .have HE:Hid (DM key s t l p=8):=by unfold Hid DM;rw[if_neg (λh=>h hok),if_neg h2,if_pos h3]
    have HR:Hid (FO key s t l p=[]):=by unfold Hid FO;rw[HE.out];rfl
    go_wp2
    go_ret2
    exact⟨.slice none 0 0,by rw[HE.out];rfl,by rw[HR.out];exact World.ownsRow_nil _ _ _ _,bx.bel⟩
   .have HE:Hid (DM key s t l p=0):=by unfold Hid DM;rw[if_neg (λh=>h hok),if_neg h2,if_neg h3]
    have HR:Hid (FO key s t l p=JO key s p):=by unfold Hid FO;rw[HE.out];rfl
    have s0:=hok.s0;have s1:s<1073741824:=by have:=hok.s1;omega
    have HKL:Hid (key.length=32):=hok.key;go_wp2_with fail
    have bel1:=bx.bel;refine(Rr s w1 s0 s1).mono ?_;rintro e w2 ⟨vh,rfl,oh,b2⟩;replace bx:=bx.step b2;clear c1;have c0:=bx.c0;have sh:Sl w2 vh (Ad s):=Sl.ofOwns oh (by rw[Cm];omega) (AU s);have hk2:=hk.below bx.bel;have hp2:=hp.below bx.bel;have ht2:=ht.below hpos bx.bel;have hpos2:4<w2.heap.size:=by have:=bx.lt;omega
    have HX:Hid (JO key s p=Ad s++J3 key (Bm (Ad s)) (Ad s) p):=rfl;have hhl:=Cm s;have HF:Hid (Gp key (Bm (Ad s)) (Ad s)=true):=ZE hok.key (G3 rfl) (by rw[Cm];omega);have h2n:p.length<=2000:=by omega
    have bel2:=bx.bel;generalize Ad s=H at HX hhl HF sh oh;have hd:Bw w2 w2.drew:=(Below.refl _ _).drew;have hlt:=oh.lt;have hzz:w.heap.size<w2.drew.heap.size:=bx.lt;clear hk hp ht hok;go_wp2_with fail
    go_region_with (first
     | (go_at_call 42;refine(Jq _ H _ (sh.below hd) hhl).mono ?_;rintro e w3 ⟨vn,rfl,sn,b3⟩;have c3:=(b3.cell (p:=⟨w.heap.size,0,none⟩) hzz).trans c0)
     | (go_at_call 41;refine(bB vk vn _ _ key (Bm H) H p _ ((hk2.below hd).below b3) sn ((sh.below hd).below b3) ((hp2.below hd).below b3) HF.out h2n ((ht2.below hpos2 hd).below hpos2 b3)).mono ?_;rintro e w4 ⟨vx,rfl,sx,b4⟩))
    all_goals
     have o4:=EZ (EZ oh.drew b3) b4;have hl4:=o4.lt;have d3:Bw w w3:=bel2.trans ((hd.trans b3).mono bel2.size);have d4:Bw w w4:=d3.trans (b4.mono d3.size);have hz4:w1.heap.size<=w4.heap.size:=iP b2.size (iP hd.size (iP b3.size b4.size));have hz1:w.heap.size<=w1.heap.size:=bel1.size;have hxl:=Ii key (Bm H) H p;clear bx oh sh hk2 hp2 ht2 hd c0 c3 sn b3 b4 hzz b2 bel2;generalize J3 key (Bm H) H p=X at HX hxl sx;go_wp2_with (at_builtin;refine Aa _ rfl _ _ 28 rfl w1.heap.size 5 underlying28 At _ _ rfl rfl H X o4 sx (by omega) hz4 ?_)
     intro v5 w5 ho5 hg5;have b5:Bw w w5:=d4.grown hg5 (by omega) (λk hk=>iP hz1 (hl4 k hk).1);have HO5:Hid (w5.ownsRow w1.heap.size 5 1 v5 (H++X).length ((H++X).map (Value.int .u8))):=by
      unfold Hid;simpa[hhl,hxl]using ho5
     clear ho5 hg5 o4;go_wp2
     go_ret2
     refine⟨v5,by rw[HE.out];rfl,?_,b5⟩;rw[HR.out,HX.out];exact AV HO5.out (jf _)
 .have HC:Hid (Em key s t l=5):=D5 hok;have HE:Hid (DM key s t l p=5):=if_pos hok;have HR:Hid (FO key s t l p=[]):=by unfold Hid FO;rw[HE.out];rfl
  go_enter func25,ntmps25
  go_wp2_with (refine wpList_load_row rfl 55 _ rfl w.heap.size rfl 55 _ (0,0) _ bx.row underlying55 rfl hi ?_)
  refine(Ga vk key s t l _ (hk.below bx.bel) hl).mono ?_;rintro e w1 ⟨rfl,b1⟩;replace bx:=bx.step b1;rw[HC.out];go_wp2
  go_ret2
  exact⟨.slice none 0 0,by rw[HE.out];rfl,by rw[HR.out];exact World.ownsRow_nil _ _ _ _,bx.bel⟩
theorem QI(k k':Value)(s t:Int)(l:List Bool):(chA k s t l).setIfInBounds 0 k'=chA k' s t l:=by apply ky;simp[chA]
theorem OS(k:Value)(s s' t:Int)(l:List Bool):(chA k s t l).setIfInBounds 1 (.int .i64 s')=chA k s' t l:=by apply ky;simp[chA]
theorem QJ(k:Value)(s t t':Int)(l:List Bool):(chA k s t l).setIfInBounds 2 (.int .i64 t')=chA k s t' l:=by apply ky;simp[chA]
structure By(w W:World)(k:Value)(s t:Int)(l:List Bool):Prop where
 row:W.heap[w.heap.size]?=some (.cells (chA k s t l) 55 (0,0))
 res:W.heap[w.heap.size+1]?=some (.cells (chA (.slice none 0 0) 0 0 noB) 55 (0,0))
 bel:Bw w W
theorem By.new(w:World)(k:Value)(s t:Int)(l:List Bool):By w ((w.alloc (.cells (chA k s t l) 55)).alloc (.cells (chA (.slice none 0 0) 0 0 noB) 55)) k s t l :=
 ⟨heap_alloc2_old _ _ _,heap_alloc2_new _ _ _,((Below.refl _ _).alloc (A' _) _).alloc (by simp) _⟩
theorem By.lt(h:By w W k s t l):w.heap.size+1<W.heap.size:=(H'.1 h.res).1
theorem By.step(h:By w W k s t l)(hb:Bw W W'):By w W' k s t l :=
 ⟨(hb.block _ (by have:=h.lt;omega)).trans h.row,(hb.block _ h.lt).trans h.res,h.bel.trans (hb.mono h.bel.size)⟩
theorem By.c0(h:By w W k s t l):W.cell? ⟨w.heap.size,0,none⟩=some k:=(cell_of_row _ _ 0 _ _ _ h.row).trans (SI k s t l)
theorem By.c1(h:By w W k s t l):W.cell? ⟨w.heap.size,1,none⟩=some (.int .i64 s):=(cell_of_row _ _ 1 _ _ _ h.row).trans (OQ k s t l)
theorem By.fr(h:By w W k s t l)(i:Nat):W.frozen? ⟨w.heap.size,i,none⟩=false:=frozen_of_row _ _ i _ _ h.row
theorem By.key(h:By w W k s t l)(k':Value):By w (W.setCell ⟨w.heap.size,0,none⟩ k') k' s t l :=
 ⟨by rw[heap_setCell_same _ _ _ _ _ _ h.row,QI],(heap_setCell_other _ _ _ _ (by simp)).trans h.res,h.bel.setCell (p:=⟨w.heap.size,0,none⟩) (by simp) _⟩
theorem By.sent(h:By w W k s t l)(s':Int):By w (W.setCell ⟨w.heap.size,1,none⟩ (.int .i64 s')) k s' t l :=
 ⟨by rw[heap_setCell_same _ _ _ _ _ _ h.row,OS],(heap_setCell_other _ _ _ _ (by simp)).trans h.res,h.bel.setCell (p:=⟨w.heap.size,1,none⟩) (by simp) _⟩
theorem Sl.keepBut{l:List Int}(h:Sl w v l)(B:Nat)(hn:∀ i x,w.cell? ⟨B,i,none⟩≠some (.int .u8 x))(hz:w.heap.size<=w'.heap.size)(hk:∀ k,k≠B->w'.heap[k]?=w.heap[k]?):Sl w' v l:=by
 obtain⟨⟨a,cap,rfl,hc,hnn,h1⟩,h2,h3⟩:=h;refine⟨⟨a,cap,rfl,hc,hnn,?_⟩,h2,h3⟩;rcases h1 with h1|⟨b,off,ha,hbs,hcell⟩
 .exact .inl h1
 .refine .inr ⟨b,off,ha,Z' hbs hz,λi hi=>?_⟩;have hb:b≠B:=by
   rintro rfl;exact hn _ _ (hcell i hi)
  rw[<- hcell i hi];exact World.cell?_of_block (w:=w) (hk b hb)
theorem K3{fr:Nat × Nat}(h:W.heap[B]?=some (.cells (chA (.slice a n c) s t l) ty fr)):∀ i x,W.cell? ⟨B,i,none⟩≠some (.int .u8 x):=by
 intro i x hc;rw[cell_of_row _ _ i _ _ _ h]at hc
 have hm:=Array.mem_of_getElem? hc;simp[chA]at hm
theorem Sl.setBox(h:Sl W v p){fr:Nat × Nat}(hr:W.heap[B]?=some (.cells (chA (.slice a n c) s t l) ty fr))(i:Nat)(u:Value):Sl (W.setCell ⟨B,i,none⟩ u) v p :=
 h.keepBut B (K3 hr) (by simp[World.setCell]) λk hk=>heap_setCell_other _ _ _ _ (by simpa using hk)
theorem Sl.setRowBox(h:Sl W v p){fr:Nat × Nat}(hr:W.heap[B]?=some (.cells (chA (.slice a n c) s t l) ty fr))(cs:Array Value):Sl (W.setRow B cs) v p :=
 h.keepBut B (K3 hr) (by simp[World.setRow]) λk hk=>setRow_other _ _ _ _ hk
theorem Lj(h:W.ownsRow 0 5 1 v n xs){fr:Nat × Nat}(hr:W.heap[B]?=some (.cells A ty fr))(hty:ty≠5):∀ k,v.ownBlock=some k->k≠B:=by
 intro k hk hkB;subst hkB;rcases h.2 with⟨rfl,_⟩|⟨g,cap,cur,rfl,_,hg,_⟩
 .simp[Value.ownBlock]at hk
 .simp only[Value.ownBlock,X']at hk;subst hk;rw[hg]at hr
  simp only[X',Obj.cells.injEq]at hr;exact hty hr.2.1.symm
theorem AL(h:W.ownsRow 0 5 1 v n xs){fr:Nat × Nat}(hr:W.heap[B]?=some (.cells A ty fr))(hty:ty≠5)(i:Nat)(u:Value):(W.setCell ⟨B,i,none⟩ u).ownsRow 0 5 1 v n xs :=
 GS h λk hk=>heap_setCell_other _ _ _ _ (by simpa using Lj h hr hty k hk)
theorem Es(h:W.ownsRow 0 5 1 v n xs){fr:Nat × Nat}(hr:W.heap[B]?=some (.cells A ty fr))(hty:ty≠5)(cs:Array Value):(W.setRow B cs).ownsRow 0 5 1 v n xs :=
 GS h λk hk=>setRow_other _ _ _ _ (Lj h hr hty k hk)
theorem Yl{key:List Int}(h:DM key s t l p=0):OkC key s t l/\p.length<=2000/\s<1073741824:=by
 unfold DM at h;by_cases h1:OkC key s t l
 .rw[if_neg (λh=>h h1)]at h
  by_cases h2:2000<p.length
  .rw[if_pos h2]at h;omega
  .rw[if_neg h2]at h
   by_cases h3:s=1073741824
   .rw[if_pos h3]at h;omega
   .exact⟨h1,by omega,by have:=h1.s1;omega⟩
 .rw[if_pos h1]at h;omega
theorem bD(vk:Value)(key:List Int)(s t:Int)(l:List Bool)(vp:Value)(p:List Int)(w:World)(hk:Sl w vk key)(hl:l.length=8)(hp:Sl w vp p)(ht:CB w)(hE:DM key s t l p=0) :
  Calls prog 15 #[.agg (chA vk s t l),vp] w λe w'=>∃ v1,∃ v2,e=.returned (.tuple #[.agg (chA v1 (s+1) t l),v2,.int .i64 0])/\Sl w' v1 key/\w'.ownsRow 0 5 1 v1 key.length (key.map (Value.int .u8))/\w'.ownsRow 0 5 1 v2 (JO key s p).length ((JO key s p).map (Value.int .u8))/\Bw w w':=by
 have hpos:=ht.pos;have bx:=By.new w vk s t l;have hi:=El (k:=vk) (s:=s) (t:=t) hl;obtain⟨hok,_,s1⟩:=Yl hE;have s0:=hok.s0;have HE:Hid (DM key s t l p=0):=hE;have HR:Hid (FO key s t l p=JO key s p):=if_pos hE;obtain⟨ak,ck,rfl⟩:=hk.shape;have HKL:Hid (key.length=32):=hok.key;generalize hnk:key.length=nk at hk hi bx ⊢;have HNK:Hid (key.length=nk):=hnk;clear hnk;go_enter func15,ntmps15
 clear hE hok;go_wp2_with (refine wpList_load_row rfl 55 _ rfl w.heap.size rfl 55 _ (0,0) _ bx.row underlying55 rfl hi ?_)
 refine(Yr _ key s t l vp p _ (hk.below bx.bel) hl (hp.below bx.bel) (ht.below hpos bx.bel)).mono ?_;rintro e w1 ⟨v2,rfl,s2,b1⟩;rw[HE.out];rw[HR.out]at s2
 replace bx:=bx.step b1;have c0:=bx.c0;clear b1;go_wp2_with fail
 refine(I7 _ key w1 (hk.below bx.bel)).mono ?_;rintro e w2 ⟨v1,rfl,o1,b2⟩;have hz1:=bx.lt;replace bx:=bx.step b2;replace s2:=EZ s2 b2;have sk:=Sl.ofOwns o1 hk.len hk.byte;replace o1:=AV o1 (jf _);clear b2 c0;obtain⟨a1,c1,hv1⟩:=sk.shape;generalize hn1:key.length=n1 at hv1 o1;have HN:Hid (key.length=n1):=hn1;clear hn1;subst hv1;have c0:=bx.c0;have f0:=bx.fr 0
 go_upto_region 5 with fail
 replace s2:=AL s2 bx.row (by decide) 0 (.slice a1 n1 c1);replace o1:=AL o1 bx.row (by decide) 0 (.slice a1 n1 c1);replace sk:=sk.setBox bx.row 0 (.slice a1 n1 c1);replace bx:=bx.key (.slice a1 n1 c1);generalize w2.setCell ⟨w.heap.size,0,none⟩ (.slice a1 n1 c1)=w3 at s2 sk o1 bx ⊢;clear c0 f0;have c1':=bx.c1;have f1:=bx.fr 1
 go_upto_region 6 with fail
 replace s2:=AL s2 bx.row (by decide) 1 (.int .i64 (s+1));replace o1:=AL o1 bx.row (by decide) 1 (.int .i64 (s+1));replace sk:=sk.setBox bx.row 1 (.int .i64 (s+1));replace bx:=bx.sent (s+1);generalize w3.setCell ⟨w.heap.size,1,none⟩ (.int .i64 (s+1))=w4 at s2 sk o1 bx ⊢;clear c1' f1;have hi4:=El (k:=.slice a1 n1 c1) (s:=s+1) (t:=t) hl;have ho4:=Kd sk (s+1) t l;have hold:(chA (.slice none 0 0) 0 0 noB).size=(chA (.slice a1 n1 c1) (s+1) t l).size:=by rw[F4,F4,hl];rfl
 go_wp2_with (first
  | (refine wpList_load_row rfl 55 _ rfl w.heap.size rfl 55 _ (0,0) _ bx.row underlying55 rfl hi4 ?_)
  | (refine wpList_store_row rfl 55 _ _ rfl (w.heap.size+1) _ rfl rfl 55 _ bx.res hi4 hold ho4 ?_))
 have r2:=setRow_heap w4 (w.heap.size+1) _ (chA (.slice a1 n1 c1) (s+1) t l) 55 _ bx.res;exact bodyPost_ret (Fd rfl _ _ (w.heap.size+1) 55 _ (0,0) _ rfl r2 underlying55 rfl hi4) rfl ⟨.slice a1 n1 c1,v2,rfl,sk.setRowBox bx.res _,by rw[<- HNK.out,HN.out];exact Es o1 bx.res (by decide) _,Es s2 bx.res (by decide) _,below_setRow bx.bel (by omega) _⟩
end
end Go.Proofs.YtalbmmghmoggcadGreatDoor
