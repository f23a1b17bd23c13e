/- Part 11 of the walk. -/
import Derived.Test.YtdjfdfpkkenjbaaGreatDoorZ10
set_option maxRecDepth 100000
set_option maxHeartbeats 4000000
open Go.Proofs.Tryz
set_option linter.unusedVariables false
namespace Go.Proofs.YtdjfdfpkkenjbaaGreatDoor
section
open Go.RowKit
section
variable{key l:List Int}
theorem Sl.ng{w:World}{a:Option Addr}{n c:Nat}(h:Sl w (.slice a n c) l)(b:Nat)(d:b+4<=l.length)(m k:Int)(g:m=(b:Int))(f:k=(b:Int)+4) :
  ∃ a' c',(∀ W,(Instr.slice 50 (.slice a n c) (some (.int .i64 m)) (some (.int .i64 k)) none).run prog W=.ok (.slice a' 4 c') W)/\Sl w (.slice a' 4 c') ((l.take (b+4)).drop b):=by
 subst g;subst f;have i:=h.mG b (b+4) (by omega) d;obtain⟨⟨a',j,e,s,t,r⟩,q,p⟩:=h;simp only[Value.slice.injEq]at e;obtain⟨rfl,rfl,rfl⟩:=e;have o:b+4-b=4:=by omega
 unfold sliced at i;rw[o]at i
 refine⟨_,_,λW=>?_,i⟩;rw[run_slice_lh (P:=prog) W 50 a _ c underlying50 .i64 .i64 _ _ (by omega) (by omega) (by omega)];have e:prog.elem 50=5:=by kernel_rfl
 rw[e,GP,show((b:Int)+4).toNat=b+4 by omega,jm];simp[Result.andThen,sliced]
theorem Pj(x b:Int)(f:0<=x/\x<36028797018963968)(d:0<=b/\b<256):bits .or .i64 (x*256) b=x*256+b:=by
 obtain⟨x,rfl⟩:=iO f.1;obtain⟨y,rfl⟩:=iO d.1;have e:(x:Int)*256=((x*256:Nat):Int):=by omega
 have key:(BitVec.ofInt 64 ((x*256:Nat):Int) ||| BitVec.ofInt 64 (y:Int)).toNat=x*256+y:=by
  rw[lT,kD,kD];have a:((y:Int)%((2^64:Nat):Int)).toNat=y:=by omega
  have c:(((x*256:Nat):Int)%((2^64:Nat):Int)).toNat=2^8*x:=by omega
  rw[a,c,<- kf (by omega:y<2^8)];omega
 rw[e];show IntKind.i64.wrap ((BitVec.ofInt 64 ((x*256:Nat):Int) ||| BitVec.ofInt 64 (y:Int)).toNat:Nat)=_;rw[key,IntKind.wrap_i64];omega
def C6(h:List Int):Nat->Int
 | 0=>0
 | k+1=>C6 h k*256+h.getD k 0
theorem IX{h:List Int}(a:∀ x∈h,0<=x/\x<256)(k:Nat):0<=C6 h k/\C6 h k<256^k:=by
 induction k with
 | zero=>simp[C6]
 | succ k ih =>
  have:=Ag a k;rw[C6,kZ];omega
theorem KH(l:List Int)(a:Nat)(h:a+4<=l.length):C6 ((l.take (a+4)).drop a) 4=Ac l a:=by
 show(((0*256+((l.take (a+4)).drop a).getD 0 0)*256+((l.take (a+4)).drop a).getD 1 0)*256+((l.take (a+4)).drop a).getD 2 0)*256+((l.take (a+4)).drop a).getD 3 0=_;rw[CI,CI,CI,CI,Be _ _ _ (by omega),Be _ _ _ (by omega),Be _ _ _ (by omega),Be _ _ _ (by omega)];unfold Ac;rw[jY];omega
theorem Hp(v:Value)(l:List Int)(b:Nat)(w:World)(h:Sl w v l)(o:b+4<=l.length)(f:Int)(g:f=(b:Int)) :
  Calls prog 172 #[v,.int .i64 f] w λe w'=>e=.returned (.int .i64 (Ac l b))/\w'=w:=by
 have s:Hid (C6 ((l.take (b+4)).drop b) 4=Ac l b):=KH l b o;have d:=h.len;have H:0<=f:=by omega
 have I:f<=140737488351232:=by omega
 obtain⟨a,c,rfl⟩:=h.shape;obtain⟨D,F,y,k⟩:=h.ng b o f (f+4) g (by omega);have m:Hid (∀ x∈(l.take (b+4)).drop b,0<=x/\x<256):=k.byte;have t:Hid (((l.take (b+4)).drop b).length=4):=by unfold Hid;rw[iA,X'];omega
 generalize (l.take (b+4)).drop b=L at s k m t;generalize l.length=N at y d ⊢;clear h o g d;go_enter func172,ntmps172
 go_wp2_with fail
 go_loopw [5,14] (λv iv wr=>∃ j:Nat,j<=4/\iv=.int .i64 (j:Int)/\v=.int .i64 (C6 L j)/\wr=w) (λ_ iv _=>(4-intOf iv).toNat)
 case atStart=>exact⟨0,by omega,rfl,rfl,rfl⟩
 case round =>
  obtain⟨j,G,rfl,rfl,rfl⟩:=hrel;by_cases C:j<4
  .have hii:(j:Int)<4:=by omega
   have p:=IX m.out j;have r:C6 L j<16777216:=by
    have:(256:Int)^j<=256^3:=by
     rcases(by omega:j=0\/j=1\/j=2\/j=3)with rfl|rfl|rfl|rfl<;>decide
    omega
   have u:=Ag m.out j;obtain⟨E,od,rfl,z,A⟩:=k.mP j (by have:=t.out;omega);have i:=Pj (C6 L j) (L.getD j 0) ⟨p.1,by omega⟩ u;have n:Hid (C6 L j*256+L.getD j 0=C6 L (j+1)):=rfl;have q:=p.1;clear p k y;generalize C6 L j=X at q r i n;generalize L.getD j 0=B at u A i n;go_wp2
   go_roundw
   case rel=>exact⟨j+1,by omega,by go_num,by rw[<- n.out],trivial⟩
   case measure=>simp[intOf];omega
  .obtain rfl:j=4:=by omega
   rw[show((4:Nat):Int)=4 from rfl,s.out];go_wp2
   go_ret;exact⟨rfl,rfl⟩
def Qw(l:List Int)(j:Nat):List Int:=(List.range 5).map λi=>if i<j then Ac l (4*i)else 0
def rowOf(m:List Int):Array Value:=(m.map (Value.int .i64)).toArray
theorem V4(l:List Int)(j:Nat)(a:j<5):(rowOf (Qw l j)).setIfInBounds j (.int .i64 (Ac l (4*j)))=rowOf (Qw l (j+1)):=by
 rcases(by omega:j=0\/j=1\/j=2\/j=3\/j=4)with rfl|rfl|rfl|rfl|rfl
 all_goals rfl
theorem Kl(v:Value)(l:List Int)(w:World)(h:Sl w v l)(ht:NTab w) :
  Calls prog 140 #[v] w λe w'=>e=.returned (.tuple #[.agg (Jv l),.int .i64 (BP l)])/\Bw w w':=by
 have G:=h.len;obtain⟨a,cp,rfl⟩:=h.shape;by_cases E:l.length=20
 .have i:Hid (BP l=AQ (Ac l 0) (Ac l 4) (Ac l 8) (Ac l 12) (Ac l 16)):=if_neg (λg=>g E);have Z:=h;have HL:Hid (l.length=20):=E;rw[E]at Z ⊢
  clear h E G;have b0:Bw w (w.alloc (.cells (cmA 0 0 0 0 0) 49)):=(Below.refl _ _).alloc (A' _) _;have z0:(w.alloc (.cells (cmA 0 0 0 0 0) 49)).heap.size=w.heap.size+1:=by simp
  have B:=heap_alloc_new w (.cells (cmA 0 0 0 0 0) 49);have N:Below (w.heap.size+1) (w.alloc (.cells (cmA 0 0 0 0 0) 49)) ((w.alloc (.cells (cmA 0 0 0 0 0) 49)).alloc (.cells (cmA 0 0 0 0 0) 49)):=(Below.refl _ _).alloc (by omega) _;have C:=heap_alloc_new (w.alloc (.cells (cmA 0 0 0 0 0) 49)) (.cells (cmA 0 0 0 0 0) 49);rw[z0]at C
  replace B:=(N.block w.heap.size (by omega)).trans B;have J:=b0.trans (N.mono (jr _));have z1:((w.alloc (.cells (cmA 0 0 0 0 0) 49)).alloc (.cells (cmA 0 0 0 0 0) 49)).heap.size=w.heap.size+1+1:=by simp
  have Y:(w.alloc (.cells zV5 49)).alloc (.cells zV5 49)=(w.alloc (.cells (cmA 0 0 0 0 0) 49)).alloc (.cells (cmA 0 0 0 0 0) 49):=rfl;clear b0 N z0;generalize (w.alloc (.cells (cmA 0 0 0 0 0) 49)).alloc (.cells (cmA 0 0 0 0 0) 49)=W at B C J z1 Y;go_enter func140,ntmps140
  go_wp2_with fail
  clear Y;refine(Gz (w.heap.size+1) W).mono ?_;rintro e w2 ⟨rfl,H⟩;replace B:=(H.block w.heap.size (by omega)).trans B;replace C:=(H.block (w.heap.size+1) (by omega)).trans C;have d2:=J.trans (H.mono J.size);have o:Hid _:=B;have q:Hid (w2.heap[w.heap.size+1]?=some (.cells (rowOf (Qw l 0)) 49)):=C;clear B C H J z1;have y:=Pr (w.heap.size+1);go_wp2_with fail
  go_loopw [13] (λiv wr=>∃ j:Nat,j<=5/\iv=.int .i64 (j:Int)/\wr.heap[w.heap.size]?=some (.cells (cmA 0 0 0 0 0) 49)/\wr.heap[w.heap.size+1]?=some (.cells (rowOf (Qw l j)) 49)/\Bw w wr) (λiv _=>(5-intOf iv).toNat)
  case atStart=>exact⟨0,by omega,rfl,o.out,q.out,d2⟩
  case round =>
   obtain⟨j,hj,rfl,r,m,d⟩:=hrel;clear o q;by_cases z:j<5
   .have hji:(j:Int)<5:=by omega
    have a1:=y j z;have u:∃ x,wr.cell? ⟨w.heap.size+1,j,none⟩=some (.int .i64 x):=⟨(Qw l j).getD j 0,(cell_of_row _ _ j _ _ _ m).trans (by simp[rowOf,Qw,z])⟩;obtain⟨x,hx⟩:=u;have a0:=frozen_of_row wr _ j _ _ m;have o:Hid _:=r;have q:Hid _:=m;have R:=V4 l j z;clear y r m;go_wp2_with fail
    refine(Hp (.slice a 20 cp) l (4*j) wr (Z.ab d) (by rw[HL.out];omega) _ (by omega)).mono ?_;rintro e Q ⟨rfl,rfl⟩;have A:(Q.setCell ⟨w.heap.size+1,j,none⟩ (.int .i64 (Ac l (4*j)))).heap[w.heap.size]?=some (.cells (cmA 0 0 0 0 0) 49):=(heap_setCell_other _ _ _ _ (by simp)).trans o.out;have M:(Q.setCell ⟨w.heap.size+1,j,none⟩ (.int .i64 (Ac l (4*j)))).heap[w.heap.size+1]?=some (.cells (rowOf (Qw l (j+1))) 49):=by
     rw[heap_setCell_same _ _ _ _ _ _ q.out,R]
    have q2:Bw w (Q.setCell ⟨w.heap.size+1,j,none⟩ (.int .i64 (Ac l (4*j)))):=d.setCell (p:=⟨w.heap.size+1,j,none⟩) (jr _) _;have S:Hid _:=A;have T:Hid _:=M;clear R A M o q;generalize Ac l (4*j)=X at S T q2 ⊢;go_wp2
    go_roundw
    case rel=>exact⟨j+1,by omega,by go_num,S.out,T.out,q2⟩
    case measure=>simp[intOf];omega
   .obtain rfl:j=5:=by omega
    rw[show((5:Nat):Int)=5 from rfl];have b:wr.heap[w.heap.size+1]?=some (.cells (cmA (Ac l 0) (Ac l 4) (Ac l 8) (Ac l 12) (Ac l 16)) 49):=m;clear m y;have f:Hid (BP l=0->Jv l=cmA (Ac l 0) (Ac l 4) (Ac l 8) (Ac l 12) (Ac l 16)):=λh=>if_pos h;have t:Hid (¬ BP l=0->Jv l=cmA 0 0 0 0 0):=λh=>if_neg h;have V:=ht.ab d;generalize Ac l 0=k at i f b;generalize Ac l 4=c at i f b;generalize Ac l 8=s at i f b;generalize Ac l 12=n at i f b;generalize Ac l 16=v at i f b;have L:=FU k c s n v;have F:=FU 0 0 0 0 0;have O:=(H'.1 b).1;go_wp2_with (refine wpList_load_row rfl 49 _ rfl (w.heap.size+1) rfl 49 _ (0,0) _ b underlying49 rfl L ?_)
    refine(DH k c s n v wr V).mono ?_;rintro e w6 ⟨rfl,I⟩;have U:=d.trans (I.mono d.size);have A:=(I.block w.heap.size (by omega)).trans r;have M:=(I.block (w.heap.size+1) O).trans b;clear r b I V d;by_cases K:AQ k c s n v=0
    .have HZ:Hid (BP l=0):=i.out.trans K;have D:Hid (Jv l=cmA k c s n v):=f.out HZ.out;rw[K];clear K i f t;go_wp2_with (first|(refine wpList_load_row rfl 49 _ rfl (w.heap.size+1) rfl 49 _ (0,0) _ M underlying49 rfl L ?_)|(refine wpList_store_row rfl 49 (.tmp 2) (.tmp 30) rfl w.heap.size (cmA k c s n v) rfl rfl 49 _ A L rfl (RZ k c s n v) ?_))
     have P:=setRow_heap w6 w.heap.size _ (cmA k c s n v) 49 _ A;refine bodyPost_ret (IY rfl _ _ w.heap.size 49 _ (0,0) _ rfl P underlying49 rfl L) rfl ?_;rw[HZ.out,D.out];exact⟨rfl,BQ U (A' _) _⟩
    .have HZ:Hid (BP l=AQ k c s n v):=i.out;have D:Hid (Jv l=cmA 0 0 0 0 0):=t.out (by rw[i.out];exact K);clear i f t;go_wp2_with (refine wpList_store_row rfl 49 (.tmp 2) (.tmp 28) rfl w.heap.size (cmA 0 0 0 0 0) rfl rfl 49 _ A F rfl (RZ 0 0 0 0 0) ?_)
     have P:=setRow_heap w6 w.heap.size _ (cmA 0 0 0 0 0) 49 _ A;refine bodyPost_ret (IY rfl _ _ w.heap.size 49 _ (0,0) _ rfl P underlying49 rfl F) rfl ?_;rw[HZ.out,D.out];exact⟨rfl,BQ U (A' _) _⟩
 .have h1':¬ (l.length:Int)=20:=by omega
  have i:Hid (BP l=1):=if_pos E;have D:Hid (Jv l=cmA 0 0 0 0 0):=if_neg (by rw[i.out];omega);have bb:Bw w (w.alloc (.cells (cmA 0 0 0 0 0) 49)):=(Below.refl _ _).alloc (A' _) _;have bc:=Bc.made w 0 0 0 0 0;go_enter func140,ntmps140
  go_wp2
  refine bodyPost_ret (IY rfl _ _ w.heap.size 49 _ (0,0) _ rfl (heap_alloc_new _ _) underlying49 rfl (FU 0 0 0 0 0)) rfl ?_;rw[i.out,D.out];exact⟨rfl,bb⟩
theorem If(c r u:Int):(tkA c r u).all (·.oneCell')=true:=by simp[tkA,Value.oneCell']
theorem PM(v:Value)(l:List Int)(w:World)(h:Sl w v l)(x:6<=l.length) :
  Calls prog 171 #[v] w λe w'=>e=.returned (.agg (tkA (l.getD 0 0) (l.getD 1 0) (Ac l 2)))/\Bw w w':=by
 have d:=h.len;obtain⟨a,t,rfl⟩:=h.shape;have i:Bw w (w.alloc (.cells (tkA 0 0 0) 79)):=(Below.refl _ _).alloc (A' _) _;have j:=heap_alloc_new w (.cells (tkA 0 0 0) 79);have f:=h.ab i;have o:w.alloc (.cells #[.int .i64 0,.int .i64 0,.int .i64 0] 79)=w.alloc (.cells (tkA 0 0 0) 79):=rfl;generalize w.alloc (.cells (tkA 0 0 0) 79)=W0 at i j f o;obtain⟨r,od,rfl,u,k⟩:=f.mP 0 (by omega);obtain⟨s,A,m,_,q⟩:=f.mP 1 (by omega);simp only[V',Addr.mk.injEq,and_true]at m;obtain⟨rfl,rfl⟩:=m;rw[jY]at k
 have C:=Ag h.byte 0;have D:=Ag h.byte 1;have y:(0:Int)<(l.length:Int):=by omega
 have z:(1:Int)<(l.length:Int):=by omega
 have n:Calls prog 172 #[.slice (some ⟨r,od,none⟩) l.length t,.int .i64 2] W0.drew λe w'=>e=.returned (.int .i64 (Ac l 2))/\w'=W0.drew :=
  Hp _ l 2 _ (f.ab (Below.refl _ _).drew) (by omega) 2 rfl
 have g:Hid _:=n;clear n;generalize l.getD 0 0=b0 at k C;generalize l.getD 1 0=b1 at q D;generalize Ac l 2=b2 at g;generalize l.length=N at d x y z g ⊢;clear h f;have p:=Ig b0 b1 b2;go_enter func171,ntmps171
 go_wp2_with fail
 refine Ar 11 (by kernel_rfl) (by kernel_rfl) ?_;simp only[jo,jB,jx,jQ]
 repeat (go_big_quiet_step (fail))
 go_big_quiet_want
 go_big_quiet_op
 refine⟨_,g.out,?_⟩
 go_big_quiet_on
 repeat (go_big_quiet_step (fail))
 refine wpQuiet_nil ?_;clear o;have b:W0.drew.heap[w.heap.size]?=some (.cells (tkA 0 0 0) 79):=j;have c:Bw w W0.drew:=i.drew;clear j i k q g;generalize W0.drew=W at b c ⊢;go_wp2_with (refine wpList_store_row rfl 79 (.tmp 2) (.tmp 13) rfl w.heap.size (tkA b0 b1 b2) rfl rfl 79 _ b p rfl (If b0 b1 b2) ?_)
 have B:=setRow_heap W w.heap.size _ (tkA b0 b1 b2) 79 _ b;exact bodyPost_ret (v:=.agg (tkA b0 b1 b2)) (results_cell_row rfl _ _ w.heap.size 79 _ (0,0) _ rfl B underlying79 rfl p) rfl ⟨rfl,BQ c (A' _) _⟩
def DT(key l:List Int):Int :=
 if key.length≠32\/l.length≠22 then 1
 else if(DR key (l.take 6)).take 16≠l.drop 6 then 6
 else Ma (l.getD 0 0) (l.getD 1 0) (Ac l 2)
def LQ(key l:List Int):Array Value:=if DT key l=0 then tkA (l.getD 0 0) (l.getD 1 0) (Ac l 2)else tkA 0 0 0
theorem MC(h:key.length≠32\/l.length≠22):DT key l=1:=if_pos h
theorem Xo(a:key.length=32)(b:l.length=22)(h:¬ (DR key (l.take 6)).take 16=l.drop 6):DT key l=6:=by
 unfold DT;rw[if_neg (by omega),if_pos h]
theorem Xp(a:key.length=32)(b:l.length=22)(h:(DR key (l.take 6)).take 16=l.drop 6):DT key l=Ma (l.getD 0 0) (l.getD 1 0) (Ac l 2):=by
 unfold DT;rw[if_neg (by omega),if_neg (λg=>g h)]
theorem SF(h:DT key l=0):LQ key l=tkA (l.getD 0 0) (l.getD 1 0) (Ac l 2):=if_pos h
theorem Ht(h:¬ DT key l=0):LQ key l=tkA 0 0 0:=if_neg h
theorem Re(l:List Int):Ac (l.take 6) 2=Ac l 2:=by
 unfold Ac;rw[Be _ _ _ (by omega),Be _ _ _ (by omega),Be _ _ _ (by omega),Be _ _ _ (by omega)]
theorem Uj(vk vb:Value)(key l:List Int)(w:World)(z:Sl w vk key)(x:Sl w vb l)(ht:Av w) :
  Calls prog 139 #[vk,vb] w λe w'=>e=.returned (.tuple #[.agg (LQ key l),.int .i64 (DT key l)])/\Bw w w':=by
 have lk:=z.len;have ll:=x.len;obtain⟨ak,ck,rfl⟩:=z.shape;obtain⟨U,Y,rfl⟩:=x.shape;have i:Bw w (w.alloc (.cells (tkA 0 0 0) 79)):=(Below.refl _ _).alloc (A' _) _;have L:=heap_alloc_new w (.cells (tkA 0 0 0) 79);have d:=Ig 0 0 0;by_cases o:key.length=32
 .by_cases h2:l.length=22
  .have H1:Hid (key.length=32):=o;have t:Hid (l.length=22):=h2;rw[o]at z ⊢
   rw[h2]at x ⊢
   clear lk ll o h2;have v:w.alloc (.cells #[.int .i64 0,.int .i64 0,.int .i64 0] 79)=w.alloc (.cells (tkA 0 0 0) 79):=rfl;generalize w.alloc (.cells (tkA 0 0 0) 79)=W at i L v;obtain⟨S,V,C,s6⟩:=x.mf 6 (by have:=t.out;omega);have r6:∀ W,(Instr.slice 50 (.slice U 22 Y) none (some (.int .i64 6)) none).run prog W=.ok (.slice S 6 V) W:=C;obtain⟨T,X,D,s7⟩:=x.from 6 (by have:=t.out;omega);have r7:∀ W,(Instr.slice 50 (.slice U 22 Y) (some (.int .i64 6)) none none).run prog W=.ok (.slice T 16 X) W:=D;clear C D;have R:Hid ((l.take 6).length=6):=by unfold Hid;rw[X',t.out];rfl
   go_enter func139,ntmps139
   go_wp2_with fail
   clear v;refine(PH _ _ key (l.take 6) W (z.ab i) (s6.ab i) (by rw[H1.out];omega) (by rw[R.out];omega) (ht.ab i)).mono ?_;rintro e M ⟨v1,rfl,s1,N⟩;have P:=i.trans (N.mono i.size);have q1:=(N.block w.heap.size (H'.1 L).1).trans L;have E:=s7.ab P;clear N i L;go_wp2_with fail
   refine(Hz v1 (.slice T 16 X) _ _ M s1 E).mono ?_;rintro e w2 ⟨rfl,m,rfl⟩;have n:Bw w (M.drewN m):=Am P m;have s:(M.drewN m).heap[w.heap.size]?=some (.cells (tkA 0 0 0) 79):=q1;clear q1 P s1 E;generalize M.drewN m=W2 at n s ⊢;by_cases p:(DR key (l.take 6)).take 16=l.drop 6
   .have HE:=Xp H1.out t.out p;have b:Hid (DT key l=0->LQ key l=tkA (l.getD 0 0) (l.getD 1 0) (Ac l 2)):=SF;have j:Hid (¬ DT key l=0->LQ key l=tkA 0 0 0):=Ht;have F:Hid ((l.take 6).getD 0 0=l.getD 0 0/\(l.take 6).getD 1 0=l.getD 1 0/\Ac (l.take 6) 2=Ac l 2):=⟨Be _ _ _ (by omega),Be _ _ _ (by omega),Re l⟩;rw[I' p];clear p;go_wp2_with fail
    refine(PM (.slice S 6 V) (l.take 6) W2 (s6.ab n) (by rw[R.out];omega)).mono ?_;rintro e g ⟨rfl,O⟩;rw[F.out.1,F.out.2.1,F.out.2.2];have Q:=n.trans (O.mono n.size);have f:=(O.block w.heap.size (H'.1 s).1).trans s;clear O s n F;generalize l.getD 0 0=c at HE b ⊢;generalize l.getD 1 0=r at HE b ⊢;generalize Ac l 2=u at HE b ⊢;have y:=Ig c r u;have H:Bw g (g.alloc (.cells (tkA 0 0 0) 79)):=(Below.refl _ _).alloc (A' _) _;have K:=heap_alloc_new g (.cells (tkA 0 0 0) 79);have v:g.alloc (.cells #[.int .i64 0,.int .i64 0,.int .i64 0] 79)=g.alloc (.cells (tkA 0 0 0) 79):=rfl;generalize g.alloc (.cells (tkA 0 0 0) 79)=W4 at H K v;have A:w.heap.size<g.heap.size:=(H'.1 f).1
    go_upto_region 10 with(refine wpList_store_row rfl 79 (.tmp 9) (.tmp 38) rfl g.heap.size (tkA c r u) rfl rfl 79 _ K y rfl (If c r u) ?_)
    clear v;have k:=setRow_heap W4 g.heap.size _ (tkA c r u) 79 _ K;replace f:=((H.block w.heap.size A).trans f);replace f:=(setRow_other W4 g.heap.size w.heap.size (tkA c r u) (by omega)).trans f;have J:=BQ (Q.trans (H.mono Q.size)) (show w.heap.size<=g.heap.size by omega) (tkA c r u);generalize W4.setRow g.heap.size (tkA c r u)=W5 at f k J ⊢;clear K H Q;generalize g.heap.size=G at k A ⊢;go_wp2_with (refine wpList_load_row rfl 79 _ rfl G rfl 79 _ (0,0) _ k underlying79 rfl y ?_)
    refine(Iy c r u W5).mono ?_;rintro e w6 ⟨rfl,I⟩;have Z:=J.trans (I.mono J.size);replace f:=(I.block w.heap.size (H'.1 f).1).trans f;replace k:=(I.block G (H'.1 k).1).trans k;clear I J;by_cases q:CW c r u
    .have a:Hid (DT key l=0):=HE.trans (JR q);have h:Hid (LQ key l=tkA c r u):=b.out a.out;rw[I' q];clear HE b j q;go_wp2_with (first|(refine wpList_load_row rfl 79 _ rfl G rfl 79 _ (0,0) _ k underlying79 rfl y ?_)|(refine wpList_store_row rfl 79 (.tmp 4) (.tmp 43) rfl w.heap.size (tkA c r u) rfl rfl 79 _ f y rfl (If c r u) ?_))
     have B:=setRow_heap w6 w.heap.size _ (tkA c r u) 79 _ f;refine bodyPost_ret (IY rfl _ _ w.heap.size 79 _ (0,0) _ rfl B underlying79 rfl y) rfl ?_;rw[a.out,h.out];exact⟨rfl,BQ Z (A' _) _⟩
    .have a:Hid (DT key l=2):=HE.trans (SS q);have h:Hid (LQ key l=tkA 0 0 0):=j.out (by rw[a.out];omega);rw[D' q];clear HE b j q;go_wp2_with (refine wpList_store_row rfl 79 (.tmp 4) (.tmp 42) rfl w.heap.size (tkA 0 0 0) rfl rfl 79 _ f d rfl (If 0 0 0) ?_)
     have B:=setRow_heap w6 w.heap.size _ (tkA 0 0 0) 79 _ f;refine bodyPost_ret (IY rfl _ _ w.heap.size 79 _ (0,0) _ rfl B underlying79 rfl d) rfl ?_;rw[a.out,h.out];exact⟨rfl,BQ Z (A' _) _⟩
   .have a:Hid (DT key l=6):=Xo H1.out t.out p;have h:Hid (LQ key l=tkA 0 0 0):=Ht (by rw[a.out];omega);rw[D' p];clear p;go_wp2_with (refine wpList_store_row rfl 79 (.tmp 4) (.tmp 36) rfl w.heap.size (tkA 0 0 0) rfl rfl 79 _ s d rfl (If 0 0 0) ?_)
    have B:=setRow_heap W2 w.heap.size _ (tkA 0 0 0) 79 _ s;refine bodyPost_ret (IY rfl _ _ w.heap.size 79 _ (0,0) _ rfl B underlying79 rfl d) rfl ?_;rw[a.out,h.out];exact⟨rfl,BQ n (A' _) _⟩
  .have h2':¬ (l.length:Int)=22:=by omega
   have a:Hid (DT key l=1):=MC (.inr h2);have h:Hid (LQ key l=tkA 0 0 0):=Ht (by rw[a.out];omega);rw[o]at z ⊢
   clear o;go_enter func139,ntmps139
   go_wp2
   refine bodyPost_ret (IY rfl _ _ w.heap.size 79 _ (0,0) _ rfl (heap_alloc_new _ _) underlying79 rfl d) rfl ?_;rw[a.out,h.out];exact⟨rfl,i⟩
 .have h1':¬ (key.length:Int)=32:=by omega
  have a:Hid (DT key l=1):=MC (.inl o);have h:Hid (LQ key l=tkA 0 0 0):=Ht (by rw[a.out];omega);go_enter func139,ntmps139
  go_wp2
  refine bodyPost_ret (IY rfl _ _ w.heap.size 79 _ (0,0) _ rfl (heap_alloc_new _ _) underlying79 rfl d) rfl ?_;rw[a.out,h.out];exact⟨rfl,i⟩
end
end
section
section
def Ph(l:List Int):Int:=if l=[]then 13 else if 7<l.getD 0 0 then 2 else Cb (Gk (l.getD 0 0)) 0 0 noB (l.drop 1)
def NB(l:List Int):List Int:=if Ph l=0 then Jm (Gk (l.getD 0 0)) (l.drop 1)else[]
def unT(l:List Int):List Int:=(NB l).take 22
def unQ(l:List Int):List Int:=(NB l).drop 22
def unB(l:List Int):Prop:=Ph l=0/\(NB l).length=42/\DT Gj (unT l)=0
instance (l:List Int):Decidable (unB l):=by unfold unB;exact inferInstance
def unE(l:List Int):Int:=if Ph l≠0 then Ph l else if(NB l).length≠42 then 3 else if DT Gj (unT l)≠0 then DT Gj (unT l)else BP (unQ l)
variable{i:Nat}{l:List Int}{now:Int}
theorem PN(h:unE l=0):unB l/\BP (unQ l)=0:=by
 unfold unE at h;split at h
 .rename_i g;exact absurd h g
 .rename_i g1
  split at h
  .cases h
  .rename_i g2
   split at h
   .rename_i g;exact absurd h g
   .rename_i g3
    exact⟨⟨iW.1 g1,iW.1 g2,iW.1 g3⟩,h⟩
theorem gB(h:unE l=0):0<l.length:=by
 obtain⟨⟨a,_⟩,_⟩:=PN h;cases l with
 | nil=>cases a
 | cons x r=>simp
def opE(l:List Int)(now:Int):Int :=
 if unE l≠0 then unE l
 else if Ac (unQ l) 0≠0/\Ac (unQ l) 4≠l.getD 0 0 then 11
 else Ev ((unT l).getD 0 0) ((unT l).getD 1 0) (Ac (unT l) 2) (Ac (unQ l) 0) (Ac (unQ l) 4) (Ac (unQ l) 8) (Ac (unQ l) 12) (Ac (unQ l) 16) now
def opA(l:List Int)(now:Int):Array Value:=if opE l now=0 then cmA (Ac (unQ l) 0) (Ac (unQ l) 4) (Ac (unQ l) 8) (Ac (unQ l) 12) (Ac (unQ l) 16)else cmA 0 0 0 0 0
theorem N1(h:opE l now≠0):opA l now=cmA 0 0 0 0 0:=if_neg h
theorem WY(h:opE l now=0):opA l now=cmA (Ac (unQ l) 0) (Ac (unQ l) 4) (Ac (unQ l) 8) (Ac (unQ l) 12) (Ac (unQ l) 16):=if_pos h
def Nod.mo(p:Nod)(i:Nat):Nod × List Let :=
 if(CU p.vo.p p.cl (p.an.take 40)).1=[]then({ p with cl:=(CU p.vo.p p.cl (p.an.take 40)).2 },[])
 else if p.vo.p.n=(i:Int)then(Nod.gC { p with cl:=(CU p.vo.p p.cl (p.an.take 40)).2 } (CU p.vo.p p.cl (p.an.take 40)).1,[])
 else({ p with cl:=(CU p.vo.p p.cl (p.an.take 40)).2 },[{ Cn 6 with au:=p.ae.length,fa:=(CU p.vo.p p.cl (p.an.take 40)).1,src:=i,dst:=p.vo.p.n.toNat }])
noncomputable def mH(i:Nat):List Cmd->Nod->List Tol->Nod × List Tol
 | [],p,ts=>(p,ts)
 | c::l,p,ts =>
  if doE p.mh c≠0 then(p,ts)
  else mH i l (Nod.lp { p with mh:=doS p.mh c,done:=p.done+1 } c) (if(p.cl c).isSome=true then ts++[⟨i,c.c,c.s,doC p.mh c,doA p.mh c⟩]else ts)
def Nod.mn(p:Nod)(i:Nat)(ls:List Let):Nod × List Let:=if p.sy<(p.d.length:Int)/\Dc p.d p.sy≠0 then(p,ls)else mi i p.bt { p.mJ with bt:=[] } ls
def Nod.cF(p:Nod)(i:Nat)(ls:List Let):Nod × List Let:=if p.leads then(Id p i 5,ls++DQ p i 5)else(p,ls)
noncomputable def Nod.piece(p:Nod)(i:Nat)(ls:List Let)(ts:List Tol):Nod × List Let × List Tol :=
 let a:=mH i (p.ae.drop p.done) p ts
 let b:=a.1.mo i
 let c:=b.1.fv.mn i (ls++b.2)
 let d:=c.1.cF i c.2
 (d.1,d.2,a.2)
noncomputable def Nod.mF(p:Nod)(i:Nat)(e:Int)(c:Cmd)(ts:List Tol):Nod × List Tol :=
 if p.up=false then(p,ts)
 else if e≠0 then({ p with bad:=p.bad+1 },ts)
 else if c∈p.ae.take p.done then(p,ts++[⟨i,c.c,c.s,doC p.mh c,doA p.mh c⟩])
 else(p.want c,ts)
def LN(l:List Int)(now:Int):Cmd:=if opE l now=0 then⟨Ac (unQ l) 0,Ac (unQ l) 4,Ac (unQ l) 8,Ac (unQ l) 12,Ac (unQ l) 16⟩else Qo
theorem dJ(l:List Int)(a:Int):opA l a=cmC (LN l a):=by unfold opA LN;split<;>rfl
noncomputable def Nod.mL(p:Nod)(i:Nat)(d:List Int)(ts:List Tol):Nod × List Tol:=p.mF i (opE d (p.done:Int)) (LN d (p.done:Int)) ts
def Meet.set(M:Meet)(i:Nat)(p:Nod)(ls:List Let)(ts:List Tol):Meet:=⟨upN M.af i p,ls,ts⟩
noncomputable def Meet.act(M:Meet)(x:Lac):Meet :=
 let i:=x.n.toNat
 if x.k=1 then M.set i ((M.af i).mL i x.d M.ed).1 M.bN ((M.af i).mL i x.d M.ed).2
 else if x.k=2 then M.set i (if(M.af i).up then(M.af i).lead i else M.af i) M.bN M.ed
 else if x.k=3 then M.set i (if(M.af i).up then((M.af i).piece i M.bN M.ed).1 else M.af i) (if(M.af i).up then((M.af i).piece i M.bN M.ed).2.1 else M.bN) (if(M.af i).up then((M.af i).piece i M.bN M.ed).2.2 else M.ed)
 else if x.k=4\/x.k=5\/x.k=6 then M.move x.k x.a.toNat
 else if x.k=7 then M.my
 else if x.k=8 then M.set i (if(M.af i).up then(M.af i).mg x.p else M.af i) M.bN M.ed
 else if x.k=9 then M.set i (if(M.af i).up then M.af i else(M.af i).start) M.bN M.ed
 else M
noncomputable def Meet.mz(M:Meet)(l:List Lac):Meet:=l.foldl Meet.act M
theorem am(r:List Int):AL (DU r).2.p/\Bu (DU r).2.vs:=by
 have h:∀ k,AL (itR r k).2.p/\Bu (itR r k).2.vs:=by
  intro k;induction k with
  | zero=>exact⟨.inr ⟨rfl,rfl⟩,Bu.nil⟩
  | succ k ih =>
   rw[itR];unfold IV;split
   .exact ih
   .rename_i c m hs
    have d:∃ b,Dj (itR r k).2 b=some c:=by
     unfold BB at hs;split at hs
     .cases hs
     .split at hs
      .cases hs
      .split at hs
       .cases hs
       .obtain⟨x,hx,e⟩:=jC.1 hs;injection e with e1 e2
        subst e1;exact⟨_,hx⟩
    obtain⟨b,a⟩:=d;unfold Dj at a;split at a
    .split at a
     .rename_i h1
      injection a with a;subst a
      exact⟨.inl (Gd h1).2.1,ih.2⟩
     .cases a
    .split at a
     .split at a
      .split at a
       .rename_i h1
        injection a with a;subst a
        exact⟨.inl (BI h1).2.1.2.1,F1 ih.2 (BI h1).2.1⟩
       .cases a
      .cases a
     .cases a
 exact h r.length
theorem al(d:List Int)(s:Int):AL (FB d s).p/\Bu (FB d s).vs:=by
 unfold FB;split
 .exact am d
 .exact⟨.inr ⟨rfl,rfl⟩,Bu.nil⟩
theorem D6{l m:Let}{k:Nat}(h:m∈BM i l k):∃ to,to<k/\m={ l with src:=i,dst:=to }:=by
 unfold BM at h;obtain⟨to,a,rfl⟩:=i7.1 h;exact⟨to,j5.1 (List.mem_filter.1 a).1,rfl⟩
theorem I7(a:i<5)(l:Let):(BM i l 5).length<=4:=by
 unfold BM;rw[iQ];rcases mj a with rfl|rfl|rfl|rfl|rfl<;>decide
end
section
variable{n i:Nat}{p:Nod}
theorem NOk.mm(h:NOk n p)(a:i<5){q:Pend}(c:POk p.ae.length q):NOk n (p.mm i q)/\(p.mm i q).bt=p.bt/\p.ae.length<=(p.mm i q).ae.length/\PW p i q/\(∀ m∈p.mx i q,LOk m)/\(p.mx i q).length<=q.wt:=by
 have j:=h.ag;have one:∀ {l:Let},LOk l->∀ m∈[l],LOk m:=λk m d=>by rw[N'.1 d];exact k
 cases q with
 | began b vs =>
  unfold Nod.mm Nod.mx;refine⟨?_,?_,?_,lG (h.he i).len (by decide),?_,?_⟩
  .simp only;split
   .exact h
   .exact h.mE i c
  .simp only;split<;>rfl
  .simp only;split<;>exact A' _
  .simp only;split
   .exact λm d=>by cases d
   .rename_i h1
    intro m d;obtain⟨e,f,rfl⟩:=D6 d;exact⟨by show 0<7;decide,a,f,by show AL b;rw[<- jn h1];exact h.vp,Bu.nil,by show 0<=40;decide,λh=>by cases h⟩
  .simp only;split
   .exact iR _
   .exact I7 a _
 | prom e b vs=>exact⟨h,rfl,A' _,trivial,one ⟨by show 1<7;decide,a,c.1,c.2.1,c.2.2,j,λh=>by cases h⟩,A' _⟩
 | voted e v=>exact⟨h,rfl,A' _,trivial,one ⟨by show 4<7;decide,a,c,AL.b0,Bu.nil,by show 0<=40;decide,λh=>by cases h⟩,A' _⟩
 | ln e b=>exact⟨h,rfl,A' _,trivial,one ⟨by show 2<7;decide,a,c.1,c.2,Bu.nil,by show 0<=40;decide,λh=>by cases h⟩,A' _⟩
 | prop v =>
  have g:=h.count i v;refine⟨g.1,g.2.1,g.2.2,j,λm d=>?_,I7 a _⟩;obtain⟨e,f,rfl⟩:=D6 d;exact⟨by show 3<7;decide,a,f,AL.b0,Bu.nil,by show 0<=40;decide,λh=>by cases h⟩
 | askNews e=>exact⟨h,rfl,A' _,trivial,one ⟨by show 6<7;decide,a,c,AL.b0,Bu.nil,by show 0<=40;decide,λh=>by cases h⟩,A' _⟩
 | start =>
  refine⟨h,rfl,A' _,trivial,λm d=>?_,I7 a _⟩;obtain⟨e,f,rfl⟩:=D6 d;exact⟨by show 6<7;decide,a,f,AL.b0,Bu.nil,by show 0<=40;decide,λh=>by cases h⟩
 | tell e au=>exact⟨h,rfl,A' _,c.2,one ⟨by show 5<7;decide,a,c.1,AL.b0,Bu.nil,by show(p.ae.drop au).length<=40;rw[iA];omega,λ_=>by show au+(p.ae.drop au).length<=40;rw[iA];have:=c.2;omega⟩,A' _⟩
theorem VD(k:i<5)(l:List Pend)(p:Nod)(a:List Let)(h:NOk n p)(c:∀ q∈l,POk p.ae.length q)(z:a.length+At l<90000000)(b:∀ m∈a,LOk m) :
  NOk n (mi i l p a).1/\(mi i l p a).1.bt=p.bt/\(∀ m∈(mi i l p a).2,LOk m)/\(mi i l p a).2.length<=a.length+At l/\FQ i l p a:=by
 induction l generalizing p a with
 | nil=>exact⟨h,rfl,b,A' _,trivial⟩
 | cons q l ih =>
  obtain⟨d,e,f,g,j,y⟩:=h.mm k (c q U');have A:At (q::l)=q.wt+At l:=rfl;obtain⟨t,u,v,w,x⟩:=ih (p.mm i q) (a++p.mx i q) d (λr s=>(c r (Q' _ s)).mono f) (by rw[G'];omega) (λm o=>by
   rcases P'.1 o with h|h
   .exact b m h
   .exact j m h)
  refine⟨t,u.trans e,v,?_,g,by omega,x⟩;show(mi i l (p.mm i q) (a++p.mx i q)).2.length<=_;rw[G']at w;omega
theorem NOk.mJ(h:NOk n p):NOk n { p.mJ with bt:=[] }:=by
 unfold Nod.mJ;split
 .exact{ h with pe:=λq a=>by cases a }
 .exact{ h with pe:=λq a=>by cases a }
theorem RJ(p:Nod):p.mJ.ae=p.ae:=by unfold Nod.mJ;split<;>rfl
theorem NOk.mn(h:NOk n p)(d:i<5){ls:List Let}(c:ls.length+At p.bt<90000000)(b:∀ m∈ls,LOk m) :
  NOk n (p.mn i ls).1/\(∀ m∈(p.mn i ls).2,LOk m)/\(p.mn i ls).2.length+At (p.mn i ls).1.bt<=ls.length+At p.bt/\FQ i p.bt { p.mJ with bt:=[] } ls:=by
 have a:=VD d p.bt { p.mJ with bt:=[] } ls h.mJ (λq e=>by show POk p.mJ.ae.length q;rw[RJ];exact h.pe q e) c b;unfold Nod.mn;split
 .exact⟨h,b,A' _,a.2.2.2.2⟩
 .exact⟨a.1,a.2.2.1,by rw[a.2.1];exact a.2.2.2.1,a.2.2.2.2⟩
theorem Va(b:Bal)(f:Cmd->Option Bal)(l:List Cmd):(CU b f l).1.length<=l.length:=by
 induction l generalizing f with
 | nil=>exact A' _
 | cons c l ih =>
  rw[CU];split
  .have:=ih (Et f c (some b));simp only[iX];omega
  .have:=ih f;simp only[iX];omega
theorem Tf(b:Bal)(f:Cmd->Option Bal)(l:List Cmd)(c:Cmd)(h:((CU b f l).2 c).isSome=true):(f c).isSome=true\/c∈l:=by
 induction l generalizing f with
 | nil=>exact .inl h
 | cons d l ih =>
  rw[CU]at h
  split at h
  .rcases ih _ h with h1|h1
   .unfold Et at h1;split at h1
    .rename_i e;exact .inr (e▸U')
    .exact .inl h1
   .exact .inr (Q' _ h1)
  .rcases ih _ h with h1|h1
   .exact .inl h1
   .exact .inr (Q' _ h1)
theorem NOk.asks(h:NOk n p):NOk n { p with cl:=(CU p.vo.p p.cl (p.an.take 40)).2 } :=
 { h with ask:=λc a=>(Tf _ _ _ c a).elim (h.ask c) iJ }
theorem NOk.mo(h:NOk n p)(c:i<5):NOk n (p.mo i).1/\(p.mo i).1.bt=p.bt/\(p.mo i).1.ae=p.ae/\(∀ m∈(p.mo i).2,LOk m)/\(p.mo i).2.length<=1:=by
 have b:(CU p.vo.p p.cl (p.an.take 40)).1.length<=40:=iy (Va _ _ _) (by rw[X'];omega);unfold Nod.mo;split
 .exact⟨h.asks,rfl,rfl,λm a=>(by cases a),iR _⟩
 .split
  .have:=h.asks.gC (CU p.vo.p p.cl (p.an.take 40)).1;exact⟨this.1,this.2.1,this.2.2,λm a=>(by cases a),iR _⟩
  .have hr:=h.vp.nR;refine⟨h.asks,rfl,rfl,λm a=>?_,A' _⟩;rw[N'.1 a];exact⟨by show 6<7;decide,c,by show p.vo.p.n.toNat<5;omega,AL.b0,Bu.nil,b,λh=>by cases h⟩
theorem NOk.fv(h:NOk n p):NOk n p.fv/\At p.fv.bt<=At p.bt+4/\p.fv.ae=p.ae:=by
 unfold Nod.fv;split
 .exact⟨h,by omega,rfl⟩
 .split
  .exact⟨h,by omega,rfl⟩
  .rename_i c _
   split
   .exact⟨h,by omega,rfl⟩
   .have hv:=h.cn ⟨(p.ae.length:Int),p.bw.lr,c⟩;have a:NOk n { (p.cn ⟨(p.ae.length:Int),p.bw.lr,c⟩).1 with bw:={ p.bw with next:=p.ae.length+1 } }:={ hv.1 with qu:=h.qu,he:=h.he };refine⟨a.wait trivial,?_,hv.2.2.1⟩;show At ((p.cn ⟨(p.ae.length:Int),p.bw.lr,c⟩).1.bt++[_])<=_;rw[EW,hv.2.1];exact A' _
theorem NOk.cF(h:NOk n p)(e:i<5)(a:List Let)(d:∀ m∈a,LOk m):NOk n (p.cF i a).1/\(p.cF i a).1.bt=p.bt/\(∀ m∈(p.cF i a).2,LOk m)/\(p.cF i a).2.length<=a.length+5:=by
 have g:=h.ag;have f:∀ k,k<=5->∀ m∈DQ p i k,LOk m:=by
  intro k;induction k with
  | zero=>exact λ_ m b=>by cases b
  | succ k ih =>
   intro j m b;rw[DQ]at b
   rcases P'.1 b with h1|h1
   .exact ih (by omega) m h1
   .split at h1
    .rename_i c
     have c:=jt c;rw[N'.1 h1];exact⟨by show 5<7;decide,e,by show k<5;omega,AL.b0,Bu.nil,by show(p.ae.drop _).length<=40;rw[iA];omega,λ_=>by show p.bw.cF k+(p.ae.drop _).length<=40;rw[iA];omega⟩
    .cases h1
 unfold Nod.cF;split
 .refine⟨{ h with qu:=h.qu,he:=h.he },rfl,λm b=>?_,by show(a++DQ p i 5).length<=_;rw[G'];have:=SQ p i 5;omega⟩;rcases P'.1 b with h1|h1
  .exact d m h1
  .exact f 5 (A' _) m h1
 .exact⟨h,rfl,d,lS _ _⟩
theorem NOk.lp(h:NOk n p)(c:Cmd):NOk n (p.lp c)/\(p.lp c).an.length+(if(p.cl c).isSome=true then 1 else 0)<=p.an.length:=by
 unfold Nod.lp;split
 .rename_i h1
  have b:=h.ask c h1;have e:(p.an.erase c).length=p.an.length-1:=List.length_erase_of_mem b;have f:0<p.an.length:=List.length_pos_of_mem b;refine⟨{ h with wa:=?_,ask:=λd a=>?_ },by show(p.an.erase c).length+1<=_;omega⟩
  .show(p.an.erase c).length<=n;have:=h.wa;omega
  .unfold Et at a;simp only at a;split at a
   .cases a
   .rename_i hne;exact(List.mem_erase_of_ne hne).2 (h.ask d a)
 .exact⟨h,A' _⟩
theorem FK(p:Nod)(c:Cmd):(p.lp c).up=p.up/\(p.lp c).bt=p.bt/\(p.lp c).ae=p.ae/\(p.lp c).done=p.done/\(p.lp c).mh=p.mh:=by
 unfold Nod.lp;split<;>exact⟨rfl,rfl,rfl,rfl,rfl⟩
theorem V9(i:Nat)(l:List Cmd)(p:Nod)(a:List Tol)(h:NOk n p)(j:p.done+l.length<=p.ae.length) :
  NOk n (mH i l p a).1/\(mH i l p a).1.bt=p.bt/\(mH i l p a).1.ae=p.ae/\(mH i l p a).2.length+(mH i l p a).1.an.length<=a.length+p.an.length:=by
 induction l generalizing p a with
 | nil=>exact⟨h,rfl,rfl,A' _⟩
 | cons c l ih =>
  rw[mH];split
  .exact⟨h,rfl,rfl,A' _⟩
  .rw[iX]at j
   have g:NOk n { p with mh:=doS p.mh c,done:=p.done+1 }:={ h with dn:=by show p.done+1<=p.ae.length;omega };have e:=g.lp c;have b:=FK { p with mh:=doS p.mh c,done:=p.done+1 } c;obtain⟨k,m,o,q⟩:=ih (Nod.lp { p with mh:=doS p.mh c,done:=p.done+1 } c) (if(p.cl c).isSome=true then a++[⟨i,c.c,c.s,doC p.mh c,doA p.mh c⟩]else a) e.1 (by rw[b.2.2.2.1,b.2.2.1];show p.done+1+l.length<=p.ae.length;omega);refine⟨k,m.trans b.2.1,o.trans b.2.2.1,iy q ?_⟩;have d:=e.2;simp only at d;by_cases f:(p.cl c).isSome=true
   .rw[if_pos f]at d ⊢
    rw[G'];show a.length+1+_<=_;omega
   .rw[if_neg f]at d ⊢;omega
theorem NOk.piece(h:NOk n p)(f:i<5){ls:List Let}{ts:List Tol}(r:ls.length+At p.bt<80000000)(k:∀ m∈ls,LOk m) :
  NOk n (p.piece i ls ts).1/\(∀ m∈(p.piece i ls ts).2.1,LOk m)/\(p.piece i ls ts).2.1.length+At (p.piece i ls ts).1.bt<=ls.length+At p.bt+10/\(p.piece i ls ts).2.2.length+(mH i (p.ae.drop p.done) p ts).1.an.length<=ts.length+p.an.length:=by
 have b:=V9 i (p.ae.drop p.done) p ts h (by rw[iA];have:=h.dn;omega);have a:=b.1.mo f;have d:=a.1.fv;have e:=d.1.mn f (ls:=ls++((mH i (p.ae.drop p.done) p ts).1.mo i).2) (by rw[G'];have:=d.2.1;have:=a.2.2.2.2;rw[a.2.1,b.2.1]at *;omega) (λm l=>by
  rcases P'.1 l with h|h
  .exact k m h
  .exact a.2.2.2.1 m h)
 have c:=e.1.cF f _ e.2.1;refine⟨c.1,c.2.2.1,?_,b.2.2.2⟩;have o:=c.2.2.2;have g:=e.2.2.1;have j:=d.2.1;have q:=a.2.2.2.2;rw[a.2.1,b.2.1]at j
 rw[G']at g
 show(Nod.cF _ i _).2.length+At (Nod.cF _ i _).1.bt<=_;rw[c.2.1];omega
end
end
section
open Go.RowKit
theorem RM{g:Gh}{w:World}(L:∀ b,w.heap.size<=b->g.t b=.z/\g.k b=0) :
  Calls prog 28 #[] w λe w'=>∃ (b:Nat) (g':Gh),e=.returned (.map (some b))/\TkAt g' w' b 7/\Il g' w'/\Cg w.heap.size [.n 70 0] g w g' w':=by
 refine gI (fn:=f28) [.n 70 0] g func28 L (qR [] 6 [] λW T X c1=>fA 0 (by kernel_rfl) (by kernel_rfl) ?_);intro a U Y M v q V;have F:=q w.heap.size [];refine GC 1 (b:=a) v (by decide) (by kernel_rfl) (by kernel_rfl) (by kernel_rfl) ?_;intro Z x r;have G:=r w.heap.size [.n 70 0] (N'.2 rfl);refine GC 2 (b:=a) x (by decide) (by kernel_rfl) (by kernel_rfl) (by kernel_rfl) ?_;intro w6 y s;have H:=s w.heap.size [.n 70 0] (N'.2 rfl);refine GC 3 (b:=a) y (by decide) (by kernel_rfl) (by kernel_rfl) (by kernel_rfl) ?_;intro w8 A u;have I:=u w.heap.size [.n 70 0] (N'.2 rfl);refine GC 4 (b:=a) A (by decide) (by kernel_rfl) (by kernel_rfl) (by kernel_rfl) ?_;intro O B d;have l:=d w.heap.size [.n 70 0] (N'.2 rfl);refine GC 5 (b:=a) B (by decide) (by kernel_rfl) (by kernel_rfl) (by kernel_rfl) ?_;intro P C h;have m:=h w.heap.size [.n 70 0] (N'.2 rfl);refine GC 6 (b:=a) C (by decide) (by kernel_rfl) (by kernel_rfl) (by kernel_rfl) ?_;intro Q D i;have o:=i w.heap.size [.n 70 0] (N'.2 rfl);refine GC 7 (b:=a) D (by decide) (by kernel_rfl) (by kernel_rfl) (by kernel_rfl) ?_;intro R E j;have p:=j w.heap.size [.n 70 0] (N'.2 rfl);refine qR [] 3 [] λN J S c=>qE (.map (some a)) λK=>⟨a,_,rfl,(E.ch c),K.new,((((((((((c1.nil [.n 70 0]).n F).trans G).trans H).trans I).trans l).trans m).trans o).trans p).n c)⟩
theorem Ki{g:Gh}{w:World}{p q A:Nat}{v:Nat->Nat}{M:Meet}(h:MS p q A v g w M){w0:World}(hB:Base w0 g w)(hT:Tabs w0)(y:Nat)(l:Let)(hl:Cj g w y l)(I:LOk l){n:Nat}(s:NOk n (M.af l.dst))(u:(M.af l.dst).bt.length<100000000) :
  Calls prog 75 #[pt p 0,pt y 0] w (MP p q A v g w (.tuple #[]) (M.mq l)):=by
 have m:=hl;obtain⟨P,src,dst,C,cn,i,o,c⟩:=l;have hs:src<5:=I.src;have j:dst<5:=I.dst;have a8:P<7:=I.kd;have b7:c.length<=40:=I.wh;simp only at s u;obtain⟨x,hN⟩:=h.af dst j;have b6:=s.ag;refine gI (fn:=f75) TM g func75 h.new (BJ ⟨p,_,.z,false⟩ (λ_=>⟨h.box.r,h.box.z,λh=>(by cases h),λh=>absurd rfl h⟩) (by kernel_rfl) ?_);obtain⟨vs,wh,a9,d3,d4⟩:=hl;refine BJ ⟨y,.cells (EN (Let.mk P src dst C cn i o c) vs wh) 158,.z,false⟩ (λ_=>⟨a9.r,a9.z,λh=>(by cases h),λh=>absurd rfl h⟩) (by kernel_rfl) ?_;refine qR [] 9 [10,0,2,4,6,8,1,10,12] λs1 g1 w1 c1=>?_;refine OG 7 (pt p dst) false (λW hW=>(by rcases mj j with rfl|rfl|rfl|rfl|rfl<;>kernel_rfl)) (by kernel_rfl) ?_;refine qU 8 (pt (v dst) 0) (λW hW=>(Ci underlying89 rfl (S7 (AM.at (hW rfl) 0 p (.cells (mtA v A q) 92) .z (by kernel_rfl)) j))) (qR [] 7 [18] λs3 g3 w3 a=>?_);have b5:=hN.ch (c1.trans a);refine qN b5 (qR [] 2 [2] λs4 g4 w4 b=>?_);by_cases h1:(M.af dst).up=true
 .refine qI ((M.af dst).up) true h1 ?_;have L:=h.tk.ch ((c1.trans a).trans b) (by simp);refine Hf q _ 70 0 L.row L.t L.k (by kernel_rfl) ?_;rw[show M.mq (Let.mk P src dst C cn i o c)=M.set dst ((M.af dst).take (Let.mk P src dst C cn i o c)) M.bN M.ed from if_pos h1];refine qR [] 9 [11,0,2,4,6,0,8,10,12,14,1] λs5 g5 w5 d=>qU 8 (tkV P) (λW hW=>(rTk (AM.at (hW rfl) 3 q (.map (tkL 7).toArray 7) (.n 70 0) (by kernel_rfl)) a8)) (qR [] 2 [18,20] λs6 J N e=>?_);rcases XI a8 with rfl|rfl|rfl|rfl|rfl|rfl|rfl
  .refine Ae λK=>?_;have N7:MS p q A v J N M:=(h.mr ((((c1.trans a).trans b).trans d).trans e) K.new);refine qG 11 TM [true,true,false,false] ((N7).call j (Ic ((N7).ns j) (hB.ch (((((c1.nil TM).n a).n b).n d).n e) EE) hT y _ (m.ch ((((c1.trans a).trans b).trans d).trans e) (by simp)) rfl u)) ?_;rintro O w7 ⟨g7,rfl,M7,c7⟩;refine⟨_,g7,rfl,c7,M7.new,?_⟩;replace c7:=c7.ret (B:=w.heap.size);refine qR [] 1 [] λs8 g8 w8 c8=>qE (.tuple #[]) λK=>⟨_,rfl,(M7.mr c8 K.new),(((((((c1.nil TM).n a).n b).n d).n e).trans (c7)).n c8)⟩
  .refine Ae λK=>?_;have N9:MS p q A v J N M:=(h.mr ((((c1.trans a).trans b).trans d).trans e) K.new);refine qG 11 TM [true,true,false,false] ((N9).call j (J9 ((N9).ns j) (hB.ch (((((c1.nil TM).n a).n b).n d).n e) EE) hT y _ (m.ch ((((c1.trans a).trans b).trans d).trans e) (by simp)) rfl hs (by show((M.af dst).ae++c.drop ((M.af dst).ae.length-0)).length<=40;rw[G',iA];omega) b7 (lG (s.he src).len (by decide)))) ?_;rintro O w9 ⟨g9,rfl,M9,c9⟩;refine⟨_,g9,rfl,c9,M9.new,?_⟩;replace c9:=c9.ret (B:=w.heap.size);refine qR [] 1 [] λd5 b8 e2 a1=>qE (.tuple #[]) λK=>⟨_,rfl,(M9.mr a1 K.new),(((((((c1.nil TM).n a).n b).n d).n e).trans (c9)).n a1)⟩
  .refine Ae λK=>?_;have V:MS p q A v J N M:=(h.mr ((((c1.trans a).trans b).trans d).trans e) K.new);refine qG 11 TM [true,true,false,false] ((V).call j (JA ((V).ns j) y _ (m.ch ((((c1.trans a).trans b).trans d).trans e) (by simp)))) ?_;rintro O e3 ⟨b0,rfl,Q,D⟩;refine⟨_,b0,rfl,D,Q.new,?_⟩;replace D:=D.ret (B:=w.heap.size);refine qR [] 1 [] λd6 b9 e4 a2=>qE (.tuple #[]) λK=>⟨_,rfl,(Q.mr a2 K.new),(((((((c1.nil TM).n a).n b).n d).n e).trans (D)).n a2)⟩
  .refine Ae λK=>?_;have X:MS p q A v J N M:=(h.mr ((((c1.trans a).trans b).trans d).trans e) K.new);refine qG 11 TM [true,true,false,false] ((X).call j (IG ((X).ns j) (hB.ch (((((c1.nil TM).n a).n b).n d).n e) EE) hT y _ (m.ch ((((c1.trans a).trans b).trans d).trans e) (by simp)) rfl u (by have:=s.vs.len;omega))) ?_;rintro O e5 ⟨b1,rfl,R,E⟩;refine⟨_,b1,rfl,E,R.new,?_⟩;replace E:=E.ret (B:=w.heap.size);refine qR [] 1 [] λd7 c0 e6 a3=>qE (.tuple #[]) λK=>⟨_,rfl,(R.mr a3 K.new),(((((((c1.nil TM).n a).n b).n d).n e).trans (E)).n a3)⟩
  .refine Ae λK=>?_;have Y:MS p q A v J N M:=(h.mr ((((c1.trans a).trans b).trans d).trans e) K.new);refine qG 11 TM [true,true,false,false] ((Y).call j (NU ((Y).ns j) (hB.ch (((((c1.nil TM).n a).n b).n d).n e) EE) hT y _ (m.ch ((((c1.trans a).trans b).trans d).trans e) (by simp)) hs b6)) ?_;rintro O e7 ⟨b2,rfl,S,F⟩;refine⟨_,b2,rfl,F,S.new,?_⟩;replace F:=F.ret (B:=w.heap.size);refine qR [] 1 [] λd8 c2 e8 a4=>qE (.tuple #[]) λK=>⟨_,rfl,(S.mr a4 K.new),(((((((c1.nil TM).n a).n b).n d).n e).trans (F)).n a4)⟩
  .refine Ae λK=>?_;have Z:MS p q A v J N M:=(h.mr ((((c1.trans a).trans b).trans d).trans e) K.new);refine qG 11 TM [true,true,false,false] ((Z).call j (NT ((Z).ns j) y _ (m.ch ((((c1.trans a).trans b).trans d).trans e) (by simp)) rfl u (by omega) (by show c.length<_;omega))) ?_;rintro O e9 ⟨b3,rfl,T,G⟩;refine⟨_,b3,rfl,G,T.new,?_⟩;replace G:=G.ret (B:=w.heap.size);refine qR [] 1 [] λd9 d0 f0 a5=>qE (.tuple #[]) λK=>⟨_,rfl,(T.mr a5 K.new),(((((((c1.nil TM).n a).n b).n d).n e).trans (G)).n a5)⟩
  .refine Ae λK=>?_;have a0:MS p q A v J N M:=(h.mr ((((c1.trans a).trans b).trans d).trans e) K.new);refine qG 11 TM [true,true,false,false] ((a0).call j (Lk ((a0).ns j) y _ (m.ch ((((c1.trans a).trans b).trans d).trans e) (by simp)) rfl u (by show c.length<_;omega) s.qu)) ?_;rintro O f1 ⟨b4,rfl,U,H⟩;refine⟨_,b4,rfl,H,U.new,?_⟩;replace H:=H.ret (B:=w.heap.size);refine qR [] 1 [] λe0 d1 f2 a6=>qE (.tuple #[]) λK=>⟨_,rfl,(U.mr a6 K.new),(((((((c1.nil TM).n a).n b).n d).n e).trans (H)).n a6)⟩
 .refine qI ((M.af dst).up) false (by simpa using h1) (qR [] 1 [] λe1 d2 f3 a7=>qE (.tuple #[]) λK=>?_);rw[show M.mq (Let.mk P src dst C cn i o c)=M from if_neg h1];exact⟨_,rfl,(h.mr (((c1.trans a).trans b).trans a7) K.new),((((c1.nil TM).n a).n b).n a7)⟩
section
variable{P:Program}{B:Nat}{T:List Tg}{g:Gh}{w:World}
section
variable{x:S3}{xs:List Value}{τ:Tg}
theorem OwnS.nt{e:TypeId}{d:Nat}(h:OwnS g w τ false e d x xs){k:Nat}(f:k<=x.n)(i:0<x.n):OwnS g w τ false e d ⟨x.a,k,x.c⟩ (xs.take (k*d)):=by
 have l:=h.len;have j:k*d<=x.n*d:=jU _ f;refine⟨by rw[X'];show min _ _=k*d;omega,?_⟩;rcases h.ex with⟨h1,h2,h3⟩|⟨b,cur,h1,h2,h3,h4,h5,h6,h7,h8⟩
 .omega
 .refine .inr ⟨b,cur,h1,h2,iy f h3,h4,h5,?_,h7,h8⟩;show cur.toList.take (k*d)=xs.take (k*d);rw[<- h6,j6,jw j]
theorem eX(t C e:TypeId)(i:TypeInfo)(J:P.underlying t=some (.slice e))(F:P.info? e=some i)(y:τ∈T)(A:OwnS g w τ false e i.size x xs)(a:Addr)(m c:Nat)(h:List Value)(H:0<x.c)(s:h.length=m*i.size)(o:∀ j u,h[j]?=some u->w.cell? (a.add j)=some u)(D:∀ u∈h,u.oneCell'=true)(f:x.n+m<=x.c) :
  ∃ w',(Builtin.append_ #[t,t] C #[x.v,.slice (some a) m c]).run P w=.ok (S3.v ⟨x.a,x.n+m,x.c⟩) w'/\OwnS g w' τ false e i.size ⟨x.a,x.n+m,x.c⟩ (xs++h)/\Cg B T g w g w'/\w'.heap.size=w.heap.size:=by
 obtain⟨L,z,K⟩:=x;have l:(xs++h).length=(z+m)*i.size:=by rw[G',A.len,s,kK]
 rcases A.ex with⟨h2,h3,h4⟩|⟨b,cur,h2,h3,h4,h5,h6,h7,h8,h9⟩
 .simp only at h4 f H;omega
 .simp only at h2 h4 h5 h6 h7 f;subst h2;have q:z*i.size+h.length<=cur.size:=by rw[s,h6,<- kK];exact jU _ f
  have I:=run_append_room (P:=P) w t C e i J F b z K cur h3 a m c h s o D f q;have p:g.k b=0:=by simpa using h9
  refine⟨_,I,⟨l,.inr ⟨b,_,rfl,setRow_heap w b cur _ e _ h3,f,h5,?_,?_,h8,by rw[p];rfl⟩⟩,⟨rfl,rfl,rfl,by simp,λ_ _=>.inl rfl,λ_ _=>A' _,λ_ _ _ _=>rfl,λd E r _=>setRow_other w b d _ (λe=>r (by rw[e,h8];exact y)),λd E j G=>?_⟩,by simp⟩
  .simp only[jV,G',X',iA,jy];omega
  .rw[h7,<- l];exact lH
  .exact World.cell?_of_block (w:=w) (setRow_other w b d _ (λe=>by rw[e,p]at G;omega))
theorem fe(t J e:TypeId)(z:Value)(f:Nat)(H:P.underlying t=some (.slice e))(I:∀ w,(zeroValue e).run P w=.ok z w)(r:z.cells.size=f)(A:0<f)(C:∀ j,j<f->(z.cells[j]!).oneCell'=true)(D:τ∈T)(E:OwnS g w τ false e f x xs){b:Nat}(s:x.a=some ⟨b,0,none⟩)(k c:Nat)(K:0<k)(i:x.n+k<=x.c) :
  ∃ w',(Builtin.clear_ #[t] J #[.slice (some ⟨b,x.n*f,none⟩) k c]).run P w=.ok (.tuple #[]) w'/\OwnS g w' τ false e f x xs/\Cg B T g w g w'/\w'.heap.size=w.heap.size:=by
 rcases E.ex with⟨h2,h3,h4⟩|⟨b',cur,h2,h3,h4,h5,h6,h7,h8,h9⟩
 .rw[h2]at s;cases s
 .rw[s]at h2
  simp only[V',Addr.mk.injEq,and_true]at h2;subst h2;have u:g.k b=0:=by simpa using h9
  have l:(Builtin.zeroCells z.cells k).toList.length=k*f:=by rw[jy,size_zeroCells,r]
  have h:x.n*f+0+(Builtin.zeroCells z.cells k).toList.length<=cur.size:=by rw[l,h6,jY,<- kK];exact jU _ i
  have o:∀ v∈(Builtin.zeroCells z.cells k).toList,v.oneCell'=true:=by
   intro v q;simp only[Builtin.zeroCells,Array.toList_map,i7]at q;obtain⟨j,_,rfl⟩:=q;exact C _ (by rw[r];exact Nat.mod_lt _ A)
  have p:=run_storeCells_at (P:=P) b (x.n*f) e (Builtin.zeroCells z.cells k).toList 0 cur w h3 h o;simp only[jY]at p;obtain⟨m,rfl⟩:∃ m,k=m+1:=⟨k-1,by omega⟩;refine⟨_,by simp only[Builtin.clear_,jb,ju,Sem.run_bind,run_underlying H,Result.andThen_ok,I,p];rfl,⟨E.len,.inr ⟨b,_,s,setRow_heap w b cur _ e _ h3,h4,h5,?_,?_,h8,h9⟩⟩,⟨rfl,rfl,rfl,by simp,λ_ _=>.inl rfl,λ_ _=>A' _,λ_ _ _ _=>rfl,λd F y _=>setRow_other w b d _ (λe=>y (by rw[e,h8];exact D)),λd F j G=>?_⟩,by simp⟩
  .rw[l]at h ⊢
   simp only[jV,G',X',iA,jy,l];simp only[jY]at h;omega
  .have hle:x.n*f<=cur.toList.length:=by rw[jy,h6];exact jU _ h4
   show(cur.toList.take (x.n*f)++_++_).take (x.n*f)=xs;rw[iB,iY (by rw[X'];omega),j6,Nat.min_self,h7]
  .exact World.cell?_of_block (w:=w) (setRow_other w b d _ (λe=>by rw[e,u]at G;omega))
end
end
section
variable{fn:Func}{R:Ending->World->Prop}{B:Nat}{T:List Tg}{g:Gh}{w W:World}
section
theorem Jq(b o k:Nat):(⟨b,o,none⟩:Addr).add k=⟨b,o+k,none⟩:=by
 unfold Addr.add;split
 .rename_i h;simp[]
 .rfl
theorem ig(b n c l h m:Nat)(a:l<=h)(d:h<=m)(e:m<=c)(f:l<m):(Instr.sliceAt 35 (.slice (some ⟨b,0,none⟩) n c) (some (iv (l:Int))) (some (iv (h:Int))) (some (iv (m:Int)))).run prog W=.ok (.slice (some ⟨b,l*5,none⟩) (h-l) (m-l)) W:=by
 rw[run_sliceAt_slice _ _ _ _ _ _ unC,run_slice_lhm (P:=prog) (w:=W) _ _ _ _ unC .i64 .i64 .i64 l h m (by omega) (by omega) (by omega) (by omega),sz5];simp[Result.andThen,sliced,Jq];omega
theorem ie(b n c l h:Nat)(a:l<=h)(d:h<=c)(e:l<c):(Instr.sliceAt 35 (.slice (some ⟨b,0,none⟩) n c) (some (iv (l:Int))) (some (iv (h:Int))) none).run prog W=.ok (.slice (some ⟨b,l*5,none⟩) (h-l) (c-l)) W:=by
 rw[run_sliceAt_slice _ _ _ _ _ _ unC,run_slice_lh (P:=prog) (w:=W) _ _ _ _ unC .i64 .i64 l h (by omega) (by omega) (by omega),sz5];simp[Result.andThen,sliced,Jq];omega
theorem ii(b n c h:Nat)(a:h<=c):(Instr.sliceAt 35 (.slice (some ⟨b,0,none⟩) n c) none (some (iv (h:Int))) none).run prog W=.ok (.slice (some ⟨b,0,none⟩) h c) W:=by
 rw[run_sliceAt_slice _ _ _ _ _ _ unC,run_slice_h (P:=prog) (w:=W) _ _ _ _ unC .i64 h (by omega) (by omega),sz5];simp[Result.andThen,sliced,Jq]
theorem ij(b n c l:Nat)(a:l<=n):(Instr.sliceAt 35 (.slice (some ⟨b,0,none⟩) n c) (some (iv (l:Int))) none none).run prog W=.ok (.slice (some ⟨b,if c=l then 0 else l*5,none⟩) (n-l) (c-l)) W:=by
 rw[run_sliceAt_slice _ _ _ _ _ _ unC,run_slice_l (P:=prog) (w:=W) _ _ _ _ unC .i64 l (by omega) (by omega),sz5];simp[Result.andThen,sliced,Jq];split<;>simp
variable{s:Xs}{x:S3}{xs:List Value}{τ:Tg}
theorem fp(p:Nat)(H:TypeId)(a:Addr)(m c:Nat)(d:List Value)(U:OwnS g w τ false 49 5 x xs)(f:CP s p=some (Builtin.append_ #[35,35] H #[x.v,.slice (some a) m c]>>=λv=>pure (.value v)))(z:(nxt s p undef s.L).o.map Ob.l'=(nxt s p undef s.L).o.map Ob.r')(r:s.L.all (λy=>[τ].all λt=>y.t.ne t)=true)(O:0<x.c)(N:d.length=m*5)(I:∀ u∈d,u.oneCell'=true)(h:∀ j u,d[j]?=some u->w.cell? (a.add j)=some u)(k:x.n+m<=x.c)(M:∀ w',OwnS g w' τ false 49 5 ⟨x.a,x.n+m,x.c⟩ (xs++d)->(∀ B T,τ∈T->Cg B T g w g w')->w'.heap.size=w.heap.size->GG prog fn R B T (nxt s p (S3.v ⟨x.a,x.n+m,x.c⟩) s.L).s g w'):GG prog fn R B T s g w:=by
 refine Jy p s.L z (Bz f) λF V i o A=>?_;obtain⟨e,K,l⟩:∃ e,prog.info? 49=some e/\e.size=5:=by
  have q:(prog.info? 49).map (·.size)=some 5:=by kernel_rfl
  cases hh:prog.info? 49 with
  | none=>rw[hh]at q;cases q
  | some v=>rw[hh]at q;exact⟨v,rfl,by simpa using q⟩
 obtain⟨w',Q,C,J,D⟩:=eX (P:=prog) (B:=w.heap.size) (T:=[τ]) 35 H 49 e underlying35 K (N'.2 rfl) (by rw[l];exact U) a m c d O (by rw[l];exact N) h I k;rw[l]at C
 have E:∀ B T,τ∈T->Cg B T g w g w':=λB T r=>(J.ret (B:=B)).mono λt S=>by rw[N'.1 S];exact r
 refine⟨S3.v ⟨x.a,x.n+m,x.c⟩,w',g,.inl ?_,F.ch (E _ [τ] (N'.2 rfl)) (λb G=>F.new b (by rw[D]at G;exact G)) r,M w' C E D⟩;rw[CQ f A,Sem.run_bind,Q,Result.andThen_ok];rfl
theorem gM(w:World):(zeroValue 49).run prog w=.ok (.agg #[iv 0,iv 0,iv 0,iv 0,iv 0]) w:=by kernel_rfl
theorem gV(f:Nat)(A:TypeId){b:Nat}(h:x.a=some ⟨b,0,none⟩)(k c:Nat)(I:OwnS g w τ false 49 5 x xs)(d:CP s f=some (Builtin.clear_ #[35] A #[.slice (some ⟨b,x.n*5,none⟩) k c]>>=λv=>pure (.value v)))(p:(nxt s f undef s.L).o.map Ob.l'=(nxt s f undef s.L).o.map Ob.r')(l:s.L.all (λy=>[τ].all λt=>y.t.ne t)=true)(m:0<k)(e:x.n+k<=x.c)(F:∀ w',OwnS g w' τ false 49 5 x xs->(∀ B T,τ∈T->Cg B T g w g w')->w'.heap.size=w.heap.size->GG prog fn R B T (nxt s f (.tuple #[]) s.L).s g w'):GG prog fn R B T s g w:=by
 refine Jy f s.L p (Bz d) λz J i o q=>?_;obtain⟨w',G,C,D,r⟩:=fe (P:=prog) (B:=w.heap.size) (T:=[τ]) 35 A 49 (.agg #[iv 0,iv 0,iv 0,iv 0,iv 0]) 5 underlying35 gM rfl (by decide) (λj E=>by rcases mj E with rfl|rfl|rfl|rfl|rfl<;>rfl) (N'.2 rfl) I h k c m e;have u:∀ B T,τ∈T->Cg B T g w g w':=λB T l=>(D.ret (B:=B)).mono λt H=>by rw[N'.1 H];exact l
 refine⟨.tuple #[],w',g,.inl ?_,z.ch (u _ [τ] (N'.2 rfl)) (λb h=>z.new b (by rw[r]at h;exact h)) l,F w' C u r⟩;rw[CQ d q,Sem.run_bind,G,Result.andThen_ok];rfl
end
end
theorem sz1{W:World}:(Go.sizeOf (prog.elem 84)).run prog W=.ok 1 W:=by kernel_rfl
theorem unL:prog.underlying 84=some (.slice (prog.elem 84)):=by kernel_rfl
section
variable{fn:Func}{R:Ending->World->Prop}{B:Nat}{T:List Tg}{g:Gh}{w W:World}
section
theorem gc(b n c l h m:Nat)(a:l<=h)(d:h<=m)(e:m<=c)(f:l<m):(Instr.sliceAt 84 (.slice (some ⟨b,0,none⟩) n c) (some (iv (l:Int))) (some (iv (h:Int))) (some (iv (m:Int)))).run prog W=.ok (.slice (some ⟨b,l*1,none⟩) (h-l) (m-l)) W:=by
 rw[run_sliceAt_slice _ _ _ _ _ _ unL,run_slice_lhm (P:=prog) (w:=W) _ _ _ _ unL .i64 .i64 .i64 l h m (by omega) (by omega) (by omega) (by omega),sz1];simp[Result.andThen,sliced,Jq];omega
theorem gb(b n c l h:Nat)(a:l<=h)(d:h<=c)(e:l<c):(Instr.sliceAt 84 (.slice (some ⟨b,0,none⟩) n c) (some (iv (l:Int))) (some (iv (h:Int))) none).run prog W=.ok (.slice (some ⟨b,l*1,none⟩) (h-l) (c-l)) W:=by
 rw[run_sliceAt_slice _ _ _ _ _ _ unL,run_slice_lh (P:=prog) (w:=W) _ _ _ _ unL .i64 .i64 l h (by omega) (by omega) (by omega),sz1];simp[Result.andThen,sliced,Jq];omega
theorem ge(b n c h:Nat)(a:h<=c):(Instr.sliceAt 84 (.slice (some ⟨b,0,none⟩) n c) none (some (iv (h:Int))) none).run prog W=.ok (.slice (some ⟨b,0,none⟩) h c) W:=by
 rw[run_sliceAt_slice _ _ _ _ _ _ unL,run_slice_h (P:=prog) (w:=W) _ _ _ _ unL .i64 h (by omega) (by omega),sz1];simp[Result.andThen,sliced,Jq]
theorem gf(b n c l:Nat)(a:l<=n):(Instr.sliceAt 84 (.slice (some ⟨b,0,none⟩) n c) (some (iv (l:Int))) none none).run prog W=.ok (.slice (some ⟨b,if c=l then 0 else l*1,none⟩) (n-l) (c-l)) W:=by
 rw[run_sliceAt_slice _ _ _ _ _ _ unL,run_slice_l (P:=prog) (w:=W) _ _ _ _ unL .i64 l (by omega) (by omega),sz1];simp[Result.andThen,sliced,Jq];split<;>simp
variable{s:Xs}{x:S3}{xs:List Value}{τ:Tg}
theorem dh(p:Nat)(H:TypeId)(a:Addr)(m c:Nat)(d:List Value)(U:OwnS g w τ false 159 1 x xs)(f:CP s p=some (Builtin.append_ #[84,84] H #[x.v,.slice (some a) m c]>>=λv=>pure (.value v)))(z:(nxt s p undef s.L).o.map Ob.l'=(nxt s p undef s.L).o.map Ob.r')(r:s.L.all (λy=>[τ].all λt=>y.t.ne t)=true)(O:0<x.c)(N:d.length=m*1)(I:∀ u∈d,u.oneCell'=true)(h:∀ j u,d[j]?=some u->w.cell? (a.add j)=some u)(k:x.n+m<=x.c)(M:∀ w',OwnS g w' τ false 159 1 ⟨x.a,x.n+m,x.c⟩ (xs++d)->(∀ B T,τ∈T->Cg B T g w g w')->w'.heap.size=w.heap.size->GG prog fn R B T (nxt s p (S3.v ⟨x.a,x.n+m,x.c⟩) s.L).s g w'):GG prog fn R B T s g w:=by
 refine Jy p s.L z (Bz f) λF V i o A=>?_;obtain⟨e,K,l⟩:∃ e,prog.info? 159=some e/\e.size=1:=by
  have q:(prog.info? 159).map (·.size)=some 1:=by kernel_rfl
  cases hh:prog.info? 159 with
  | none=>rw[hh]at q;cases q
  | some v=>rw[hh]at q;exact⟨v,rfl,by simpa using q⟩
 obtain⟨w',Q,C,J,D⟩:=eX (P:=prog) (B:=w.heap.size) (T:=[τ]) 84 H 159 e underlying84 K (N'.2 rfl) (by rw[l];exact U) a m c d O (by rw[l];exact N) h I k;rw[l]at C
 have E:∀ B T,τ∈T->Cg B T g w g w':=λB T r=>(J.ret (B:=B)).mono λt S=>by rw[N'.1 S];exact r
 refine⟨S3.v ⟨x.a,x.n+m,x.c⟩,w',g,.inl ?_,F.ch (E _ [τ] (N'.2 rfl)) (λb G=>F.new b (by rw[D]at G;exact G)) r,M w' C E D⟩;rw[CQ f A,Sem.run_bind,Q,Result.andThen_ok];rfl
theorem eK(w:World):(zeroValue 159).run prog w=.ok (.pointer none) w:=by kernel_rfl
theorem fs(f:Nat)(C:TypeId){b:Nat}(l:x.a=some ⟨b,0,none⟩)(k c:Nat)(J:OwnS g w τ false 159 1 x xs)(d:CP s f=some (Builtin.clear_ #[84] C #[.slice (some ⟨b,x.n*1,none⟩) k c]>>=λv=>pure (.value v)))(q:(nxt s f undef s.L).o.map Ob.l'=(nxt s f undef s.L).o.map Ob.r')(m:s.L.all (λy=>[τ].all λt=>y.t.ne t)=true)(p:0<k)(e:x.n+k<=x.c)(G:∀ w',OwnS g w' τ false 159 1 x xs->(∀ B T,τ∈T->Cg B T g w g w')->w'.heap.size=w.heap.size->GG prog fn R B T (nxt s f (.tuple #[]) s.L).s g w'):GG prog fn R B T s g w:=by
 refine Jy f s.L q (Bz d) λA K i o r=>?_;obtain⟨w',H,D,E,u⟩:=fe (P:=prog) (B:=w.heap.size) (T:=[τ]) 84 C 159 (.pointer none) 1 underlying84 eK rfl (by decide) (λj F=>match j,F with|0,_=>rfl|j+1,h=>absurd h (by omega)) (N'.2 rfl) J l k c p e;have z:∀ B T,τ∈T->Cg B T g w g w':=λB T m=>(E.ret (B:=B)).mono λt I=>by rw[N'.1 I];exact m
 refine⟨.tuple #[],w',g,.inl ?_,A.ch (z _ [τ] (N'.2 rfl)) (λb l=>A.new b (by rw[u]at l;exact l)) m,G w' D z u⟩;rw[CQ d r,Sem.run_bind,H,Result.andThen_ok];rfl
end
end
theorem O4{g:Gh}{w:World}{b n c:Nat}{l:List Nat}(o:OwnS g w (.n 51 0) false 159 1 ⟨some ⟨b,0,none⟩,n,c⟩ (l.map (pt · 0)))(J:∀ b,w.heap.size<=b->g.t b=.z/\g.k b=0)(j:Nat)(Y:j<l.length)(W:l.length<100000000) :
  Calls prog 74 #[.slice (some ⟨b,0,none⟩) n c,iv (j:Int),iv ((j+1:Nat):Int)] w λe w'=>∃ (x':S3) (g':Gh),e=.returned x'.v/\OwnS g' w' (.n 51 0) false 159 1 x' ((l.eraseIdx j).map (pt · 0))/\(∀ b,w'.heap.size<=b->g'.t b=.z/\g'.k b=0)/\Cg w.heap.size [.n 51 0] g w g' w':=by
 have Z:n=l.length:=by have:=o.len;simp at this;omega
 have X:n<=c:=by rcases o.ex with⟨h,_⟩|⟨_,_,_,_,h,_⟩;cases h;exact h
 refine gI (fn:=f74) [.n 51 0] g func74 J (qR [] 11 [] λs1 R w1 c1=>qV 5 (.slice (some ⟨b,j*1,none⟩) (j+1-j) (n-j)) (gc b n c j (j+1) n (by omega) (by omega) (by omega) (by omega)) (qR [] 8 [] λs2 S w2 y=>qI (((j:Int)==((j+1:Nat):Int))) false (by simp;omega) (qR [] 11 [8,0,2] λs3 T w3 A=>qT 2 (.slice (some ⟨b,0,none⟩) j c) (λ_=>(ge b n c j (by omega))) (qR [] 2 [6,8] λs4 U w4 B=>qT 5 (.slice (some ⟨b,if c=j+1 then 0 else(j+1)*1,none⟩) (n-(j+1)) (c-(j+1))) (λ_=>(gf b n c (j+1) (by omega))) ?_))));have d:=o.ch (((c1.trans y).trans A).trans B) (by simp) (by simp);have p:=d.nt (k:=j) (by show j<=n;omega) (by show 0<n;omega);refine dh 6 (x:=⟨some ⟨b,0,none⟩,j,c⟩) 84 ⟨b,if c=j+1 then 0 else(j+1)*1,none⟩ (n-(j+1)) (c-(j+1)) ((l.drop (j+1)).map (pt · 0)) p (by kernel_rfl) (by kernel_rfl) (by kernel_rfl) (by show 0<c;omega) (by simp;omega) (by intro u L;obtain⟨q,_,rfl⟩:=i7.1 L;rfl) (λq u r=>?_) (by show j+(n-(j+1))<=c;omega) ?_
 .have hlt:j+1<l.length:=by have h:=(O'.1 r).1;simp at h;omega
  rw[if_neg (by omega),Jq];rw[List.map_drop,jj]at r
  obtain⟨Q,D,_,I⟩:=d.cell r;simp only[V',Addr.mk.injEq,and_true]at D;subst D;rw[show(j+1)*1+q=j+1+q by omega];exact I
 intro w6 s i M;have F:=i w.heap.size [.n 51 0] (N'.2 rfl);rw[show(l.map (pt · 0)).take (j*1)++(l.drop (j+1)).map (pt · 0)=(l.eraseIdx j).map (pt · 0)from by rw[Nat.mul_one,<- lx,<- iL,kM]]at s
 refine qR [] 8 [14] λs7 V w7 C=>qV 4 (.slice (some ⟨b,(j+(n-(j+1)))*1,none⟩) (n-(j+(n-(j+1)))) (c-(j+(n-(j+1))))) (gb b (j+(n-(j+1))) c (j+(n-(j+1))) n (by omega) (by omega) (by omega)) (fs 5 (x:=⟨some ⟨b,0,none⟩,(j+(n-(j+1))),c⟩) (b:=b) 0 rfl (n-(j+(n-(j+1)))) (c-(j+(n-(j+1)))) (s.ch C) (by kernel_rfl) (by kernel_rfl) (by kernel_rfl) (by omega) (by show(j+(n-(j+1)))+(n-(j+(n-(j+1))))<=c;omega) ?_);intro w9 E m N;have G:=m w.heap.size [.n 51 0] (N'.2 rfl);refine qR [] 6 [] λO H P a=>qE (S3.v ⟨some ⟨b,0,none⟩,(j+(n-(j+1))),c⟩) λK=>⟨_,_,rfl,(E.ch a),K.new,((((((((c1.nil [.n 51 0]).n y).n A).n B).trans F).n C).trans G).n a)⟩
end
section
section
variable{M:Meet}{i k m n:Nat}{p:Nod}
theorem NOk.mono(h:NOk n p)(a:n<=m):NOk m p:={ h with wa:=iy h.wa a }
theorem NOk.zero(n:Nat):NOk n CV:=⟨iR _,A' _,iR _,iR _,λc h=>(by cases h),⟨mc _,by decide⟩,AL.b0,Bu.nil,λ_=>Bu.nil,λq h=>(by cases h)⟩
theorem NOk.bare(n:Nat)(p:Nod)(i:Bool)(d:List Int)(g:Int){a:Acc}(b:AL a.p)(e:Bu a.vs)(l:List Pend)(f:∀ q∈l,POk 0 q):NOk n (p.bare i d g a l):=⟨iR _,A' _,iR _,iR _,λc h=>(by cases h),⟨mc _,by show(0:Int)<=65536;decide⟩,b,e,λ_=>Bu.nil,f⟩
theorem NOk.mg(h:NOk n p)(k:Int):NOk n (p.mg k)/\At (p.mg k).bt<=At p.bt/\(p.mg k).an.length<=p.an.length/\(p.mg k).bad=p.bad:=by
 unfold Nod.mg;split
 .exact⟨h,A' _,A' _,rfl⟩
 .exact⟨NOk.bare n p _ _ _ AL.b0 Bu.nil [] (λq a=>(by cases a)),iR _,iR _,rfl⟩
theorem NOk.start(h:NOk n p):NOk n p.start/\At p.start.bt<=At p.bt+4/\p.start.an.length<=p.an.length/\p.start.bad=p.bad:=by
 have b:=al p.d p.sy;have a:∀ q∈[Pend.start],POk 0 q:=λq a=>by rw[N'.1 a];trivial
 unfold Nod.start;split
 .exact⟨h,lS _ _,A' _,rfl⟩
 .split
  .exact⟨NOk.bare n p _ _ _ b.1 b.2 _ a,by show 4<=_;omega,iR _,rfl⟩
  .exact⟨NOk.bare n p _ _ _ b.1 b.2 _ a,by show 4<=_;omega,iR _,rfl⟩
theorem EX(p:Nod)(b:Bal):(p.bn b).1.an=p.an/\(p.bn b).1.bad=p.bad/\(p.bn b).1.cl=p.cl/\(p.bn b).1.done=p.done/\(p.bn b).1.dT=p.dT:=by
 unfold Nod.bn;split
 .exact⟨rfl,rfl,rfl,rfl,rfl⟩
 .split
  .exact⟨rfl,rfl,rfl,rfl,rfl⟩
  .split<;>exact⟨rfl,rfl,rfl,rfl,rfl⟩
theorem NOk.lead(h:NOk n p)(i:Nat):NOk n (p.lead i)/\At (p.lead i).bt<=At p.bt+4/\(p.lead i).an=p.an/\(p.lead i).bad=p.bad:=by
 unfold Nod.lead;simp only;split
 .exact⟨h,lS _ _,rfl,rfl⟩
 .have hp:=h.bn ⟨max p.dT p.vo.p.r+1,(i:Int)⟩;have a:=EX p ⟨max p.dT p.vo.p.r+1,(i:Int)⟩;have b:NOk n { (p.bn ⟨max p.dT p.vo.p.r+1,(i:Int)⟩).1 with bw:=⟨⟨max p.dT p.vo.p.r+1,(i:Int)⟩,λ_=>false,λ_=>Ei,λ_=>p.ae.length,0,[]⟩ }:={ hp.1 with qu:=iR _,he:=λ_=>Bu.nil };refine⟨b.wait hp.2.2.2.1,?_,a.1,a.2.1⟩;show At ((p.bn _).1.bt++[_])<=_;rw[EW,hp.2.1];exact A' _
theorem NOk.want(h:NOk n p)(c:Cmd):NOk (n+1) (p.want c)/\(p.want c).an.length<=p.an.length+1/\(p.want c).bt=p.bt/\(p.want c).bad=p.bad:=by
 unfold Nod.want;split
 .exact⟨h.mono (jr _),jr _,rfl,rfl⟩
 .refine⟨{ h with wa:=?_,ask:=λd a=>?_ },by simp,rfl,rfl⟩
  .have:=h.wa;simp;omega
  .unfold Et at a;simp only at a ⊢;split at a
   .rename_i e;exact P'.2 (.inr (N'.2 e))
   .exact P'.2 (.inl (h.ask d a))
theorem NOk.mL(h:NOk n p)(i:Nat)(e:Int)(c:Cmd)(a:List Tol):NOk (n+1) (p.mF i e c a).1/\(p.mF i e c a).1.bt=p.bt/\(p.mF i e c a).2.length+(p.mF i e c a).1.an.length<=a.length+p.an.length+1/\(p.mF i e c a).1.bad<=p.bad+1:=by
 have b:=h.mono (jr n);unfold Nod.mF;split
 .exact⟨b,rfl,jr _,jr _⟩
 .split
  .exact⟨{ b with },rfl,jr _,A' _⟩
  .split
   .exact⟨b,rfl,by simp;omega,jr _⟩
   .have:=h.want c;exact⟨this.1,this.2.2.1,by have:=this.2.1;simp only;omega,by rw[this.2.2.2];exact jr _⟩
theorem MT(p:Nod)(v:Vt):(p.cn v).1.an=p.an/\(p.cn v).1.bad=p.bad:=by
 unfold Nod.cn;split
 .exact⟨rfl,rfl⟩
 .split
  .exact⟨rfl,rfl⟩
  .split<;>exact⟨rfl,rfl⟩
theorem Jf(p:Nod)(a:Nat)(e:Int):(p.ln a e).an=p.an/\(p.ln a e).bad=p.bad:=by unfold Nod.ln;split<;>exact⟨rfl,rfl⟩
theorem EL(p:Nod)(j:Nat)(v:Vt):(p.count j v).an=p.an/\(p.count j v).bad=p.bad/\(p.count j v).bt=p.bt:=by
 unfold Nod.count;split
 .exact⟨rfl,rfl,rfl⟩
 .split<;>exact⟨rfl,rfl,rfl⟩
theorem EM(p:Nod)(l:List Cmd):(p.gC l).an=p.an/\(p.gC l).bad=p.bad:=by unfold Nod.gC;split<;>exact⟨rfl,rfl⟩
theorem UC(p:Nod)(l:Let):(p.take l).an=p.an/\(p.take l).bad=p.bad:=by
 unfold Nod.take;split
 .split
  .exact Jf _ _ _
  .exact⟨(EX p l.lr).1,(EX p l.lr).2.1⟩
 .simp only;split<;>exact⟨rfl,rfl⟩
 .exact⟨rfl,rfl⟩
 .split
  .exact Jf _ _ _
  .exact MT p l.cn
 .exact⟨(EL p _ _).1,(EL p _ _).2.1⟩
 .split<;>exact⟨rfl,rfl⟩
 .simp only;split
  .exact EM p l.fa
  .exact EM p l.fa
 .exact⟨rfl,rfl⟩
theorem Uu(p:Nod)(i:Nat)(q:Pend):(p.mm i q).an=p.an/\(p.mm i q).bad=p.bad:=by
 cases q with
 | began b vs=>unfold Nod.mm;simp only;split<;>exact⟨rfl,rfl⟩
 | prop v=>exact⟨(EL p i v).1,(EL p i v).2.1⟩
 | _=>exact⟨rfl,rfl⟩
theorem Qx(i:Nat)(l:List Pend)(p:Nod)(a:List Let):(mi i l p a).1.an=p.an/\(mi i l p a).1.bad=p.bad:=by
 induction l generalizing p a with
 | nil=>exact⟨rfl,rfl⟩
 | cons q l ih =>
  have b:=ih (p.mm i q) (a++p.mx i q);have c:=Uu p i q;exact⟨b.1.trans c.1,b.2.trans c.2⟩
theorem YO(i:Nat)(l:List Cmd)(p:Nod)(a:List Tol):(mH i l p a).1.bad=p.bad:=by
 induction l generalizing p a with
 | nil=>rfl
 | cons c l ih =>
  rw[mH];split
  .rfl
  .rw[ih];unfold Nod.lp;split<;>rfl
theorem R1(p:Nod)(i:Nat)(a:List Let)(b:List Tol):(p.piece i a b).1.an=(mH i (p.ae.drop p.done) p b).1.an/\(p.piece i a b).1.bad=p.bad:=by
 have c:∀ q:Nod,(q.mo i).1.an=q.an/\(q.mo i).1.bad=q.bad:=by
  intro q;unfold Nod.mo;split
  .exact⟨rfl,rfl⟩
  .split
   .exact EM _ _
   .exact⟨rfl,rfl⟩
 have d:∀ q:Nod,q.fv.an=q.an/\q.fv.bad=q.bad:=by
  intro q;unfold Nod.fv;split
  .exact⟨rfl,rfl⟩
  .split
   .exact⟨rfl,rfl⟩
   .split
    .exact⟨rfl,rfl⟩
    .exact MT q _
 have e:∀ (q:Nod) (a:List Let),(q.mn i a).1.an=q.an/\(q.mn i a).1.bad=q.bad:=by
  intro q a;unfold Nod.mn;split
  .exact⟨rfl,rfl⟩
  .have:=Qx i q.bt { q.mJ with bt:=[] } a;have g:q.mJ.an=q.an/\q.mJ.bad=q.bad:=by unfold Nod.mJ;split<;>exact⟨rfl,rfl⟩
   exact⟨this.1.trans g.1,this.2.trans g.2⟩
 have f:∀ (q:Nod) (a:List Let),(q.cF i a).1.an=q.an/\(q.cF i a).1.bad=q.bad:=by
  intro q a;unfold Nod.cF;split<;>exact⟨rfl,rfl⟩
 have h:=YO i (p.ae.drop p.done) p b;unfold Nod.piece;simp only;rw[(f _ _).1,(e _ _).1,(d _).1,(c _).1,(f _ _).2,(e _ _).2,(d _).2,(c _).2];exact⟨rfl,h⟩
def pw(M:Meet):Nat:=At (M.af 0).bt+At (M.af 1).bt+At (M.af 2).bt+At (M.af 3).bt+At (M.af 4).bt
def ww(M:Meet):Nat:=(M.af 0).an.length+(M.af 1).an.length+(M.af 2).an.length+(M.af 3).an.length+(M.af 4).an.length
theorem Xq(M:Meet)(a:i<5)(p:Nod)(b:List Let)(c:List Tol):pw (M.set i p b c)+At (M.af i).bt=pw M+At p.bt:=by
 unfold pw Meet.set;rcases mj a with rfl|rfl|rfl|rfl|rfl<;>simp[upN]<;>omega
theorem Yx(M:Meet)(a:i<5)(p:Nod)(b:List Let)(c:List Tol):ww (M.set i p b c)+(M.af i).an.length=ww M+p.an.length:=by
 unfold ww Meet.set;rcases mj a with rfl|rfl|rfl|rfl|rfl<;>simp[upN]<;>omega
theorem Ps(M:Meet)(a:i<5):At (M.af i).bt<=pw M:=by
 unfold pw;rcases mj a with rfl|rfl|rfl|rfl|rfl<;>omega
theorem gD(M:Meet)(a:i<5):(M.af i).an.length<=ww M:=by
 unfold ww;rcases mj a with rfl|rfl|rfl|rfl|rfl<;>omega
structure MOk(n:Nat)(M:Meet):Prop where
 af:∀ i,i<5->NOk n (M.af i)
 bN:∀ l∈M.bN,LOk l
 wt:M.bN.length+pw M<=10*n
 ed:M.ed.length+ww M<=n
 bad:∀ i,i<5->(M.af i).bad<=n
theorem MOk.zero:MOk 0 CJ:=⟨λ_ _=>NOk.zero 0,λl h=>(by cases h),A' _,A' _,λ_ _=>A' _⟩
theorem MOk.mono(h:MOk n M)(b:n<=m):MOk m M:=⟨λi a=>(h.af i a).mono b,h.bN,by have:=h.wt;omega,by have:=h.ed;omega,λi a=>iy (h.bad i a) b⟩
theorem MOk.set(h:MOk n M)(c:i<5){a:List Let}{b:List Tol}(e:NOk (n+1) p)(f:∀ l∈a,LOk l)(m:a.length+At p.bt<=M.bN.length+At (M.af i).bt+10)(o:b.length+p.an.length<=M.ed.length+(M.af i).an.length+1)(q:p.bad<=(M.af i).bad+1):MOk (n+1) (M.set i p a b):=by
 have g:=Xq M c p a b;have k:=Yx M c p a b;have:=h.wt;have:=h.ed;refine⟨λj d=>?_,f,by show a.length+_<=_;omega,by show b.length+_<=_;omega,λj d=>?_⟩
 .show NOk (n+1) (upN M.af i p j);unfold upN;split
  .exact e
  .exact(h.af j d).mono (jr _)
 .show(upN M.af i p j).bad<=n+1;unfold upN;split
  .have:=h.bad i c;omega
  .have:=h.bad j d;omega
structure COk(n k:Nat)(M:Meet):Prop where
 af:∀ i,i<5->NOk n (M.af i)
 wt:k+M.bN.length+pw M<=10*n
 ed:M.ed.length+ww M<=n
 bad:∀ i,i<5->(M.af i).bad<=n
 bN:∀ l∈M.bN,LOk l
theorem COk.mq(h:COk n (k+1) M){l:Let}(a:LOk l):COk n k (M.mq l)/\(M.mq l).bN=M.bN:=by
 have i:=h.wt;unfold Meet.mq;split
 .have ht:=(h.af l.dst a.dst).take a;have c:=UC (M.af l.dst) l;have e:=Xq M a.dst ((M.af l.dst).take l) M.bN M.ed;have d:=Yx M a.dst ((M.af l.dst).take l) M.bN M.ed;have f:pw (M.put l.dst ((M.af l.dst).take l))=pw (M.set l.dst ((M.af l.dst).take l) M.bN M.ed):=rfl;have g:ww (M.put l.dst ((M.af l.dst).take l))=ww (M.set l.dst ((M.af l.dst).take l) M.bN M.ed):=rfl;have:=h.ed;rw[c.1]at d
  refine⟨⟨λj b=>?_,by show k+M.bN.length+_<=_;have:=ht.2.1;omega,by show M.ed.length+_<=_;omega,λj b=>?_,h.bN⟩,rfl⟩
  .show NOk n (upN M.af l.dst _ j);unfold upN;split
   .exact ht.1
   .exact h.af j b
  .show(upN M.af l.dst _ j).bad<=n;unfold upN;split
   .rw[c.2];exact h.bad _ a.dst
   .exact h.bad j b
 .exact⟨⟨h.af,by omega,h.ed,h.bad,h.bN⟩,rfl⟩
theorem COk.all(a:List Let)(h:COk n a.length M)(b:∀ l∈a,LOk l):COk n 0 (a.foldl (λM l=>M.mq l) M):=by
 induction a generalizing M with
 | nil=>exact h
 | cons l a ih=>exact ih ((h.mq (b l U')).1) λm c=>b m (Q' _ c)
theorem COk.ok(h:COk n k M):MOk n M:=⟨h.af,h.bN,by have:=h.wt;omega,h.ed,h.bad⟩
theorem MOk.my(h:MOk n M):MOk n M.my :=
 (COk.all M.bN (M:={ M with bN:=[] }) ⟨h.af,by show M.bN.length+0+pw M<=_;exact h.wt,h.ed,h.bad,λl a=>(by cases a)⟩ h.bN).ok
theorem MOk.move(h:MOk n M)(k:Int)(a:Nat):MOk (n+1) (M.move k a):=by
 have i:=h.wt;have b:=h.mono (jr n);unfold Meet.move;split
 .exact b
 .rename_i l hl
  have c:LOk l:=h.bN l (iN hl);have f:∀ m∈M.bN.eraseIdx (a%M.bN.length),LOk m:=λm g=>h.bN m (List.mem_of_mem_eraseIdx g);have e:(M.bN.eraseIdx (a%M.bN.length)).length<=M.bN.length:=List.length_eraseIdx_le _ _;have d:COk (n+1) 1 (if k≠6 then{ M with bN:=M.bN.eraseIdx (a%M.bN.length) }else M):=by
   split
   .exact⟨b.af,by show 1+(M.bN.eraseIdx _).length+pw M<=_;omega,b.ed,b.bad,f⟩
   .exact⟨b.af,by omega,b.ed,b.bad,h.bN⟩
  simp only;split
  .exact(d.mq c).1.ok
  .exact d.ok
theorem MOk.act(h:MOk n M)(i:n<=1000000){x:Lac}(g:LacOk x):MOk (n+1) (M.act x):=by
 have a:x.n.toNat<5:=by
  cases hu:FL x.k with
  | true=>have:=g.n hu;omega
  | false=>have:=g.n0 hu;omega
 have e:=h.af _ a;have c:=e.mono (jr n);unfold Meet.act;simp only;split
 .have hs:=e.mL x.n.toNat (opE x.d ((M.af x.n.toNat).done:Int)) (LN x.d ((M.af x.n.toNat).done:Int)) M.ed;exact h.set a hs.1 h.bN (by unfold Nod.mL;rw[hs.2.1];omega) (by unfold Nod.mL;omega) (by unfold Nod.mL;omega)
 .split
  .split
   .have hl:=c.lead x.n.toNat;exact h.set a hl.1 h.bN (by omega) (by rw[hl.2.2.1];omega) (by rw[hl.2.2.2];omega)
   .exact h.set a c h.bN (by omega) (by omega) (by omega)
  .split
   .by_cases hu:(M.af x.n.toNat).up=true
    .rw[if_pos hu,if_pos hu,if_pos hu];have b:=c.piece a (ls:=M.bN) (ts:=M.ed) (by have:=Ps M a;have:=h.wt;omega) h.bN;have f:=R1 (M.af x.n.toNat) x.n.toNat M.bN M.ed;exact h.set a b.1 b.2.1 b.2.2.1 (by rw[f.1];have:=b.2.2.2;omega) (by rw[f.2];omega)
    .rw[if_neg hu,if_neg hu,if_neg hu];exact h.set a c h.bN (by omega) (by omega) (by omega)
   .split
    .exact h.move _ _
    .split
     .exact h.my.mono (jr _)
     .split
      .split
       .have hc:=c.mg x.p;exact h.set a hc.1 h.bN (by omega) (by omega) (by rw[hc.2.2.2];omega)
       .exact h.set a c h.bN (by omega) (by omega) (by omega)
      .split
       .split
        .exact h.set a c h.bN (by omega) (by omega) (by omega)
        .have hc:=c.start;exact h.set a hc.1 h.bN (by omega) (by omega) (by rw[hc.2.2.2];omega)
       .exact h.mono (jr _)
end
end
section
open Go.RowKit
section
variable{M:Meet}{W w w0:World}{b j mb n ob tb:Nat}{g:Gh}{l:List Let}{nb:Nat->Nat}{x:S3}
theorem ga{P:Program}{x y:Operand}(a b:Nat)(h:P.underlying 3=some (.int .i64))(f:a<9223372036854775808)(g:0<b)(e:b<9223372036854775808):(do Go.eqGuard .rem 3 x y (iv (a:Int)) (iv (b:Int));Go.binOp .rem 3 (iv (a:Int)) (iv (b:Int)):Sem Value).run P W=.ok (iv ((a%b:Nat):Int)) W:=by
 have d:Int.tmod (a:Int) (b:Int)=((a%b:Nat):Int):=rfl;have c:¬ b=0:=by omega
 simp only[Go.eqGuard,go_sem,Op.intDiv];simp[c,d]
theorem bS{c:Nat}(j:Nat)(a:j<n):(Instr.indexAt 84 (.slice (some ⟨b,0,none⟩) n c) (iv (j:Int))).run prog W=.ok (pt b j) W :=
 KT (P:=prog) (e:=159) (z:=1) underlying84 (by kernel_rfl) (by kernel_rfl) a _ (by omega)
theorem dQ(d:x.a=some ⟨b,0,none⟩)(j:Nat)(c:j<x.n):(Instr.indexAt 84 x.v (iv (j:Int))).run prog W=.ok (pt b j) W:=by
 unfold S3.v;rw[d];exact bS j c
theorem FzL.cell{e:List Value}(h:FzL g w x e)(i:x.a=some ⟨b,0,none⟩){u:Value}(k:e[j]?=some u):w.cell? ⟨b,j,none⟩=some u:=by
 obtain⟨c,d,_,_,f⟩:=h.at_ j u k;rw[i]at d
 simp only[V',Addr.mk.injEq,and_true]at d;subst d;exact f
theorem MS.outs{a:Gh}{b:World}{B:Nat}(h:MS mb tb ob nb g w M)(c:Cg B [.n 50 0,.n 51 0] g w a b){lt e:S3}{d:List Let}(k:OutAt a b ob lt e d M.ed)(j:Il a b):MS mb tb ob nb a b { M with bN:=d } :=
 ⟨h.box.ch c,h.tk.ch c,λi f=>let ⟨x,hx⟩:=h.af i f;⟨x,hx.ch c (by simp) (λr l=>by simp;omega)⟩,⟨lt,e,k⟩,j⟩
theorem Lets.erase{d:List Nat}(h:Lets g w d l)(j:Nat):Lets g w (d.eraseIdx j) (l.eraseIdx j):=by
 refine⟨by rw[List.length_eraseIdx,List.length_eraseIdx,h.len],λk b m c a=>?_⟩;rw[List.getElem?_eraseIdx]at c a
 split at c
 .rename_i hk;rw[if_pos hk]at a;exact h.at_ _ _ _ c a
 .rename_i hk;rw[if_neg hk]at a;exact h.at_ _ _ _ c a
theorem VI{c:Let}(h:l[j]?=some c):l.drop j=c::l.drop (j+1):=by
 obtain⟨a,b⟩:=O'.1 h;rw[<- b];exact jc a
theorem WS(k:Int)(a:Nat)(h:M.bN.length=0):M.move k a=M:=by
 unfold Meet.move;rw[Z' h];rfl
theorem ZE{k:Int}{a:Nat}{l:Let}(h:M.bN[a%M.bN.length]?=some l):M.move k a=(if k≠5 then(if k≠6 then{ M with bN:=M.bN.eraseIdx (a%M.bN.length) }else M).mq l else if k≠6 then{ M with bN:=M.bN.eraseIdx (a%M.bN.length) }else M):=by
 unfold Meet.move;rw[h]
theorem KC(h:MS mb tb ob nb g w M)(hB:Base w0 g w)(hT:Tabs w0)(k:Int)(a:Nat)(ha:a<=1048576)(hm:MOk n M)(hn:n<=1000000) :
  Calls prog 33 #[pt mb 0,iv k,iv (a:Int)] w (MP mb tb ob nb g w (.tuple #[]) (M.move k a)):=by
 obtain⟨lt,tl,hO⟩:=h.out;obtain⟨bs,hL,o⟩:=hO.bN;have X:lt.n=M.bN.length:=by have:=hL.len;have:=o.len;simp at *;omega
 have b7:=hm.wt;refine gI (fn:=f33) TM g func33 h.new (BJ ⟨mb,_,.z,false⟩ (λ_=>⟨h.box.r,h.box.z,λh=>(by cases h),λh=>absurd rfl h⟩) (by kernel_rfl) ?_);refine qO hO (qR [] 18 [0,1] λs1 g1 w1 c1=>?_);by_cases h1:lt.n=0
 .refine qI (((lt.n:Int)==0)) true (by simp;omega) (qE (.tuple #[]) λK=>?_);rw[WS k a (by omega)];exact⟨_,rfl,(h.mr c1 K.new),(c1.nil TM)⟩
 .refine qI (((lt.n:Int)==0)) false (by simp;omega) ?_;obtain⟨j,hj⟩:∃ j,j=a%M.bN.length:=⟨_,rfl⟩;have H:j<M.bN.length:=by rw[hj];exact Nat.mod_lt _ (by omega)
  obtain⟨l,hl⟩:∃ l,M.bN[j]?=some l:=⟨_,E' H⟩;obtain⟨I,V⟩:∃ I,bs[j]?=some I:=⟨_,E' (by rw[o.len];exact H)⟩;have q:=hm.bN l (iN hl);have U:=o.at_ j I l V hl;obtain⟨b,hb,a7,a6⟩:=hL.cell (j:=j) (u:=pt I 0) (by rw[iV,V];rfl);rw[ZE (hj▸hl)];rw[<- hj];obtain⟨la,lq,lc⟩:=lt;simp only at hb X;subst hb;refine qR [] 5 [] λs3 g3 w3 i=>?_;have a8 {x y:Operand}:∀ {W:World},(do Go.eqGuard .rem 3 x y (iv (a:Int)) (iv (lq:Int));Go.binOp .rem 3 (iv (a:Int)) (iv (lq:Int)):Sem Value).run prog W=.ok (iv (j:Int)) W:=λ{W}=>by rw[hj,<- X];exact ga a lq underlying3 (by omega) (by omega) (by omega)
  refine qV 2 (iv (j:Int)) (a8 (x:=(.tmp 19)) (y:=(.tmp 20))) (qR [] 12 [0,1] λs4 g4 w4 m=>qV 8 (pt b j) (bS (b:=b) (n:=lq) (c:=lc) j (by omega)) (qV 9 (pt I 0) (Ci underlying159 rfl ((Below.cell (Cg.ab ((c1.trans i).trans m) (λ_ _=>M')) (p:=⟨b,j,none⟩) a7).trans a6)) (qR [] 8 [] λs6 g6 w6 s=>?_)));by_cases Z:k≠6
  .refine qI ((k != 6)) true (by simpa using Z) ?_;have G:k≠6:=by simpa using Z
   rw[if_pos G];refine qR [] 14 [17,0,2,4,6,0,8,10,12,14,0,16,18,20,1,22,24] λs7 g7 w7 J=>qT 13 (iv ((j+1:Nat):Int)) (λ_=>(AD 46 (j:Int) underlying3 (by omega))) (Ae λK=>qG 14 [.n 51 0] [true,true] (O4 (hL.ch ((((c1.trans i).trans m).trans s).trans J) (by simp) (by simp)) K.new j (by rw[o.len];exact H) (by rw[o.len];omega)) ?_);rintro e' w9 ⟨y9,g9,rfl,a9,n9,F⟩;refine⟨_,g9,rfl,F,n9,?_⟩;replace F:=F.ret (B:=w.heap.size);refine qR [.n 50 0] 9 [30,32,35,1,1] λb8 T Y d=>Ae λK=>?_;have C9:Cg w.heap.size [.n 50 0,.n 51 0] g w T Y:=(((((((c1.nil [.n 50 0,.n 51 0]).n i).n m).n s).n J).trans (F.mono (by simp))).trans (d.mono (by simp)));obtain⟨o1,o2,o3⟩:=K.mN 1 ob (.cells #[S3.v y9,S3.v tl] 86) 50 0 (by kernel_rfl);have O:MS mb tb ob nb T Y { M with bN:=M.bN.eraseIdx j }:=h.outs C9 ⟨o1,o2,o3,⟨bs.eraseIdx j,(a9.ch d),(o.erase j).ch C9⟩,hO.ed.ch C9⟩ K.new;by_cases E:k≠5
   .refine qI ((k != 5)) true (by simpa using E) ?_;rw[if_pos (show k≠5 from by simpa using E)];refine qR [] 3 [] λb9 a2 b0 t=>Ae λK=>?_;have a0:MS mb tb ob nb a2 b0 ({ M with bN:=M.bN.eraseIdx j }):=(O.mr t K.new);refine qG 2 TM [true,false] (Ki a0 (hB.ch ((((((((c1.nil TM).n i).n m).n s).n J).trans (F.mono (by simp[TM,TN]))).trans (d.mono (by simp[TM,TN]))).n t) EE) hT I l (U.ch ((((((((c1.nil TM).n i).n m).n s).n J).trans (F.mono (by simp[TM,TN]))).trans (d.mono (by simp[TM,TN]))).n t) EE) q (hm.af l.dst q.dst) (by have:=D5 (M.af l.dst).bt;have:=Ps M q.dst;show(M.af l.dst).bt.length<_;omega)) ?_;rintro e' d2 ⟨a3,rfl,L,A⟩;refine⟨_,a3,rfl,A,L.new,?_⟩;replace A:=A.ret (B:=w.heap.size);refine qR [] 1 [] λc0 b2 d3 P=>qE (.tuple #[]) λK=>⟨_,rfl,(L.mr P K.new),((((((((((c1.nil TM).n i).n m).n s).n J).trans (F.mono (by simp[TM,TN]))).trans (d.mono (by simp[TM,TN]))).n t).trans (A)).n P)⟩
   .refine qI ((k != 5)) false (by simpa using E) (qR [] 1 [] λc2 b3 d4 Q=>?_);rw[if_neg (show ¬ k≠5 from by simpa using E)];refine qE (.tuple #[]) λK=>⟨_,rfl,(O.mr Q K.new),((((((((c1.nil TM).n i).n m).n s).n J).trans (F.mono (by simp[TM,TN]))).trans (d.mono (by simp[TM,TN]))).n Q)⟩
  .refine qI ((k != 6)) false (by simpa using Z) ?_;have G:¬ k≠6:=by simpa using Z
   rw[if_neg G];refine qR [] 6 [] λc5 b4 d5 e=>?_;by_cases E:k≠5
   .refine qI ((k != 5)) true (by simpa using E) ?_;rw[if_pos (show k≠5 from by simpa using E)];refine qR [] 3 [] λc8 a4 b1 C=>Ae λK=>?_;have a1:MS mb tb ob nb a4 b1 M:=(h.mr (((((c1.trans i).trans m).trans s).trans e).trans C) K.new);refine qG 2 TM [true,false] (Ki a1 (hB.ch ((((((c1.nil TM).n i).n m).n s).n e).n C) EE) hT I l (U.ch ((((((c1.nil TM).n i).n m).n s).n e).n C) EE) q (hm.af l.dst q.dst) (by have:=D5 (M.af l.dst).bt;have:=Ps M q.dst;show(M.af l.dst).bt.length<_;omega)) ?_;rintro e' d6 ⟨a5,rfl,N,D⟩;refine⟨_,a5,rfl,D,N.new,?_⟩;replace D:=D.ret (B:=w.heap.size);refine qR [] 1 [] λd0 b5 d7 R=>qE (.tuple #[]) λK=>⟨_,rfl,(N.mr R K.new),((((((((c1.nil TM).n i).n m).n s).n e).n C).trans (D)).n R)⟩
   .refine qI ((k != 5)) false (by simpa using E) (qR [] 1 [] λd1 b6 d8 S=>?_);rw[if_neg (show ¬ k≠5 from by simpa using E)];refine qE (.tuple #[]) λK=>⟨_,rfl,(h.mr (((((c1.trans i).trans m).trans s).trans e).trans S) K.new),((((((c1.nil TM).n i).n m).n s).n e).n S)⟩
theorem O0(h:MS mb tb ob nb g w M)(hB:Base w0 g w)(hT:Tabs w0)(u:MOk n M)(hn:n<=1000000) :
  Calls prog 34 #[pt mb 0] w (MP mb tb ob nb g w (.tuple #[]) M.my):=by
 obtain⟨lt,tl,I⟩:=h.out;obtain⟨y,U,i⟩:=I.bN;have a1:lt.n=M.bN.length:=by have:=U.len;have:=i.len;simp at *;omega
 have P:=u.wt;refine gI (fn:=f34) TM g func34 h.new (BJ ⟨mb,_,.z,false⟩ (λ_=>⟨h.box.r,h.box.z,λh=>(by cases h),λh=>absurd rfl h⟩) (by kernel_rfl) ?_);refine qO I (gW U (by kernel_rfl) λgF X hF=>qR [.n 50 0] 28 [0,1,0,1,1] λs1 Y w1 c1=>Ae λG=>BD 28 [(0,pt mb 0),(18,S3.v lt),(19,iv (lt.n:Int)),(20,iv 0)] [true,false] [⟨mb,.cells (mtA nb ob tb) 92,.z,false⟩] (λk E F e L=>∃ (j:Nat) (A:Meet),k=M.bN.length-j/\j<=M.bN.length/\e=[(0,pt mb 0),(18,S3.v lt),(19,iv (lt.n:Int)),(20,iv (j:Int))]/\L=[⟨mb,.cells (mtA nb ob tb) 92,.z,false⟩]/\MS mb tb ob nb E F A/\(M.bN.drop j).foldl (λM l=>M.mq l) A=M.my/\COk n (M.bN.length-j) A/\FzL E F lt (y.map (pt · 0))/\Lets E F y M.bN/\Cg w.heap.size TM g w E F) (by kernel_rfl) (by kernel_rfl) (by kernel_rfl) (by kernel_rfl) M.bN.length (λK=>?_) ?_)
 .have C9:Cg w.heap.size [.n 50 0,.n 51 0] g w Y w1:=((X.mono (by simp)).trans (c1.mono (by simp)));obtain⟨o1,o2,o3⟩:=G.mN 1 ob (.cells #[S3.v s30,S3.v tl] 86) 50 0 (by kernel_rfl);exact⟨0,{ M with bN:=[] },rfl,iR _,rfl,rfl,h.outs C9 ⟨o1,o2,o3,⟨[],OwnS.nil _ _ _ _ _ _,⟨rfl,λk b m h=>(by cases h)⟩⟩,I.ed.ch C9⟩ K.new,rfl,⟨u.af,by show M.bN.length+0+pw M<=_;exact P,u.ed,u.bad,λl s=>(by cases s)⟩,(hF.fz.ch c1),i.ch C9,C9.mono (by simp[TM,TN])⟩
 .rintro k gr wr _ zr _ ⟨j,A,rfl,hj,rfl,rfl,hM,hI,hA,hFz,hLt,hC⟩ J hJ;have a0:=hFz.n;refine qR [] 5 [] λs2 g2 w2 a=>?_;by_cases T:j<M.bN.length
  .refine qI ((decide ((j:Int)<(lt.n:Int)))) true (I' (by omega)) ?_;obtain⟨l,s⟩:∃ l,M.bN[j]?=some l:=⟨_,E' T⟩;obtain⟨o,t⟩:∃ o,y[j]?=some o:=⟨_,E' (by rw[i.len];exact T)⟩;have c:=u.bN l (iN s);have H:=hLt.at_ j o l t s;have x:(y.map (pt · 0))[j]?=some (pt o 0):=by rw[iV,t];rfl
   obtain⟨b,V,_⟩:=hFz.at_ j (pt o 0) x;obtain⟨Q,O⟩:∃ Q,M.bN.length-j=Q+1:=⟨M.bN.length-j-1,by omega⟩;rw[O]at hA
   have N:=hA.mq c;rw[VI s,l7]at hI
   refine qR [] 5 [] λs3 g3 w3 d=>qV 0 (pt b j) (dQ V j (by omega)) (qV 1 (pt o 0) (Ci underlying159 rfl (((hFz.ch a).ch d).cell V x)) (qR [] 5 [] λs5 Z w5 p=>Ae λK=>?_));have W:MS mb tb ob nb Z w5 A:=(hM.mr ((a.trans d).trans p) K.new);refine qG 2 TM [true] (Ki W (hB.ch ((((hC.n a).n d).n p)) EE) hT o l (H.ch (((a.nil TM).n d).n p) EE) c (hA.af l.dst c.dst) (by have:=hA.wt;have:=D5 (A.af l.dst).bt;have:=Ps A c.dst;omega)) ?_;rintro e' w6 ⟨g6,rfl,R,q⟩;refine⟨_,g6,rfl,q,R.new,?_⟩;replace q:=q.ret (B:=w.heap.size);refine qR [] 3 [] λs7 g7 w7 C=>qV 0 (iv ((j:Int)+1)) (AD 20 (j:Int) underlying3 (by omega)) (qR [] 2 [] λs8 g8 w8 D=>qB [true] λz G K=>hJ (M.bN.length-(j+1)) _ _ _ z _ (by omega) ⟨j+1,A.mq l,rfl,by omega,rfl,rfl,(R.mr (C.trans D) G.new),hI,(by rw[show M.bN.length-(j+1)=Q by omega];exact N.1),((((((hFz.ch a).ch d).ch p).ch q).ch C).ch D),hLt.ch ((((((a.nil TM).n d).n p).trans (q)).n C).n D) EE,((((((hC.n a).n d).n p).trans q).n C).n D)⟩ K)
  .refine qI ((decide ((j:Int)<(lt.n:Int)))) false (D' (by omega)) (qR [] 1 [] λs9 g9 w9 S=>?_);obtain rfl:j=M.bN.length:=by omega
   rw[jM]at hI
   rw[<- hI];refine qE (.tuple #[]) λK=>⟨_,rfl,(hM.mr (a.trans S) K.new),((hC.n a).n S)⟩
end
end
end Go.Proofs.YtdjfdfpkkenjbaaGreatDoor
