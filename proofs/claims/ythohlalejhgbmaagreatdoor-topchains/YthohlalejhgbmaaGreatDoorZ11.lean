/- Part 11 of the walk. -/
import Derived.Test.YthohlalejhgbmaaGreatDoorZ10
set_option maxRecDepth 100000
set_option maxHeartbeats 4000000
open Go.Proofs.Tryz
set_option linter.unusedVariables false
namespace Go.Proofs.YthohlalejhgbmaaGreatDoor
section
open Go.RowKit
section
variable{key l:List Int}
theorem Sl.oZ{w:World}{a:Option Addr}{n c:Nat}(h:Sl w (.slice a n c) l)(b:Nat)(d:b+4<=l.length)(m k:Int)(g:m=(b:Int))(f:k=(b:Int)+4) :
  ∃ a' c',(∀ W,(Instr.slice 48 (.slice a n c) (some (.int .i64 m)) (some (.int .i64 k)) none).run prog W=.ok (.slice a' 4 c') W)/\Sl w (.slice a' 4 c') ((l.take (b+4)).drop b):=by
 subst g;subst f;have i:=h.oD b (b+4) (by omega) d;obtain⟨⟨a',j,e,s,t,r⟩,q,p⟩:=h;simp only[Value.slice.injEq]at e;obtain⟨rfl,rfl,rfl⟩:=e;have o:b+4-b=4:=by omega
 unfold sliced at i;rw[o]at i
 refine⟨_,_,λW=>?_,i⟩;rw[run_slice_lh (P:=prog) W 48 a _ c underlying48 .i64 .i64 _ _ (by omega) (by omega) (by omega)];have e:prog.elem 48=5:=by kernel_rfl
 rw[e,He,show((b:Int)+4).toNat=b+4 by omega,kx];simp[Result.andThen,sliced]
theorem PQ(x b:Int)(f:0<=x/\x<36028797018963968)(d:0<=b/\b<256):bits .or .i64 (x*256) b=x*256+b:=by
 obtain⟨x,rfl⟩:=jY f.1;obtain⟨y,rfl⟩:=jY d.1;have e:(x:Int)*256=((x*256:Nat):Int):=by omega
 have key:(BitVec.ofInt 64 ((x*256:Nat):Int) ||| BitVec.ofInt 64 (y:Int)).toNat=x*256+y:=by
  rw[nF,mG,mG];have a:((y:Int)%((2^64:Nat):Int)).toNat=y:=by omega
  have c:(((x*256:Nat):Int)%((2^64:Nat):Int)).toNat=2^8*x:=by omega
  rw[a,c,<- mj (by omega:y<2^8)];omega
 rw[e];show IntKind.i64.wrap ((BitVec.ofInt 64 ((x*256:Nat):Int) ||| BitVec.ofInt 64 (y:Int)).toNat:Nat)=_;rw[key,IntKind.wrap_i64];omega
def CK(h:List Int):Nat->Int
 | 0=>0
 | k+1=>CK h k*256+h.getD k 0
theorem Jv{h:List Int}(a:∀ x∈h,0<=x/\x<256)(k:Nat):0<=CK h k/\CK h k<256^k:=by
 induction k with
 | zero=>simp[CK]
 | succ k ih =>
  have:=Ai a k;rw[CK,mT];omega
theorem Lp(l:List Int)(a:Nat)(h:a+4<=l.length):CK ((l.take (a+4)).drop a) 4=Ac l a:=by
 show(((0*256+((l.take (a+4)).drop a).getD 0 0)*256+((l.take (a+4)).drop a).getD 1 0)*256+((l.take (a+4)).drop a).getD 2 0)*256+((l.take (a+4)).drop a).getD 3 0=_;rw[CV,CV,CV,CV,Bk _ _ _ (by omega),Bk _ _ _ (by omega),Bk _ _ _ (by omega),Bk _ _ _ (by omega)];unfold Ac;rw[lU];omega
theorem Id(v:Value)(l:List Int)(b:Nat)(w:World)(h:Sl w v l)(o:b+4<=l.length)(f:Int)(g:f=(b:Int)) :
  Calls prog 161 #[v,.int .i64 f] w λe w'=>e=.returned (.int .i64 (Ac l b))/\w'=w:=by
 have s:Hid (CK ((l.take (b+4)).drop b) 4=Ac l b):=Lp l b o;have d:=h.len;have H:0<=f:=by omega
 have I:f<=140737488351232:=by omega
 obtain⟨a,c,rfl⟩:=h.shape;obtain⟨D,F,y,k⟩:=h.oZ b o f (f+4) g (by omega);have m:Hid (∀ x∈(l.take (b+4)).drop b,0<=x/\x<256):=k.byte;have t:Hid (((l.take (b+4)).drop b).length=4):=by unfold Hid;rw[jL,X'];omega
 generalize (l.take (b+4)).drop b=L at s k m t;generalize l.length=N at y d ⊢;clear h o g d;go_enter func161,ntmps161
 go_wp2_with fail
 go_loopw [5,14] (λv iv wr=>∃ j:Nat,j<=4/\iv=.int .i64 (j:Int)/\v=.int .i64 (CK L j)/\wr=w) (λ_ iv _=>(4-intOf iv).toNat)
 case atStart=>exact⟨0,by omega,rfl,rfl,rfl⟩
 case round =>
  obtain⟨j,G,rfl,rfl,rfl⟩:=hrel;by_cases C:j<4
  .have hii:(j:Int)<4:=by omega
   have p:=Jv m.out j;have r:CK L j<16777216:=by
    have:(256:Int)^j<=256^3:=by
     rcases(by omega:j=0\/j=1\/j=2\/j=3)with rfl|rfl|rfl|rfl<;>decide
    omega
   have u:=Ai m.out j;obtain⟨E,od,rfl,z,A⟩:=k.oJ j (by have:=t.out;omega);have i:=PQ (CK L j) (L.getD j 0) ⟨p.1,by omega⟩ u;have n:Hid (CK L j*256+L.getD j 0=CK L (j+1)):=rfl;have q:=p.1;clear p k y;generalize CK L j=X at q r i n;generalize L.getD j 0=B at u A i n;go_wp2
   go_roundw
   case rel=>exact⟨j+1,by omega,by go_num,by rw[<- n.out],trivial⟩
   case measure=>simp[intOf];omega
  .obtain rfl:j=4:=by omega
   rw[show((4:Nat):Int)=4 from rfl,s.out];go_wp2
   go_ret;exact⟨rfl,rfl⟩
def Rb(l:List Int)(j:Nat):List Int:=(List.range 5).map λi=>if i<j then Ac l (4*i)else 0
def rowOf(m:List Int):Array Value:=(m.map (Value.int .i64)).toArray
theorem Wq(l:List Int)(j:Nat)(a:j<5):(rowOf (Rb l j)).setIfInBounds j (.int .i64 (Ac l (4*j)))=rowOf (Rb l (j+1)):=by
 rcases(by omega:j=0\/j=1\/j=2\/j=3\/j=4)with rfl|rfl|rfl|rfl|rfl
 all_goals rfl
theorem KK(v:Value)(l:List Int)(w:World)(h:Sl w v l)(ht:NTab w) :
  Calls prog 131 #[v] w λe w'=>e=.returned (.tuple #[.agg (JJ l),.int .i64 (Ca l)])/\Bw w w':=by
 have G:=h.len;obtain⟨a,cp,rfl⟩:=h.shape;by_cases E:l.length=20
 .have i:Hid (Ca l=AW (Ac l 0) (Ac l 4) (Ac l 8) (Ac l 12) (Ac l 16)):=if_neg (λg=>g E);have Z:=h;have HL:Hid (l.length=20):=E;rw[E]at Z ⊢
  clear h E G;have b0:Bw w (w.alloc (.cells (cmA 0 0 0 0 0) 47)):=(Below.refl _ _).alloc (A' _) _;have z0:(w.alloc (.cells (cmA 0 0 0 0 0) 47)).heap.size=w.heap.size+1:=by simp
  have B:=heap_alloc_new w (.cells (cmA 0 0 0 0 0) 47);have N:Below (w.heap.size+1) (w.alloc (.cells (cmA 0 0 0 0 0) 47)) ((w.alloc (.cells (cmA 0 0 0 0 0) 47)).alloc (.cells (cmA 0 0 0 0 0) 47)):=(Below.refl _ _).alloc (by omega) _;have C:=heap_alloc_new (w.alloc (.cells (cmA 0 0 0 0 0) 47)) (.cells (cmA 0 0 0 0 0) 47);rw[z0]at C
  replace B:=(N.block w.heap.size (by omega)).trans B;have J:=b0.trans (N.mono (kU _));have z1:((w.alloc (.cells (cmA 0 0 0 0 0) 47)).alloc (.cells (cmA 0 0 0 0 0) 47)).heap.size=w.heap.size+1+1:=by simp
  have Y:(w.alloc (.cells zV5 47)).alloc (.cells zV5 47)=(w.alloc (.cells (cmA 0 0 0 0 0) 47)).alloc (.cells (cmA 0 0 0 0 0) 47):=rfl;clear b0 N z0;generalize (w.alloc (.cells (cmA 0 0 0 0 0) 47)).alloc (.cells (cmA 0 0 0 0 0) 47)=W at B C J z1 Y;go_enter func131,ntmps131
  go_wp2_with fail
  clear Y;refine(GB (w.heap.size+1) W).mono ?_;rintro e w2 ⟨rfl,H⟩;replace B:=(H.block w.heap.size (by omega)).trans B;replace C:=(H.block (w.heap.size+1) (by omega)).trans C;have d2:=J.trans (H.mono J.size);have o:Hid _:=B;have q:Hid (w2.heap[w.heap.size+1]?=some (.cells (rowOf (Rb l 0)) 47)):=C;clear B C H J z1;have y:=PY (w.heap.size+1);go_wp2_with fail
  go_loopw [13] (λiv wr=>∃ j:Nat,j<=5/\iv=.int .i64 (j:Int)/\wr.heap[w.heap.size]?=some (.cells (cmA 0 0 0 0 0) 47)/\wr.heap[w.heap.size+1]?=some (.cells (rowOf (Rb l j)) 47)/\Bw w wr) (λiv _=>(5-intOf iv).toNat)
  case atStart=>exact⟨0,by omega,rfl,o.out,q.out,d2⟩
  case round =>
   obtain⟨j,hj,rfl,r,m,d⟩:=hrel;clear o q;by_cases z:j<5
   .have hji:(j:Int)<5:=by omega
    have a1:=y j z;have u:∃ x,wr.cell? ⟨w.heap.size+1,j,none⟩=some (.int .i64 x):=⟨(Rb l j).getD j 0,(cell_of_row _ _ j _ _ _ m).trans (by simp[rowOf,Rb,z])⟩;obtain⟨x,hx⟩:=u;have a0:=frozen_of_row wr _ j _ _ m;have o:Hid _:=r;have q:Hid _:=m;have R:=Wq l j z;clear y r m;go_wp2_with fail
    refine(Id (.slice a 20 cp) l (4*j) wr (Z.ab d) (by rw[HL.out];omega) _ (by omega)).mono ?_;rintro e Q ⟨rfl,rfl⟩;have A:(Q.setCell ⟨w.heap.size+1,j,none⟩ (.int .i64 (Ac l (4*j)))).heap[w.heap.size]?=some (.cells (cmA 0 0 0 0 0) 47):=(heap_setCell_other _ _ _ _ (by simp)).trans o.out;have M:(Q.setCell ⟨w.heap.size+1,j,none⟩ (.int .i64 (Ac l (4*j)))).heap[w.heap.size+1]?=some (.cells (rowOf (Rb l (j+1))) 47):=by
     rw[heap_setCell_same _ _ _ _ _ _ q.out,R]
    have q2:Bw w (Q.setCell ⟨w.heap.size+1,j,none⟩ (.int .i64 (Ac l (4*j)))):=d.setCell (p:=⟨w.heap.size+1,j,none⟩) (kU _) _;have S:Hid _:=A;have T:Hid _:=M;clear R A M o q;generalize Ac l (4*j)=X at S T q2 ⊢;go_wp2
    go_roundw
    case rel=>exact⟨j+1,by omega,by go_num,S.out,T.out,q2⟩
    case measure=>simp[intOf];omega
   .obtain rfl:j=5:=by omega
    rw[show((5:Nat):Int)=5 from rfl];have b:wr.heap[w.heap.size+1]?=some (.cells (cmA (Ac l 0) (Ac l 4) (Ac l 8) (Ac l 12) (Ac l 16)) 47):=m;clear m y;have f:Hid (Ca l=0->JJ l=cmA (Ac l 0) (Ac l 4) (Ac l 8) (Ac l 12) (Ac l 16)):=λh=>if_pos h;have t:Hid (¬ Ca l=0->JJ l=cmA 0 0 0 0 0):=λh=>if_neg h;have V:=ht.ab d;generalize Ac l 0=k at i f b;generalize Ac l 4=c at i f b;generalize Ac l 8=s at i f b;generalize Ac l 12=n at i f b;generalize Ac l 16=v at i f b;have L:=Gi k c s n v;have F:=Gi 0 0 0 0 0;have O:=(H'.1 b).1;go_wp2_with (refine wpList_load_row rfl 47 _ rfl (w.heap.size+1) rfl 47 _ (0,0) _ b underlying47 rfl L ?_)
    refine(DL k c s n v wr V).mono ?_;rintro e w6 ⟨rfl,I⟩;have U:=d.trans (I.mono d.size);have A:=(I.block w.heap.size (by omega)).trans r;have M:=(I.block (w.heap.size+1) O).trans b;clear r b I V d;by_cases K:AW k c s n v=0
    .have HZ:Hid (Ca l=0):=i.out.trans K;have D:Hid (JJ l=cmA k c s n v):=f.out HZ.out;rw[K];clear K i f t;go_wp2_with (first|(refine wpList_load_row rfl 47 _ rfl (w.heap.size+1) rfl 47 _ (0,0) _ M underlying47 rfl L ?_)|(refine wpList_store_row rfl 47 (.tmp 2) (.tmp 30) rfl w.heap.size (cmA k c s n v) rfl rfl 47 _ A L rfl (SN k c s n v) ?_))
     have P:=setRow_heap w6 w.heap.size _ (cmA k c s n v) 47 _ A;refine bodyPost_ret (Jw rfl _ _ w.heap.size 47 _ (0,0) _ rfl P underlying47 rfl L) rfl ?_;rw[HZ.out,D.out];exact⟨rfl,Cb U (A' _) _⟩
    .have HZ:Hid (Ca l=AW k c s n v):=i.out;have D:Hid (JJ l=cmA 0 0 0 0 0):=t.out (by rw[i.out];exact K);clear i f t;go_wp2_with (refine wpList_store_row rfl 47 (.tmp 2) (.tmp 28) rfl w.heap.size (cmA 0 0 0 0 0) rfl rfl 47 _ A F rfl (SN 0 0 0 0 0) ?_)
     have P:=setRow_heap w6 w.heap.size _ (cmA 0 0 0 0 0) 47 _ A;refine bodyPost_ret (Jw rfl _ _ w.heap.size 47 _ (0,0) _ rfl P underlying47 rfl F) rfl ?_;rw[HZ.out,D.out];exact⟨rfl,Cb U (A' _) _⟩
 .have h1':¬ (l.length:Int)=20:=by omega
  have i:Hid (Ca l=1):=if_pos E;have D:Hid (JJ l=cmA 0 0 0 0 0):=if_neg (by rw[i.out];omega);have bb:Bw w (w.alloc (.cells (cmA 0 0 0 0 0) 47)):=(Below.refl _ _).alloc (A' _) _;have bc:=Bc.made w 0 0 0 0 0;go_enter func131,ntmps131
  go_wp2
  refine bodyPost_ret (Jw rfl _ _ w.heap.size 47 _ (0,0) _ rfl (heap_alloc_new _ _) underlying47 rfl (Gi 0 0 0 0 0)) rfl ?_;rw[i.out,D.out];exact⟨rfl,bb⟩
theorem Iz(c r u:Int):(tkA c r u).all (·.oneCell')=true:=by simp[tkA,Value.oneCell']
theorem Qx(v:Value)(l:List Int)(w:World)(h:Sl w v l)(x:6<=l.length) :
  Calls prog 160 #[v] w λe w'=>e=.returned (.agg (tkA (l.getD 0 0) (l.getD 1 0) (Ac l 2)))/\Bw w w':=by
 have d:=h.len;obtain⟨a,t,rfl⟩:=h.shape;have i:Bw w (w.alloc (.cells (tkA 0 0 0) 115)):=(Below.refl _ _).alloc (A' _) _;have j:=heap_alloc_new w (.cells (tkA 0 0 0) 115);have f:=h.ab i;have o:w.alloc (.cells #[.int .i64 0,.int .i64 0,.int .i64 0] 115)=w.alloc (.cells (tkA 0 0 0) 115):=rfl;generalize w.alloc (.cells (tkA 0 0 0) 115)=W0 at i j f o;obtain⟨r,od,rfl,u,k⟩:=f.oJ 0 (by omega);obtain⟨s,A,m,_,q⟩:=f.oJ 1 (by omega);simp only[V',Addr.mk.injEq,and_true]at m;obtain⟨rfl,rfl⟩:=m;rw[lU]at k
 have C:=Ai h.byte 0;have D:=Ai h.byte 1;have y:(0:Int)<(l.length:Int):=by omega
 have z:(1:Int)<(l.length:Int):=by omega
 have n:Calls prog 161 #[.slice (some ⟨r,od,none⟩) l.length t,.int .i64 2] W0.drew λe w'=>e=.returned (.int .i64 (Ac l 2))/\w'=W0.drew :=
  Id _ l 2 _ (f.ab (Below.refl _ _).drew) (by omega) 2 rfl
 have g:Hid _:=n;clear n;generalize l.getD 0 0=b0 at k C;generalize l.getD 1 0=b1 at q D;generalize Ac l 2=b2 at g;generalize l.length=N at d x y z g ⊢;clear h f;have p:=I0 b0 b1 b2;go_enter func160,ntmps160
 go_wp2_with fail
 refine Ar 11 (by kernel_rfl) (by kernel_rfl) ?_;simp only[kL,kZ,k9,lM]
 repeat (go_big_quiet_step (fail))
 go_big_quiet_want
 go_big_quiet_op
 refine⟨_,g.out,?_⟩
 go_big_quiet_on
 repeat (go_big_quiet_step (fail))
 refine wpQuiet_nil ?_;clear o;have b:W0.drew.heap[w.heap.size]?=some (.cells (tkA 0 0 0) 115):=j;have c:Bw w W0.drew:=i.drew;clear j i k q g;generalize W0.drew=W at b c ⊢;go_wp2_with (refine wpList_store_row rfl 115 (.tmp 2) (.tmp 13) rfl w.heap.size (tkA b0 b1 b2) rfl rfl 115 _ b p rfl (Iz b0 b1 b2) ?_)
 have B:=setRow_heap W w.heap.size _ (tkA b0 b1 b2) 115 _ b;exact bodyPost_ret (v:=.agg (tkA b0 b1 b2)) (results_cell_row rfl _ _ w.heap.size 115 _ (0,0) _ rfl B underlying115 rfl p) rfl ⟨rfl,Cb c (A' _) _⟩
def DX(key l:List Int):Int :=
 if key.length≠32\/l.length≠22 then 1
 else if(DV key (l.take 6)).take 16≠l.drop 6 then 6
 else MD (l.getD 0 0) (l.getD 1 0) (Ac l 2)
def My(key l:List Int):Array Value:=if DX key l=0 then tkA (l.getD 0 0) (l.getD 1 0) (Ac l 2)else tkA 0 0 0
theorem No(h:key.length≠32\/l.length≠22):DX key l=1:=if_pos h
theorem Yc(a:key.length=32)(b:l.length=22)(h:¬ (DV key (l.take 6)).take 16=l.drop 6):DX key l=6:=by
 unfold DX;rw[if_neg (by omega),if_pos h]
theorem Yd(a:key.length=32)(b:l.length=22)(h:(DV key (l.take 6)).take 16=l.drop 6):DX key l=MD (l.getD 0 0) (l.getD 1 0) (Ac l 2):=by
 unfold DX;rw[if_neg (by omega),if_neg (λg=>g h)]
theorem Tt(h:DX key l=0):My key l=tkA (l.getD 0 0) (l.getD 1 0) (Ac l 2):=if_pos h
theorem Ig(h:¬ DX key l=0):My key l=tkA 0 0 0:=if_neg h
theorem RK(l:List Int):Ac (l.take 6) 2=Ac l 2:=by
 unfold Ac;rw[Bk _ _ _ (by omega),Bk _ _ _ (by omega),Bk _ _ _ (by omega),Bk _ _ _ (by omega)]
theorem UZ(vk vb:Value)(key l:List Int)(w:World)(z:Sl w vk key)(x:Sl w vb l)(ht:Ax w) :
  Calls prog 130 #[vk,vb] w λe w'=>e=.returned (.tuple #[.agg (My key l),.int .i64 (DX key l)])/\Bw w w':=by
 have lk:=z.len;have ll:=x.len;obtain⟨ak,ck,rfl⟩:=z.shape;obtain⟨U,Y,rfl⟩:=x.shape;have i:Bw w (w.alloc (.cells (tkA 0 0 0) 115)):=(Below.refl _ _).alloc (A' _) _;have L:=heap_alloc_new w (.cells (tkA 0 0 0) 115);have d:=I0 0 0 0;by_cases o:key.length=32
 .by_cases h2:l.length=22
  .have H1:Hid (key.length=32):=o;have t:Hid (l.length=22):=h2;rw[o]at z ⊢
   rw[h2]at x ⊢
   clear lk ll o h2;have v:w.alloc (.cells #[.int .i64 0,.int .i64 0,.int .i64 0] 115)=w.alloc (.cells (tkA 0 0 0) 115):=rfl;generalize w.alloc (.cells (tkA 0 0 0) 115)=W at i L v;obtain⟨S,V,C,s6⟩:=x.ni 6 (by have:=t.out;omega);have r6:∀ W,(Instr.slice 48 (.slice U 22 Y) none (some (.int .i64 6)) none).run prog W=.ok (.slice S 6 V) W:=C;obtain⟨T,X,D,s7⟩:=x.from 6 (by have:=t.out;omega);have r7:∀ W,(Instr.slice 48 (.slice U 22 Y) (some (.int .i64 6)) none none).run prog W=.ok (.slice T 16 X) W:=D;clear C D;have R:Hid ((l.take 6).length=6):=by unfold Hid;rw[X',t.out];rfl
   go_enter func130,ntmps130
   go_wp2_with fail
   clear v;refine(Qs _ _ key (l.take 6) W (z.ab i) (s6.ab i) (by rw[H1.out];omega) (by rw[R.out];omega) (ht.ab i)).mono ?_;rintro e M ⟨v1,rfl,s1,N⟩;have P:=i.trans (N.mono i.size);have q1:=(N.block w.heap.size (H'.1 L).1).trans L;have E:=s7.ab P;clear N i L;go_wp2_with fail
   refine(In v1 (.slice T 16 X) _ _ M s1 E).mono ?_;rintro e w2 ⟨rfl,m,rfl⟩;have n:Bw w (M.drewN m):=Am P m;have s:(M.drewN m).heap[w.heap.size]?=some (.cells (tkA 0 0 0) 115):=q1;clear q1 P s1 E;generalize M.drewN m=W2 at n s ⊢;by_cases p:(DV key (l.take 6)).take 16=l.drop 6
   .have HE:=Yd H1.out t.out p;have b:Hid (DX key l=0->My key l=tkA (l.getD 0 0) (l.getD 1 0) (Ac l 2)):=Tt;have j:Hid (¬ DX key l=0->My key l=tkA 0 0 0):=Ig;have F:Hid ((l.take 6).getD 0 0=l.getD 0 0/\(l.take 6).getD 1 0=l.getD 1 0/\Ac (l.take 6) 2=Ac l 2):=⟨Bk _ _ _ (by omega),Bk _ _ _ (by omega),RK l⟩;rw[I' p];clear p;go_wp2_with fail
    refine(Qx (.slice S 6 V) (l.take 6) W2 (s6.ab n) (by rw[R.out];omega)).mono ?_;rintro e g ⟨rfl,O⟩;rw[F.out.1,F.out.2.1,F.out.2.2];have Q:=n.trans (O.mono n.size);have f:=(O.block w.heap.size (H'.1 s).1).trans s;clear O s n F;generalize l.getD 0 0=c at HE b ⊢;generalize l.getD 1 0=r at HE b ⊢;generalize Ac l 2=u at HE b ⊢;have y:=I0 c r u;have H:Bw g (g.alloc (.cells (tkA 0 0 0) 115)):=(Below.refl _ _).alloc (A' _) _;have K:=heap_alloc_new g (.cells (tkA 0 0 0) 115);have v:g.alloc (.cells #[.int .i64 0,.int .i64 0,.int .i64 0] 115)=g.alloc (.cells (tkA 0 0 0) 115):=rfl;generalize g.alloc (.cells (tkA 0 0 0) 115)=W4 at H K v;have A:w.heap.size<g.heap.size:=(H'.1 f).1
    go_upto_region 10 with(refine wpList_store_row rfl 115 (.tmp 9) (.tmp 38) rfl g.heap.size (tkA c r u) rfl rfl 115 _ K y rfl (Iz c r u) ?_)
    clear v;have k:=setRow_heap W4 g.heap.size _ (tkA c r u) 115 _ K;replace f:=((H.block w.heap.size A).trans f);replace f:=(setRow_other W4 g.heap.size w.heap.size (tkA c r u) (by omega)).trans f;have J:=Cb (Q.trans (H.mono Q.size)) (show w.heap.size<=g.heap.size by omega) (tkA c r u);generalize W4.setRow g.heap.size (tkA c r u)=W5 at f k J ⊢;clear K H Q;generalize g.heap.size=G at k A ⊢;go_wp2_with (refine wpList_load_row rfl 115 _ rfl G rfl 115 _ (0,0) _ k underlying115 rfl y ?_)
    refine(IK c r u W5).mono ?_;rintro e w6 ⟨rfl,I⟩;have Z:=J.trans (I.mono J.size);replace f:=(I.block w.heap.size (H'.1 f).1).trans f;replace k:=(I.block G (H'.1 k).1).trans k;clear I J;by_cases q:De c r u
    .have a:Hid (DX key l=0):=HE.trans (Ku q);have h:Hid (My key l=tkA c r u):=b.out a.out;rw[I' q];clear HE b j q;go_wp2_with (first|(refine wpList_load_row rfl 115 _ rfl G rfl 115 _ (0,0) _ k underlying115 rfl y ?_)|(refine wpList_store_row rfl 115 (.tmp 4) (.tmp 43) rfl w.heap.size (tkA c r u) rfl rfl 115 _ f y rfl (Iz c r u) ?_))
     have B:=setRow_heap w6 w.heap.size _ (tkA c r u) 115 _ f;refine bodyPost_ret (Jw rfl _ _ w.heap.size 115 _ (0,0) _ rfl B underlying115 rfl y) rfl ?_;rw[a.out,h.out];exact⟨rfl,Cb Z (A' _) _⟩
    .have a:Hid (DX key l=2):=HE.trans (T8 q);have h:Hid (My key l=tkA 0 0 0):=j.out (by rw[a.out];omega);rw[D' q];clear HE b j q;go_wp2_with (refine wpList_store_row rfl 115 (.tmp 4) (.tmp 42) rfl w.heap.size (tkA 0 0 0) rfl rfl 115 _ f d rfl (Iz 0 0 0) ?_)
     have B:=setRow_heap w6 w.heap.size _ (tkA 0 0 0) 115 _ f;refine bodyPost_ret (Jw rfl _ _ w.heap.size 115 _ (0,0) _ rfl B underlying115 rfl d) rfl ?_;rw[a.out,h.out];exact⟨rfl,Cb Z (A' _) _⟩
   .have a:Hid (DX key l=6):=Yc H1.out t.out p;have h:Hid (My key l=tkA 0 0 0):=Ig (by rw[a.out];omega);rw[D' p];clear p;go_wp2_with (refine wpList_store_row rfl 115 (.tmp 4) (.tmp 36) rfl w.heap.size (tkA 0 0 0) rfl rfl 115 _ s d rfl (Iz 0 0 0) ?_)
    have B:=setRow_heap W2 w.heap.size _ (tkA 0 0 0) 115 _ s;refine bodyPost_ret (Jw rfl _ _ w.heap.size 115 _ (0,0) _ rfl B underlying115 rfl d) rfl ?_;rw[a.out,h.out];exact⟨rfl,Cb n (A' _) _⟩
  .have h2':¬ (l.length:Int)=22:=by omega
   have a:Hid (DX key l=1):=No (.inr h2);have h:Hid (My key l=tkA 0 0 0):=Ig (by rw[a.out];omega);rw[o]at z ⊢
   clear o;go_enter func130,ntmps130
   go_wp2
   refine bodyPost_ret (Jw rfl _ _ w.heap.size 115 _ (0,0) _ rfl (heap_alloc_new _ _) underlying115 rfl d) rfl ?_;rw[a.out,h.out];exact⟨rfl,i⟩
 .have h1':¬ (key.length:Int)=32:=by omega
  have a:Hid (DX key l=1):=No (.inl o);have h:Hid (My key l=tkA 0 0 0):=Ig (by rw[a.out];omega);go_enter func130,ntmps130
  go_wp2
  refine bodyPost_ret (Jw rfl _ _ w.heap.size 115 _ (0,0) _ rfl (heap_alloc_new _ _) underlying115 rfl d) rfl ?_;rw[a.out,h.out];exact⟨rfl,i⟩
end
end
section
section
def PP(l:List Int):Int:=if l=[]then 13 else if 7<l.getD 0 0 then 2 else Co (Gz (l.getD 0 0)) 0 0 noB (l.drop 1)
def Ow(l:List Int):List Int:=if PP l=0 then J9 (Gz (l.getD 0 0)) (l.drop 1)else[]
def unT(l:List Int):List Int:=(Ow l).take 22
def unQ(l:List Int):List Int:=(Ow l).drop 22
def unB(l:List Int):Prop:=PP l=0/\(Ow l).length=42/\DX Gy (unT l)=0
instance (l:List Int):Decidable (unB l):=by unfold unB;exact inferInstance
def unE(l:List Int):Int:=if PP l≠0 then PP l else if(Ow l).length≠42 then 3 else if DX Gy (unT l)≠0 then DX Gy (unT l)else Ca (unQ l)
variable{i:Nat}{l:List Int}{now:Int}
theorem Qy(h:unE l=0):unB l/\Ca (unQ l)=0:=by
 unfold unE at h;split at h
 .rename_i g;exact absurd h g
 .rename_i g1
  split at h
  .cases h
  .rename_i g2
   split at h
   .rename_i g;exact absurd h g
   .rename_i g3
    exact⟨⟨jR.1 g1,jR.1 g2,jR.1 g3⟩,h⟩
theorem jf(h:unE l=0):0<l.length:=by
 obtain⟨⟨a,_⟩,_⟩:=Qy h;cases l with
 | nil=>cases a
 | cons x r=>simp
def opE(l:List Int)(now:Int):Int :=
 if unE l≠0 then unE l
 else if Ac (unQ l) 0≠0/\Ac (unQ l) 4≠l.getD 0 0 then 11
 else E4 ((unT l).getD 0 0) ((unT l).getD 1 0) (Ac (unT l) 2) (Ac (unQ l) 0) (Ac (unQ l) 4) (Ac (unQ l) 8) (Ac (unQ l) 12) (Ac (unQ l) 16) now
def opA(l:List Int)(now:Int):Array Value:=if opE l now=0 then cmA (Ac (unQ l) 0) (Ac (unQ l) 4) (Ac (unQ l) 8) (Ac (unQ l) 12) (Ac (unQ l) 16)else cmA 0 0 0 0 0
theorem Ou(h:opE l now≠0):opA l now=cmA 0 0 0 0 0:=if_neg h
theorem XL(h:opE l now=0):opA l now=cmA (Ac (unQ l) 0) (Ac (unQ l) 4) (Ac (unQ l) 8) (Ac (unQ l) 12) (Ac (unQ l) 16):=if_pos h
def Nod.nr(p:Nod)(i:Nat):Nod × List Let :=
 if(CP p.vo.p p.bw (p.an.take 40)).1=[]then({ p with bw:=(CP p.vo.p p.bw (p.an.take 40)).2 },[])
 else if p.vo.p.n=(i:Int)then(Nod.eo { p with bw:=(CP p.vo.p p.bw (p.an.take 40)).2 } (CP p.vo.p p.bw (p.an.take 40)).1,[])
 else({ p with bw:=(CP p.vo.p p.bw (p.an.take 40)).2 },[{ Cz 6 with au:=p.ae.length,ed:=(CP p.vo.p p.bw (p.an.take 40)).1,src:=i,dst:=p.vo.p.n.toNat }])
noncomputable def oq(i:Nat):List Cmd->Nod->List Tol->Nod × List Tol
 | [],p,ts=>(p,ts)
 | c::l,p,ts =>
  if doE p.lr c≠0 then(p,ts)
  else oq i l (Nod.hZ { p with lr:=doS p.lr c,done:=p.done+1 } c) (if(p.bw c).isSome=true then ts++[⟨i,c.c,c.s,doC p.lr c,doA p.lr c⟩]else ts)
def Nod.nS(p:Nod)(i:Nat)(ls:List Let):Nod × List Let:=if p.sy<(p.d.length:Int)/\CZ p.d p.sy≠0 then(p,ls)else mv i p.bn { p.ou with bn:=[] } ls
def Nod.cl(p:Nod)(i:Nat)(ls:List Let):Nod × List Let:=if p.leads then(Hj p i 5,ls++Dv p i 5)else(p,ls)
noncomputable def Nod.piece(p:Nod)(i:Nat)(ls:List Let)(ts:List Tol):Nod × List Let × List Tol :=
 let a:=oq i (p.ae.drop p.done) p ts
 let b:=a.1.nr i
 let c:=b.1.dT.nS i (ls++b.2)
 let d:=c.1.cl i c.2
 (d.1,d.2,a.2)
noncomputable def Nod.oz(p:Nod)(i:Nat)(e:Int)(c:Cmd)(ts:List Tol):Nod × List Tol :=
 if p.up=false then(p,ts)
 else if e≠0 then({ p with bad:=p.bad+1 },ts)
 else if c∈p.ae.take p.done then(p,ts++[⟨i,c.c,c.s,doC p.lr c,doA p.lr c⟩])
 else(p.want c,ts)
def GX(l:List Int)(now:Int):Cmd:=if opE l now=0 then⟨Ac (unQ l) 0,Ac (unQ l) 4,Ac (unQ l) 8,Ac (unQ l) 12,Ac (unQ l) 16⟩else QS
theorem fB(l:List Int)(a:Int):opA l a=cmC (GX l a):=by unfold opA GX;split<;>rfl
noncomputable def Nod.oA(p:Nod)(i:Nat)(d:List Int)(ts:List Tol):Nod × List Tol:=p.oz i (opE d (p.done:Int)) (GX d (p.done:Int)) ts
def Meet.set(M:Meet)(i:Nat)(p:Nod)(ls:List Let)(ts:List Tol):Meet:=⟨upN M.af i p,ls,ts⟩
noncomputable def Meet.act(M:Meet)(x:Lac):Meet :=
 let i:=x.n.toNat
 if x.k=1 then M.set i ((M.af i).oA i x.d M.cF).1 M.bt ((M.af i).oA i x.d M.cF).2
 else if x.k=2 then M.set i (if(M.af i).up then(M.af i).lead i else M.af i) M.bt M.cF
 else if x.k=3 then M.set i (if(M.af i).up then((M.af i).piece i M.bt M.cF).1 else M.af i) (if(M.af i).up then((M.af i).piece i M.bt M.cF).2.1 else M.bt) (if(M.af i).up then((M.af i).piece i M.bt M.cF).2.2 else M.cF)
 else if x.k=4\/x.k=5\/x.k=6 then M.move x.k x.a.toNat
 else if x.k=7 then M.oh
 else if x.k=8 then M.set i (if(M.af i).up then(M.af i).lp x.p else M.af i) M.bt M.cF
 else if x.k=9 then M.set i (if(M.af i).up then M.af i else(M.af i).start) M.bt M.cF
 else M
noncomputable def Meet.nn(M:Meet)(l:List Lac):Meet:=l.foldl Meet.act M
theorem bS(r:List Int):At (DY r).2.p/\BC (DY r).2.vs:=by
 have h:∀ k,At (itR r k).2.p/\BC (itR r k).2.vs:=by
  intro k;induction k with
  | zero=>exact⟨.inr ⟨rfl,rfl⟩,BC.nil⟩
  | succ k ih =>
   rw[itR];unfold Jt;split
   .exact ih
   .rename_i c m hs
    have d:∃ b,Dr (itR r k).2 b=some c:=by
     unfold BJ at hs;split at hs
     .cases hs
     .split at hs
      .cases hs
      .split at hs
       .cases hs
       .obtain⟨x,hx,e⟩:=lu.1 hs;injection e with e1 e2
        subst e1;exact⟨_,hx⟩
    obtain⟨b,a⟩:=d;unfold Dr at a;split at a
    .split at a
     .rename_i h1
      injection a with a;subst a
      exact⟨.inl (Dj h1).2.1,ih.2⟩
     .cases a
    .split at a
     .split at a
      .split at a
       .rename_i h1
        injection a with a;subst a
        exact⟨.inl (AC h1).2.1.2.1,FG ih.2 (AC h1).2.1⟩
       .cases a
      .cases a
     .cases a
 exact h r.length
theorem bR(d:List Int)(s:Int):At (FP d s).p/\BC (FP d s).vs:=by
 unfold FP;split
 .exact bS d
 .exact⟨.inr ⟨rfl,rfl⟩,BC.nil⟩
theorem Cm{l m:Let}{k:Nat}(h:m∈BW i l k):∃ to,to<k/\m={ l with src:=i,dst:=to }:=by
 unfold BW at h;obtain⟨to,a,rfl⟩:=kn.1 h;exact⟨to,l7.1 (List.mem_filter.1 a).1,rfl⟩
theorem IT(a:i<5)(l:Let):(BW i l 5).length<=4:=by
 unfold BW;rw[ka];rcases nT a with rfl|rfl|rfl|rfl|rfl<;>decide
end
section
variable{n i:Nat}{p:Nod}
theorem NOk.nR(h:NOk n p)(a:i<5){q:Pend}(c:POk p.ae.length q):NOk n (p.nR i q)/\(p.nR i q).bn=p.bn/\p.ae.length<=(p.nR i q).ae.length/\Q7 p i q/\(∀ m∈p.nV i q,LOk m)/\(p.nV i q).length<=q.wt:=by
 have j:=h.ag;have one:∀ {l:Let},LOk l->∀ m∈[l],LOk m:=λk m d=>by rw[G'.1 d];exact k
 cases q with
 | began b vs =>
  unfold Nod.nR Nod.nV;refine⟨?_,?_,?_,nc (h.he i).len (by decide),?_,?_⟩
  .simp only;split
   .exact h
   .exact h.og i c
  .simp only;split<;>rfl
  .simp only;split<;>exact A' _
  .simp only;split
   .exact λm d=>by cases d
   .rename_i h1
    intro m d;obtain⟨e,f,rfl⟩:=Cm d;exact⟨by show 0<7;decide,a,f,by show At b;rw[<- kP h1];exact h.vp,BC.nil,by show 0<=40;decide,λh=>by cases h⟩
  .simp only;split
   .exact j' _
   .exact IT a _
 | prom e b vs=>exact⟨h,rfl,A' _,trivial,one ⟨by show 1<7;decide,a,c.1,c.2.1,c.2.2,j,λh=>by cases h⟩,A' _⟩
 | voted e v=>exact⟨h,rfl,A' _,trivial,one ⟨by show 4<7;decide,a,c,At.b0,BC.nil,by show 0<=40;decide,λh=>by cases h⟩,A' _⟩
 | fa e b=>exact⟨h,rfl,A' _,trivial,one ⟨by show 2<7;decide,a,c.1,c.2,BC.nil,by show 0<=40;decide,λh=>by cases h⟩,A' _⟩
 | prop v =>
  have g:=h.count i v;refine⟨g.1,g.2.1,g.2.2,j,λm d=>?_,IT a _⟩;obtain⟨e,f,rfl⟩:=Cm d;exact⟨by show 3<7;decide,a,f,At.b0,BC.nil,by show 0<=40;decide,λh=>by cases h⟩
 | askNews e=>exact⟨h,rfl,A' _,trivial,one ⟨by show 6<7;decide,a,c,At.b0,BC.nil,by show 0<=40;decide,λh=>by cases h⟩,A' _⟩
 | start =>
  refine⟨h,rfl,A' _,trivial,λm d=>?_,IT a _⟩;obtain⟨e,f,rfl⟩:=Cm d;exact⟨by show 6<7;decide,a,f,At.b0,BC.nil,by show 0<=40;decide,λh=>by cases h⟩
 | tell e au=>exact⟨h,rfl,A' _,c.2,one ⟨by show 5<7;decide,a,c.1,At.b0,BC.nil,by show(p.ae.drop au).length<=40;rw[jL];omega,λ_=>by show au+(p.ae.drop au).length<=40;rw[jL];have:=c.2;omega⟩,A' _⟩
theorem W6(k:i<5)(l:List Pend)(p:Nod)(a:List Let)(h:NOk n p)(c:∀ q∈l,POk p.ae.length q)(z:a.length+Av l<90000000)(b:∀ m∈a,LOk m) :
  NOk n (mv i l p a).1/\(mv i l p a).1.bn=p.bn/\(∀ m∈(mv i l p a).2,LOk m)/\(mv i l p a).2.length<=a.length+Av l/\Gd i l p a:=by
 induction l generalizing p a with
 | nil=>exact⟨h,rfl,b,A' _,trivial⟩
 | cons q l ih =>
  obtain⟨d,e,f,g,j,y⟩:=h.nR k (c q P');have A:Av (q::l)=q.wt+Av l:=rfl;obtain⟨t,u,v,w,x⟩:=ih (p.nR i q) (a++p.nV i q) d (λr s=>(c r (O' _ s)).mono f) (by rw[M'];omega) (λm o=>by
   rcases Q'.1 o with h|h
   .exact b m h
   .exact j m h)
  refine⟨t,u.trans e,v,?_,g,by omega,x⟩;show(mv i l (p.nR i q) (a++p.nV i q)).2.length<=_;rw[M']at w;omega
theorem NOk.ou(h:NOk n p):NOk n { p.ou with bn:=[] }:=by
 unfold Nod.ou;split
 .exact{ h with pe:=λq a=>by cases a }
 .exact{ h with pe:=λq a=>by cases a }
theorem S5(p:Nod):p.ou.ae=p.ae:=by unfold Nod.ou;split<;>rfl
theorem NOk.nS(h:NOk n p)(d:i<5){ls:List Let}(c:ls.length+Av p.bn<90000000)(b:∀ m∈ls,LOk m) :
  NOk n (p.nS i ls).1/\(∀ m∈(p.nS i ls).2,LOk m)/\(p.nS i ls).2.length+Av (p.nS i ls).1.bn<=ls.length+Av p.bn/\Gd i p.bn { p.ou with bn:=[] } ls:=by
 have a:=W6 d p.bn { p.ou with bn:=[] } ls h.ou (λq e=>by show POk p.ou.ae.length q;rw[S5];exact h.pe q e) c b;unfold Nod.nS;split
 .exact⟨h,b,A' _,a.2.2.2.2⟩
 .exact⟨a.1,a.2.2.1,by rw[a.2.1];exact a.2.2.2.1,a.2.2.2.2⟩
theorem VO(b:Bal)(f:Cmd->Option Bal)(l:List Cmd):(CP b f l).1.length<=l.length:=by
 induction l generalizing f with
 | nil=>exact A' _
 | cons c l ih =>
  rw[CP];split
  .have:=ih (Ez f c (some b));simp only[ke];omega
  .have:=ih f;simp only[ke];omega
theorem TV(b:Bal)(f:Cmd->Option Bal)(l:List Cmd)(c:Cmd)(h:((CP b f l).2 c).isSome=true):(f c).isSome=true\/c∈l:=by
 induction l generalizing f with
 | nil=>exact .inl h
 | cons d l ih =>
  rw[CP]at h
  split at h
  .rcases ih _ h with h1|h1
   .unfold Ez at h1;split at h1
    .rename_i e;exact .inr (e▸P')
    .exact .inl h1
   .exact .inr (O' _ h1)
  .rcases ih _ h with h1|h1
   .exact .inl h1
   .exact .inr (O' _ h1)
theorem NOk.asks(h:NOk n p):NOk n { p with bw:=(CP p.vo.p p.bw (p.an.take 40)).2 } :=
 { h with ask:=λc a=>(TV _ _ _ c a).elim (h.ask c) jU }
theorem NOk.nr(h:NOk n p)(c:i<5):NOk n (p.nr i).1/\(p.nr i).1.bn=p.bn/\(p.nr i).1.ae=p.ae/\(∀ m∈(p.nr i).2,LOk m)/\(p.nr i).2.length<=1:=by
 have b:(CP p.vo.p p.bw (p.an.take 40)).1.length<=40:=jG (VO _ _ _) (by rw[X'];omega);unfold Nod.nr;split
 .exact⟨h.asks,rfl,rfl,λm a=>(by cases a),j' _⟩
 .split
  .have:=h.asks.eo (CP p.vo.p p.bw (p.an.take 40)).1;exact⟨this.1,this.2.1,this.2.2,λm a=>(by cases a),j' _⟩
  .have hr:=h.vp.pS;refine⟨h.asks,rfl,rfl,λm a=>?_,A' _⟩;rw[G'.1 a];exact⟨by show 6<7;decide,c,by show p.vo.p.n.toNat<5;omega,At.b0,BC.nil,b,λh=>by cases h⟩
theorem NOk.dT(h:NOk n p):NOk n p.dT/\Av p.dT.bn<=Av p.bn+4/\p.dT.ae=p.ae:=by
 unfold Nod.dT;split
 .exact⟨h,by omega,rfl⟩
 .split
  .exact⟨h,by omega,rfl⟩
  .rename_i c _
   split
   .exact⟨h,by omega,rfl⟩
   .have hv:=h.bN ⟨(p.ae.length:Int),p.br.fv,c⟩;have a:NOk n { (p.bN ⟨(p.ae.length:Int),p.br.fv,c⟩).1 with br:={ p.br with next:=p.ae.length+1 } }:={ hv.1 with qu:=h.qu,he:=h.he };refine⟨a.wait trivial,?_,hv.2.2.1⟩;show Av ((p.bN ⟨(p.ae.length:Int),p.br.fv,c⟩).1.bn++[_])<=_;rw[Fi,hv.2.1];exact A' _
theorem NOk.cl(h:NOk n p)(e:i<5)(a:List Let)(d:∀ m∈a,LOk m):NOk n (p.cl i a).1/\(p.cl i a).1.bn=p.bn/\(∀ m∈(p.cl i a).2,LOk m)/\(p.cl i a).2.length<=a.length+5:=by
 have g:=h.ag;have f:∀ k,k<=5->∀ m∈Dv p i k,LOk m:=by
  intro k;induction k with
  | zero=>exact λ_ m b=>by cases b
  | succ k ih =>
   intro j m b;rw[Dv]at b
   rcases Q'.1 b with h1|h1
   .exact ih (by omega) m h1
   .split at h1
    .rename_i c
     have c:=kr c;rw[G'.1 h1];exact⟨by show 5<7;decide,e,by show k<5;omega,At.b0,BC.nil,by show(p.ae.drop _).length<=40;rw[jL];omega,λ_=>by show p.br.cl k+(p.ae.drop _).length<=40;rw[jL];omega⟩
    .cases h1
 unfold Nod.cl;split
 .refine⟨{ h with qu:=h.qu,he:=h.he },rfl,λm b=>?_,by show(a++Dv p i 5).length<=_;rw[M'];have:=T6 p i 5;omega⟩;rcases Q'.1 b with h1|h1
  .exact d m h1
  .exact f 5 (A' _) m h1
 .exact⟨h,rfl,d,nE _ _⟩
theorem NOk.hZ(h:NOk n p)(c:Cmd):NOk n (p.hZ c)/\(p.hZ c).an.length+(if(p.bw c).isSome=true then 1 else 0)<=p.an.length:=by
 unfold Nod.hZ;split
 .rename_i h1
  have b:=h.ask c h1;have e:(p.an.erase c).length=p.an.length-1:=List.length_erase_of_mem b;have f:0<p.an.length:=List.length_pos_of_mem b;refine⟨{ h with wa:=?_,ask:=λd a=>?_ },by show(p.an.erase c).length+1<=_;omega⟩
  .show(p.an.erase c).length<=n;have:=h.wa;omega
  .unfold Ez at a;simp only at a;split at a
   .cases a
   .rename_i hne;exact(List.mem_erase_of_ne hne).2 (h.ask d a)
 .exact⟨h,A' _⟩
theorem FX(p:Nod)(c:Cmd):(p.hZ c).up=p.up/\(p.hZ c).bn=p.bn/\(p.hZ c).ae=p.ae/\(p.hZ c).done=p.done/\(p.hZ c).lr=p.lr:=by
 unfold Nod.hZ;split<;>exact⟨rfl,rfl,rfl,rfl,rfl⟩
theorem Wv(i:Nat)(l:List Cmd)(p:Nod)(a:List Tol)(h:NOk n p)(j:p.done+l.length<=p.ae.length) :
  NOk n (oq i l p a).1/\(oq i l p a).1.bn=p.bn/\(oq i l p a).1.ae=p.ae/\(oq i l p a).2.length+(oq i l p a).1.an.length<=a.length+p.an.length:=by
 induction l generalizing p a with
 | nil=>exact⟨h,rfl,rfl,A' _⟩
 | cons c l ih =>
  rw[oq];split
  .exact⟨h,rfl,rfl,A' _⟩
  .rw[ke]at j
   have g:NOk n { p with lr:=doS p.lr c,done:=p.done+1 }:={ h with dn:=by show p.done+1<=p.ae.length;omega };have e:=g.hZ c;have b:=FX { p with lr:=doS p.lr c,done:=p.done+1 } c;obtain⟨k,m,o,q⟩:=ih (Nod.hZ { p with lr:=doS p.lr c,done:=p.done+1 } c) (if(p.bw c).isSome=true then a++[⟨i,c.c,c.s,doC p.lr c,doA p.lr c⟩]else a) e.1 (by rw[b.2.2.2.1,b.2.2.1];show p.done+1+l.length<=p.ae.length;omega);refine⟨k,m.trans b.2.1,o.trans b.2.2.1,jG q ?_⟩;have d:=e.2;simp only at d;by_cases f:(p.bw c).isSome=true
   .rw[if_pos f]at d ⊢
    rw[M'];show a.length+1+_<=_;omega
   .rw[if_neg f]at d ⊢;omega
theorem NOk.piece(h:NOk n p)(f:i<5){ls:List Let}{ts:List Tol}(r:ls.length+Av p.bn<80000000)(k:∀ m∈ls,LOk m) :
  NOk n (p.piece i ls ts).1/\(∀ m∈(p.piece i ls ts).2.1,LOk m)/\(p.piece i ls ts).2.1.length+Av (p.piece i ls ts).1.bn<=ls.length+Av p.bn+10/\(p.piece i ls ts).2.2.length+(oq i (p.ae.drop p.done) p ts).1.an.length<=ts.length+p.an.length:=by
 have b:=Wv i (p.ae.drop p.done) p ts h (by rw[jL];have:=h.dn;omega);have a:=b.1.nr f;have d:=a.1.dT;have e:=d.1.nS f (ls:=ls++((oq i (p.ae.drop p.done) p ts).1.nr i).2) (by rw[M'];have:=d.2.1;have:=a.2.2.2.2;rw[a.2.1,b.2.1]at *;omega) (λm l=>by
  rcases Q'.1 l with h|h
  .exact k m h
  .exact a.2.2.2.1 m h)
 have c:=e.1.cl f _ e.2.1;refine⟨c.1,c.2.2.1,?_,b.2.2.2⟩;have o:=c.2.2.2;have g:=e.2.2.1;have j:=d.2.1;have q:=a.2.2.2.2;rw[a.2.1,b.2.1]at j
 rw[M']at g
 show(Nod.cl _ i _).2.length+Av (Nod.cl _ i _).1.bn<=_;rw[c.2.1];omega
end
end
section
open Go.RowKit
theorem S8{g:Gh}{w:World}(L:∀ b,w.heap.size<=b->g.t b=.z/\g.k b=0) :
  Calls prog 23 #[] w λe w'=>∃ (b:Nat) (g':Gh),e=.returned (.map (some b))/\TkAt g' w' b 7/\I4 g' w'/\Cg w.heap.size [.n 70 0] g w g' w':=by
 refine gI (fn:=f23) [.n 70 0] g func23 L (qR [] 6 [] λW T X c1=>ij 0 (by kernel_rfl) (by kernel_rfl) ?_);intro a U Y M v q V;have F:=q w.heap.size [];refine GQ 1 (b:=a) v (by decide) (by kernel_rfl) (by kernel_rfl) (by kernel_rfl) ?_;intro Z x r;have G:=r w.heap.size [.n 70 0] (G'.2 rfl);refine GQ 2 (b:=a) x (by decide) (by kernel_rfl) (by kernel_rfl) (by kernel_rfl) ?_;intro w6 y s;have H:=s w.heap.size [.n 70 0] (G'.2 rfl);refine GQ 3 (b:=a) y (by decide) (by kernel_rfl) (by kernel_rfl) (by kernel_rfl) ?_;intro w8 A u;have I:=u w.heap.size [.n 70 0] (G'.2 rfl);refine GQ 4 (b:=a) A (by decide) (by kernel_rfl) (by kernel_rfl) (by kernel_rfl) ?_;intro O B d;have l:=d w.heap.size [.n 70 0] (G'.2 rfl);refine GQ 5 (b:=a) B (by decide) (by kernel_rfl) (by kernel_rfl) (by kernel_rfl) ?_;intro P C h;have m:=h w.heap.size [.n 70 0] (G'.2 rfl);refine GQ 6 (b:=a) C (by decide) (by kernel_rfl) (by kernel_rfl) (by kernel_rfl) ?_;intro Q D i;have o:=i w.heap.size [.n 70 0] (G'.2 rfl);refine GQ 7 (b:=a) D (by decide) (by kernel_rfl) (by kernel_rfl) (by kernel_rfl) ?_;intro R E j;have p:=j w.heap.size [.n 70 0] (G'.2 rfl);refine qR [] 3 [] λN J S c=>qE (.map (some a)) λK=>⟨a,_,rfl,(E.ch c),K.new,((((((((((c1.nil [.n 70 0]).n F).trans G).trans H).trans I).trans l).trans m).trans o).trans p).n c)⟩
theorem KF{g:Gh}{w:World}{p q A:Nat}{v:Nat->Nat}{M:Meet}(h:MS p q A v g w M){w0:World}(hB:Base w0 g w)(hT:Tabs w0)(y:Nat)(l:Let)(hl:Cx g w y l)(I:LOk l){n:Nat}(s:NOk n (M.af l.dst))(u:(M.af l.dst).bn.length<100000000) :
  Calls prog 69 #[pt p 0,pt y 0] w (MP p q A v g w (.tuple #[]) (M.nQ l)):=by
 have m:=hl;obtain⟨P,src,dst,C,bN,i,o,c⟩:=l;have hs:src<5:=I.src;have j:dst<5:=I.dst;have a8:P<7:=I.kd;have b7:c.length<=40:=I.wh;simp only at s u;obtain⟨x,hN⟩:=h.af dst j;have b6:=s.ag;refine gI (fn:=f69) TM g func69 h.new (BU ⟨p,_,.z,false⟩ (λ_=>⟨h.box.r,h.box.z,λh=>(by cases h),λh=>absurd rfl h⟩) (by kernel_rfl) ?_);obtain⟨vs,wh,a9,d3,d4⟩:=hl;refine BU ⟨y,.cells (EX (Let.mk P src dst C bN i o c) vs wh) 150,.z,false⟩ (λ_=>⟨a9.r,a9.z,λh=>(by cases h),λh=>absurd rfl h⟩) (by kernel_rfl) ?_;refine qR [] 9 [10,0,2,4,6,8,1,10,12] λs1 g1 w1 c1=>?_;refine Pv 7 (pt p dst) false (λW hW=>(by rcases nT j with rfl|rfl|rfl|rfl|rfl<;>kernel_rfl)) (by kernel_rfl) ?_;refine qU 8 (pt (v dst) 0) (λW hW=>(BX underlying83 rfl (Tn (AN.at (hW rfl) 0 p (.cells (mtA v A q) 86) .z (by kernel_rfl)) j))) (qR [] 7 [18] λs3 g3 w3 a=>?_);have b5:=hN.ch (c1.trans a);refine qN b5 (qR [] 2 [2] λs4 g4 w4 b=>?_);by_cases h1:(M.af dst).up=true
 .refine qI ((M.af dst).up) true h1 ?_;have L:=h.tk.ch ((c1.trans a).trans b) (by simp);refine Hv q _ 70 0 L.row L.t L.k (by kernel_rfl) ?_;rw[show M.nQ (Let.mk P src dst C bN i o c)=M.set dst ((M.af dst).take (Let.mk P src dst C bN i o c)) M.bt M.cF from if_pos h1];refine qR [] 9 [11,0,2,4,6,0,8,10,12,14,1] λs5 g5 w5 d=>qU 8 (tkV P) (λW hW=>(rTk (AN.at (hW rfl) 3 q (.map (tkL 7).toArray 7) (.n 70 0) (by kernel_rfl)) a8)) (qR [] 2 [18,20] λs6 J N e=>?_);rcases Y5 a8 with rfl|rfl|rfl|rfl|rfl|rfl|rfl
  .refine Ae λK=>?_;have N7:MS p q A v J N M:=(h.nW ((((c1.trans a).trans b).trans d).trans e) K.new);refine qG 11 TM [true,true,false,false] ((N7).call j (Ix ((N7).ns j) (hB.ch (((((c1.nil TM).n a).n b).n d).n e) EO) hT y _ (m.ch ((((c1.trans a).trans b).trans d).trans e) (by simp)) rfl u)) ?_;rintro O w7 ⟨g7,rfl,M7,c7⟩;refine⟨_,g7,rfl,c7,M7.new,?_⟩;replace c7:=c7.ret (B:=w.heap.size);refine qR [] 1 [] λs8 g8 w8 c8=>qE (.tuple #[]) λK=>⟨_,rfl,(M7.nW c8 K.new),(((((((c1.nil TM).n a).n b).n d).n e).trans (c7)).n c8)⟩
  .refine Ae λK=>?_;have N9:MS p q A v J N M:=(h.nW ((((c1.trans a).trans b).trans d).trans e) K.new);refine qG 11 TM [true,true,false,false] ((N9).call j (Ka ((N9).ns j) (hB.ch (((((c1.nil TM).n a).n b).n d).n e) EO) hT y _ (m.ch ((((c1.trans a).trans b).trans d).trans e) (by simp)) rfl hs (by show((M.af dst).ae++c.drop ((M.af dst).ae.length-0)).length<=40;rw[M',jL];omega) b7 (nc (s.he src).len (by decide)))) ?_;rintro O w9 ⟨g9,rfl,M9,c9⟩;refine⟨_,g9,rfl,c9,M9.new,?_⟩;replace c9:=c9.ret (B:=w.heap.size);refine qR [] 1 [] λd5 b8 e2 a1=>qE (.tuple #[]) λK=>⟨_,rfl,(M9.nW a1 K.new),(((((((c1.nil TM).n a).n b).n d).n e).trans (c9)).n a1)⟩
  .refine Ae λK=>?_;have V:MS p q A v J N M:=(h.nW ((((c1.trans a).trans b).trans d).trans e) K.new);refine qG 11 TM [true,true,false,false] ((V).call j (Kb ((V).ns j) y _ (m.ch ((((c1.trans a).trans b).trans d).trans e) (by simp)))) ?_;rintro O e3 ⟨b0,rfl,Q,D⟩;refine⟨_,b0,rfl,D,Q.new,?_⟩;replace D:=D.ret (B:=w.heap.size);refine qR [] 1 [] λd6 b9 e4 a2=>qE (.tuple #[]) λK=>⟨_,rfl,(Q.nW a2 K.new),(((((((c1.nil TM).n a).n b).n d).n e).trans (D)).n a2)⟩
  .refine Ae λK=>?_;have X:MS p q A v J N M:=(h.nW ((((c1.trans a).trans b).trans d).trans e) K.new);refine qG 11 TM [true,true,false,false] ((X).call j (Jd ((X).ns j) (hB.ch (((((c1.nil TM).n a).n b).n d).n e) EO) hT y _ (m.ch ((((c1.trans a).trans b).trans d).trans e) (by simp)) rfl u (by have:=s.vs.len;omega))) ?_;rintro O e5 ⟨b1,rfl,R,E⟩;refine⟨_,b1,rfl,E,R.new,?_⟩;replace E:=E.ret (B:=w.heap.size);refine qR [] 1 [] λd7 c0 e6 a3=>qE (.tuple #[]) λK=>⟨_,rfl,(R.nW a3 K.new),(((((((c1.nil TM).n a).n b).n d).n e).trans (E)).n a3)⟩
  .refine Ae λK=>?_;have Y:MS p q A v J N M:=(h.nW ((((c1.trans a).trans b).trans d).trans e) K.new);refine qG 11 TM [true,true,false,false] ((Y).call j (OC ((Y).ns j) (hB.ch (((((c1.nil TM).n a).n b).n d).n e) EO) hT y _ (m.ch ((((c1.trans a).trans b).trans d).trans e) (by simp)) hs b6)) ?_;rintro O e7 ⟨b2,rfl,S,F⟩;refine⟨_,b2,rfl,F,S.new,?_⟩;replace F:=F.ret (B:=w.heap.size);refine qR [] 1 [] λd8 c2 e8 a4=>qE (.tuple #[]) λK=>⟨_,rfl,(S.nW a4 K.new),(((((((c1.nil TM).n a).n b).n d).n e).trans (F)).n a4)⟩
  .refine Ae λK=>?_;have Z:MS p q A v J N M:=(h.nW ((((c1.trans a).trans b).trans d).trans e) K.new);refine qG 11 TM [true,true,false,false] ((Z).call j (OB ((Z).ns j) y _ (m.ch ((((c1.trans a).trans b).trans d).trans e) (by simp)) rfl u (by omega) (by show c.length<_;omega))) ?_;rintro O e9 ⟨b3,rfl,T,G⟩;refine⟨_,b3,rfl,G,T.new,?_⟩;replace G:=G.ret (B:=w.heap.size);refine qR [] 1 [] λd9 d0 f0 a5=>qE (.tuple #[]) λK=>⟨_,rfl,(T.nW a5 K.new),(((((((c1.nil TM).n a).n b).n d).n e).trans (G)).n a5)⟩
  .refine Ae λK=>?_;have a0:MS p q A v J N M:=(h.nW ((((c1.trans a).trans b).trans d).trans e) K.new);refine qG 11 TM [true,true,false,false] ((a0).call j (LQ ((a0).ns j) y _ (m.ch ((((c1.trans a).trans b).trans d).trans e) (by simp)) rfl u (by show c.length<_;omega) s.qu)) ?_;rintro O f1 ⟨b4,rfl,U,H⟩;refine⟨_,b4,rfl,H,U.new,?_⟩;replace H:=H.ret (B:=w.heap.size);refine qR [] 1 [] λe0 d1 f2 a6=>qE (.tuple #[]) λK=>⟨_,rfl,(U.nW a6 K.new),(((((((c1.nil TM).n a).n b).n d).n e).trans (H)).n a6)⟩
 .refine qI ((M.af dst).up) false (by simpa using h1) (qR [] 1 [] λe1 d2 f3 a7=>qE (.tuple #[]) λK=>?_);rw[show M.nQ (Let.mk P src dst C bN i o c)=M from if_neg h1];exact⟨_,rfl,(h.nW (((c1.trans a).trans b).trans a7) K.new),((((c1.nil TM).n a).n b).n a7)⟩
section
variable{P:Program}{B:Nat}{T:List Tg}{g:Gh}{w:World}
section
variable{x:S3}{xs:List Value}{τ:Tg}
theorem OwnS.pq{e:TypeId}{d:Nat}(h:OwnS g w τ false e d x xs){k:Nat}(f:k<=x.n)(i:0<x.n):OwnS g w τ false e d ⟨x.a,k,x.c⟩ (xs.take (k*d)):=by
 have l:=h.len;have j:k*d<=x.n*d:=lR _ f;refine⟨by rw[X'];show min _ _=k*d;omega,?_⟩;rcases h.ex with⟨h1,h2,h3⟩|⟨b,cur,h1,h2,h3,h4,h5,h6,h7,h8⟩
 .omega
 .refine .inr ⟨b,cur,h1,h2,jG f h3,h4,h5,?_,h7,h8⟩;show cur.toList.take (k*d)=xs.take (k*d);rw[<- h6,lO,kQ j]
theorem gN(t A e:TypeId)(i:TypeInfo)(I:P.underlying t=some (.slice e))(E:P.info? e=some i)(s:τ∈T)(z:OwnS g w τ false e i.size x xs)(a:Addr)(m c:Nat)(news:List Value)(G:0<x.c)(r:news.length=m*i.size)(l:∀ j u,news[j]?=some u->w.cell? (a.add j)=some u)(C:∀ u∈news,u.oneCell'=true)(f:x.n+m<=x.c) :
  ∃ w',(Builtin.append_ #[t,t] A #[x.v,.slice (some a) m c]).run P w=.ok (S3.v ⟨x.a,x.n+m,x.c⟩) w'/\OwnS g w' τ false e i.size ⟨x.a,x.n+m,x.c⟩ (xs++news)/\Cg B T g w g w'/\w'.heap.size=w.heap.size:=by
 obtain⟨K,y,J⟩:=x;have h:(xs++news).length=(y+m)*i.size:=by rw[M',z.len,r,mJ]
 rcases z.ex with⟨h2,h3,h4⟩|⟨b,cur,h2,h3,h4,h5,h6,h7,h8,h9⟩
 .simp only at h4 f G;omega
 .simp only at h2 h4 h5 h6 h7 f;subst h2;have p:y*i.size+news.length<=cur.size:=by rw[r,h6,<- mJ];exact lR _ f
  have H:=run_append_room (P:=P) w t A e i I E b y J cur h3 a m c news r l C f p;have o:g.k b=0:=by simpa using h9
  refine⟨_,H,⟨h,.inr ⟨b,_,rfl,setRow_heap w b cur _ e _ h3,f,h5,?_,?_,h8,by rw[o];rfl⟩⟩,⟨rfl,rfl,rfl,by simp,λ_ _=>.inl rfl,λ_ _=>A' _,λ_ _ _ _=>rfl,λd D q _=>setRow_other w b d _ (λe=>q (by rw[e,h8];exact s)),λd D j F=>?_⟩,by simp⟩
  .simp only[lS,M',X',jL,lf];omega
  .rw[h7,<- h];exact nh
  .exact World.cell?_of_block (w:=w) (setRow_other w b d _ (λe=>by rw[e,o]at F;omega))
theorem gU(t J e:TypeId)(z:Value)(f:Nat)(H:P.underlying t=some (.slice e))(I:∀ w,(zeroValue e).run P w=.ok z w)(r:z.cells.size=f)(A:0<f)(C:∀ j,j<f->(z.cells[j]!).oneCell'=true)(D:τ∈T)(E:OwnS g w τ false e f x xs){b:Nat}(s:x.a=some ⟨b,0,none⟩)(k c:Nat)(K:0<k)(i:x.n+k<=x.c) :
  ∃ w',(Builtin.clear_ #[t] J #[.slice (some ⟨b,x.n*f,none⟩) k c]).run P w=.ok (.tuple #[]) w'/\OwnS g w' τ false e f x xs/\Cg B T g w g w'/\w'.heap.size=w.heap.size:=by
 rcases E.ex with⟨h2,h3,h4⟩|⟨b',cur,h2,h3,h4,h5,h6,h7,h8,h9⟩
 .rw[h2]at s;cases s
 .rw[s]at h2
  simp only[V',Addr.mk.injEq,and_true]at h2;subst h2;have u:g.k b=0:=by simpa using h9
  have l:(Builtin.zeroCells z.cells k).toList.length=k*f:=by rw[lf,size_zeroCells,r]
  have h:x.n*f+0+(Builtin.zeroCells z.cells k).toList.length<=cur.size:=by rw[l,h6,lU,<- mJ];exact lR _ i
  have o:∀ v∈(Builtin.zeroCells z.cells k).toList,v.oneCell'=true:=by
   intro v q;simp only[Builtin.zeroCells,Array.toList_map,kn]at q;obtain⟨j,_,rfl⟩:=q;exact C _ (by rw[r];exact Nat.mod_lt _ A)
  have p:=run_storeCells_at (P:=P) b (x.n*f) e (Builtin.zeroCells z.cells k).toList 0 cur w h3 h o;simp only[lU]at p;obtain⟨m,rfl⟩:∃ m,k=m+1:=⟨k-1,by omega⟩;refine⟨_,by simp only[Builtin.clear_,ky,kY,Sem.run_bind,run_underlying H,Result.andThen_ok,I,p];rfl,⟨E.len,.inr ⟨b,_,s,setRow_heap w b cur _ e _ h3,h4,h5,?_,?_,h8,h9⟩⟩,⟨rfl,rfl,rfl,by simp,λ_ _=>.inl rfl,λ_ _=>A' _,λ_ _ _ _=>rfl,λd F y _=>setRow_other w b d _ (λe=>y (by rw[e,h8];exact D)),λd F j G=>?_⟩,by simp⟩
  .rw[l]at h ⊢
   simp only[lS,M',X',jL,lf,l];simp only[lU]at h;omega
  .have hle:x.n*f<=cur.toList.length:=by rw[lf,h6];exact lR _ h4
   show(cur.toList.take (x.n*f)++_++_).take (x.n*f)=xs;rw[jI,kg (by rw[X'];omega),lO,Nat.min_self,h7]
  .exact World.cell?_of_block (w:=w) (setRow_other w b d _ (λe=>by rw[e,u]at G;omega))
end
end
section
variable{fn:Func}{R:Ending->World->Prop}{B:Nat}{T:List Tg}{g:Gh}{w W:World}
section
theorem JE(b o k:Nat):(⟨b,o,none⟩:Addr).add k=⟨b,o+k,none⟩:=by
 unfold Addr.add;split
 .rename_i h;simp[]
 .rfl
theorem j3(b n c l h m:Nat)(a:l<=h)(d:h<=m)(e:m<=c)(f:l<m):(Instr.sliceAt 34 (.slice (some ⟨b,0,none⟩) n c) (some (iv (l:Int))) (some (iv (h:Int))) (some (iv (m:Int)))).run prog W=.ok (.slice (some ⟨b,l*5,none⟩) (h-l) (m-l)) W:=by
 rw[run_sliceAt_slice _ _ _ _ _ _ unC,run_slice_lhm (P:=prog) (w:=W) _ _ _ _ unC .i64 .i64 .i64 l h m (by omega) (by omega) (by omega) (by omega),sz5];simp[Result.andThen,sliced,JE];omega
theorem j2(b n c l h:Nat)(a:l<=h)(d:h<=c)(e:l<c):(Instr.sliceAt 34 (.slice (some ⟨b,0,none⟩) n c) (some (iv (l:Int))) (some (iv (h:Int))) none).run prog W=.ok (.slice (some ⟨b,l*5,none⟩) (h-l) (c-l)) W:=by
 rw[run_sliceAt_slice _ _ _ _ _ _ unC,run_slice_lh (P:=prog) (w:=W) _ _ _ _ unC .i64 .i64 l h (by omega) (by omega) (by omega),sz5];simp[Result.andThen,sliced,JE];omega
theorem j4(b n c h:Nat)(a:h<=c):(Instr.sliceAt 34 (.slice (some ⟨b,0,none⟩) n c) none (some (iv (h:Int))) none).run prog W=.ok (.slice (some ⟨b,0,none⟩) h c) W:=by
 rw[run_sliceAt_slice _ _ _ _ _ _ unC,run_slice_h (P:=prog) (w:=W) _ _ _ _ unC .i64 h (by omega) (by omega),sz5];simp[Result.andThen,sliced,JE]
theorem j5(b n c l:Nat)(a:l<=n):(Instr.sliceAt 34 (.slice (some ⟨b,0,none⟩) n c) (some (iv (l:Int))) none none).run prog W=.ok (.slice (some ⟨b,if c=l then 0 else l*5,none⟩) (n-l) (c-l)) W:=by
 rw[run_sliceAt_slice _ _ _ _ _ _ unC,run_slice_l (P:=prog) (w:=W) _ _ _ _ unC .i64 l (by omega) (by omega),sz5];simp[Result.andThen,sliced,JE];split<;>simp
variable{s:Xs}
theorem ia(p:Nat){τ:Tg}{x:S3}{J:List Value}(I:TypeId)(a:Addr)(m c:Nat)(news:List Value)(W:OwnS g w τ false 47 5 x J)(e:Dd s p=some (Builtin.append_ #[34,34] I #[x.v,.slice (some a) m c]>>=λv=>pure (.value v)))(A:(nxt s p undef s.L).o.map Ob.l'=(nxt s p undef s.L).o.map Ob.r')(r:s.L.all (λy=>[τ].all λt=>y.t.ne t)=true)(S:0<x.c)(Q:news.length=m*5)(K:∀ u∈news,u.oneCell'=true)(f:∀ j u,news[j]?=some u->w.cell? (a.add j)=some u)(h:x.n+m<=x.c)(O:∀ w',OwnS g w' τ false 47 5 ⟨x.a,x.n+m,x.c⟩ (J++news)->(∀ B T,τ∈T->Cg B T g w g w')->w'.heap.size=w.heap.size->GG prog fn R B T (nxt s p (S3.v ⟨x.a,x.n+m,x.c⟩) s.L).s g w'):GG prog fn R B T s g w:=by
 refine JM p s.L A (BE e) λG X i o C=>?_;obtain⟨d,N,k⟩:∃ d,prog.info? 47=some d/\d.size=5:=by
  have q:(prog.info? 47).map (·.size)=some 5:=by kernel_rfl
  cases hh:prog.info? 47 with
  | none=>rw[hh]at q;cases q
  | some v=>rw[hh]at q;exact⟨v,rfl,by simpa using q⟩
 obtain⟨w',U,D,M,E⟩:=gN (P:=prog) (B:=w.heap.size) (T:=[τ]) 34 I 47 d underlying34 N (G'.2 rfl) (by rw[k];exact W) a m c news S (by rw[k];exact Q) f K h;rw[k]at D
 have F:∀ B T,τ∈T->Cg B T g w g w':=λB T r=>(M.ret (B:=B)).mono λt V=>by rw[G'.1 V];exact r
 refine⟨S3.v ⟨x.a,x.n+m,x.c⟩,w',g,.inl ?_,G.ch (F _ [τ] (G'.2 rfl)) (λb H=>G.new b (by rw[E]at H;exact H)) r,O w' D F E⟩;rw[CY e C,Sem.run_bind,U,Result.andThen_ok];rfl
theorem jm(w:World):(zeroValue 47).run prog w=.ok (.agg #[iv 0,iv 0,iv 0,iv 0,iv 0]) w:=by kernel_rfl
theorem jt(f:Nat){τ:Tg}{x:S3}{E:List Value}(D:TypeId){b:Nat}(h:x.a=some ⟨b,0,none⟩)(k c:Nat)(M:OwnS g w τ false 47 5 x E)(d:Dd s f=some (Builtin.clear_ #[34] D #[.slice (some ⟨b,x.n*5,none⟩) k c]>>=λv=>pure (.value v)))(q:(nxt s f undef s.L).o.map Ob.l'=(nxt s f undef s.L).o.map Ob.r')(m:s.L.all (λy=>[τ].all λt=>y.t.ne t)=true)(p:0<k)(e:x.n+k<=x.c)(I:∀ w',OwnS g w' τ false 47 5 x E->(∀ B T,τ∈T->Cg B T g w g w')->w'.heap.size=w.heap.size->GG prog fn R B T (nxt s f (.tuple #[]) s.L).s g w'):GG prog fn R B T s g w:=by
 refine JM f s.L q (BE d) λC N i o r=>?_;obtain⟨w',J,F,G,u⟩:=gU (P:=prog) (B:=w.heap.size) (T:=[τ]) 34 D 47 (.agg #[iv 0,iv 0,iv 0,iv 0,iv 0]) 5 underlying34 jm rfl (by decide) (λj H=>by rcases nT H with rfl|rfl|rfl|rfl|rfl<;>rfl) (G'.2 rfl) M h k c p e;have A:∀ B T,τ∈T->Cg B T g w g w':=λB T m=>(G.ret (B:=B)).mono λt K=>by rw[G'.1 K];exact m
 refine⟨.tuple #[],w',g,.inl ?_,C.ch (A _ [τ] (G'.2 rfl)) (λb h=>C.new b (by rw[u]at h;exact h)) m,I w' F A u⟩;rw[CY d r,Sem.run_bind,J,Result.andThen_ok];rfl
end
end
theorem sz1{W:World}:(Go.sizeOf (prog.elem 78)).run prog W=.ok 1 W:=by kernel_rfl
theorem unL:prog.underlying 78=some (.slice (prog.elem 78)):=by kernel_rfl
section
variable{fn:Func}{R:Ending->World->Prop}{B:Nat}{T:List Tg}{g:Gh}{w W:World}
section
theorem iK(b n c l h m:Nat)(a:l<=h)(d:h<=m)(e:m<=c)(f:l<m):(Instr.sliceAt 78 (.slice (some ⟨b,0,none⟩) n c) (some (iv (l:Int))) (some (iv (h:Int))) (some (iv (m:Int)))).run prog W=.ok (.slice (some ⟨b,l*1,none⟩) (h-l) (m-l)) W:=by
 rw[run_sliceAt_slice _ _ _ _ _ _ unL,run_slice_lhm (P:=prog) (w:=W) _ _ _ _ unL .i64 .i64 .i64 l h m (by omega) (by omega) (by omega) (by omega),sz1];simp[Result.andThen,sliced,JE];omega
theorem iJ(b n c l h:Nat)(a:l<=h)(d:h<=c)(e:l<c):(Instr.sliceAt 78 (.slice (some ⟨b,0,none⟩) n c) (some (iv (l:Int))) (some (iv (h:Int))) none).run prog W=.ok (.slice (some ⟨b,l*1,none⟩) (h-l) (c-l)) W:=by
 rw[run_sliceAt_slice _ _ _ _ _ _ unL,run_slice_lh (P:=prog) (w:=W) _ _ _ _ unL .i64 .i64 l h (by omega) (by omega) (by omega),sz1];simp[Result.andThen,sliced,JE];omega
theorem iM(b n c h:Nat)(a:h<=c):(Instr.sliceAt 78 (.slice (some ⟨b,0,none⟩) n c) none (some (iv (h:Int))) none).run prog W=.ok (.slice (some ⟨b,0,none⟩) h c) W:=by
 rw[run_sliceAt_slice _ _ _ _ _ _ unL,run_slice_h (P:=prog) (w:=W) _ _ _ _ unL .i64 h (by omega) (by omega),sz1];simp[Result.andThen,sliced,JE]
theorem iO(b n c l:Nat)(a:l<=n):(Instr.sliceAt 78 (.slice (some ⟨b,0,none⟩) n c) (some (iv (l:Int))) none none).run prog W=.ok (.slice (some ⟨b,if c=l then 0 else l*1,none⟩) (n-l) (c-l)) W:=by
 rw[run_sliceAt_slice _ _ _ _ _ _ unL,run_slice_l (P:=prog) (w:=W) _ _ _ _ unL .i64 l (by omega) (by omega),sz1];simp[Result.andThen,sliced,JE];split<;>simp
variable{s:Xs}
theorem eO(p:Nat){τ:Tg}{x:S3}{J:List Value}(I:TypeId)(a:Addr)(m c:Nat)(news:List Value)(W:OwnS g w τ false 151 1 x J)(e:Dd s p=some (Builtin.append_ #[78,78] I #[x.v,.slice (some a) m c]>>=λv=>pure (.value v)))(A:(nxt s p undef s.L).o.map Ob.l'=(nxt s p undef s.L).o.map Ob.r')(r:s.L.all (λy=>[τ].all λt=>y.t.ne t)=true)(S:0<x.c)(Q:news.length=m*1)(K:∀ u∈news,u.oneCell'=true)(f:∀ j u,news[j]?=some u->w.cell? (a.add j)=some u)(h:x.n+m<=x.c)(O:∀ w',OwnS g w' τ false 151 1 ⟨x.a,x.n+m,x.c⟩ (J++news)->(∀ B T,τ∈T->Cg B T g w g w')->w'.heap.size=w.heap.size->GG prog fn R B T (nxt s p (S3.v ⟨x.a,x.n+m,x.c⟩) s.L).s g w'):GG prog fn R B T s g w:=by
 refine JM p s.L A (BE e) λG X i o C=>?_;obtain⟨d,N,k⟩:∃ d,prog.info? 151=some d/\d.size=1:=by
  have q:(prog.info? 151).map (·.size)=some 1:=by kernel_rfl
  cases hh:prog.info? 151 with
  | none=>rw[hh]at q;cases q
  | some v=>rw[hh]at q;exact⟨v,rfl,by simpa using q⟩
 obtain⟨w',U,D,M,E⟩:=gN (P:=prog) (B:=w.heap.size) (T:=[τ]) 78 I 151 d underlying78 N (G'.2 rfl) (by rw[k];exact W) a m c news S (by rw[k];exact Q) f K h;rw[k]at D
 have F:∀ B T,τ∈T->Cg B T g w g w':=λB T r=>(M.ret (B:=B)).mono λt V=>by rw[G'.1 V];exact r
 refine⟨S3.v ⟨x.a,x.n+m,x.c⟩,w',g,.inl ?_,G.ch (F _ [τ] (G'.2 rfl)) (λb H=>G.new b (by rw[E]at H;exact H)) r,O w' D F E⟩;rw[CY e C,Sem.run_bind,U,Result.andThen_ok];rfl
theorem gx(w:World):(zeroValue 151).run prog w=.ok (.pointer none) w:=by kernel_rfl
theorem ib(f:Nat){τ:Tg}{x:S3}{F:List Value}(E:TypeId){b:Nat}(m:x.a=some ⟨b,0,none⟩)(k c:Nat)(N:OwnS g w τ false 151 1 x F)(d:Dd s f=some (Builtin.clear_ #[78] E #[.slice (some ⟨b,x.n*1,none⟩) k c]>>=λv=>pure (.value v)))(r:(nxt s f undef s.L).o.map Ob.l'=(nxt s f undef s.L).o.map Ob.r')(p:s.L.all (λy=>[τ].all λt=>y.t.ne t)=true)(q:0<k)(e:x.n+k<=x.c)(J:∀ w',OwnS g w' τ false 151 1 x F->(∀ B T,τ∈T->Cg B T g w g w')->w'.heap.size=w.heap.size->GG prog fn R B T (nxt s f (.tuple #[]) s.L).s g w'):GG prog fn R B T s g w:=by
 refine JM f s.L r (BE d) λD O i o u=>?_;obtain⟨w',K,G,H,A⟩:=gU (P:=prog) (B:=w.heap.size) (T:=[τ]) 78 E 151 (.pointer none) 1 underlying78 gx rfl (by decide) (λj I=>match j,I with|0,_=>rfl|j+1,h=>absurd h (by omega)) (G'.2 rfl) N m k c q e;have C:∀ B T,τ∈T->Cg B T g w g w':=λB T p=>(H.ret (B:=B)).mono λt M=>by rw[G'.1 M];exact p
 refine⟨.tuple #[],w',g,.inl ?_,D.ch (C _ [τ] (G'.2 rfl)) (λb m=>D.new b (by rw[A]at m;exact m)) p,J w' G C A⟩;rw[CY d u,Sem.run_bind,K,Result.andThen_ok];rfl
end
end
theorem Pi{g:Gh}{w:World}{b n c:Nat}{l:List Nat}(o:OwnS g w (.n 51 0) false 151 1 ⟨some ⟨b,0,none⟩,n,c⟩ (l.map (pt · 0)))(J:∀ b,w.heap.size<=b->g.t b=.z/\g.k b=0)(j:Nat)(Y:j<l.length)(W:l.length<100000000) :
  Calls prog 68 #[.slice (some ⟨b,0,none⟩) n c,iv (j:Int),iv ((j+1:Nat):Int)] w λe w'=>∃ (x':S3) (g':Gh),e=.returned x'.v/\OwnS g' w' (.n 51 0) false 151 1 x' ((l.eraseIdx j).map (pt · 0))/\(∀ b,w'.heap.size<=b->g'.t b=.z/\g'.k b=0)/\Cg w.heap.size [.n 51 0] g w g' w':=by
 have Z:n=l.length:=by have:=o.len;simp at this;omega
 have X:n<=c:=by rcases o.ex with⟨h,_⟩|⟨_,_,_,_,h,_⟩;cases h;exact h
 refine gI (fn:=f68) [.n 51 0] g func68 J (qR [] 11 [] λs1 R w1 c1=>qV 5 (.slice (some ⟨b,j*1,none⟩) (j+1-j) (n-j)) (iK b n c j (j+1) n (by omega) (by omega) (by omega) (by omega)) (qR [] 8 [] λs2 S w2 y=>qI (((j:Int)==((j+1:Nat):Int))) false (by simp;omega) (qR [] 11 [8,0,2] λs3 T w3 A=>qT 2 (.slice (some ⟨b,0,none⟩) j c) (λ_=>(iM b n c j (by omega))) (qR [] 2 [6,8] λs4 U w4 B=>qT 5 (.slice (some ⟨b,if c=j+1 then 0 else(j+1)*1,none⟩) (n-(j+1)) (c-(j+1))) (λ_=>(iO b n c (j+1) (by omega))) ?_))));have d:=o.ch (((c1.trans y).trans A).trans B) (by simp) (by simp);have p:=d.pq (k:=j) (by show j<=n;omega) (by show 0<n;omega);refine eO 6 (x:=⟨some ⟨b,0,none⟩,j,c⟩) 78 ⟨b,if c=j+1 then 0 else(j+1)*1,none⟩ (n-(j+1)) (c-(j+1)) ((l.drop (j+1)).map (pt · 0)) p (by kernel_rfl) (by kernel_rfl) (by kernel_rfl) (by show 0<c;omega) (by simp;omega) (by intro u L;obtain⟨q,_,rfl⟩:=kn.1 L;rfl) (λq u r=>?_) (by show j+(n-(j+1))<=c;omega) ?_
 .have hlt:j+1<l.length:=by have h:=(U'.1 r).1;simp at h;omega
  rw[if_neg (by omega),JE];rw[List.map_drop,kA]at r
  obtain⟨Q,D,_,I⟩:=d.cell r;simp only[V',Addr.mk.injEq,and_true]at D;subst D;rw[show(j+1)*1+q=j+1+q by omega];exact I
 intro w6 s i M;have F:=i w.heap.size [.n 51 0] (G'.2 rfl);rw[show(l.map (pt · 0)).take (j*1)++(l.drop (j+1)).map (pt · 0)=(l.eraseIdx j).map (pt · 0)from by rw[Nat.mul_one,<- mZ,<- jW,mL]]at s
 refine qR [] 8 [14] λs7 V w7 C=>qV 4 (.slice (some ⟨b,(j+(n-(j+1)))*1,none⟩) (n-(j+(n-(j+1)))) (c-(j+(n-(j+1))))) (iJ b (j+(n-(j+1))) c (j+(n-(j+1))) n (by omega) (by omega) (by omega)) (ib 5 (x:=⟨some ⟨b,0,none⟩,(j+(n-(j+1))),c⟩) (b:=b) 0 rfl (n-(j+(n-(j+1)))) (c-(j+(n-(j+1)))) (s.ch C) (by kernel_rfl) (by kernel_rfl) (by kernel_rfl) (by omega) (by show(j+(n-(j+1)))+(n-(j+(n-(j+1))))<=c;omega) ?_);intro w9 E m N;have G:=m w.heap.size [.n 51 0] (G'.2 rfl);refine qR [] 6 [] λO H P a=>qE (S3.v ⟨some ⟨b,0,none⟩,(j+(n-(j+1))),c⟩) λK=>⟨_,_,rfl,(E.ch a),K.new,((((((((c1.nil [.n 51 0]).n y).n A).n B).trans F).n C).trans G).n a)⟩
end
section
section
variable{M:Meet}{k m n:Nat}{p:Nod}
theorem NOk.mono(h:NOk n p)(a:n<=m):NOk m p:={ h with wa:=jG h.wa a }
theorem NOk.zero(n:Nat):NOk n Dc:=⟨j' _,A' _,j' _,j' _,λc h=>(by cases h),⟨kH _,by decide⟩,At.b0,BC.nil,λ_=>BC.nil,λq h=>(by cases h)⟩
theorem NOk.bare(n:Nat)(p:Nod)(up:Bool)(d:List Int)(g:Int){a:Acc}(b:At a.p)(e:BC a.vs)(l:List Pend)(f:∀ q∈l,POk 0 q):NOk n (p.bare up d g a l):=⟨j' _,A' _,j' _,j' _,λc h=>(by cases h),⟨kH _,by show(0:Int)<=65536;decide⟩,b,e,λ_=>BC.nil,f⟩
theorem NOk.lp(h:NOk n p)(k:Int):NOk n (p.lp k)/\Av (p.lp k).bn<=Av p.bn/\(p.lp k).an.length<=p.an.length/\(p.lp k).bad=p.bad:=by
 unfold Nod.lp;split
 .exact⟨h,A' _,A' _,rfl⟩
 .exact⟨NOk.bare n p _ _ _ At.b0 BC.nil [] (λq a=>(by cases a)),j' _,j' _,rfl⟩
theorem NOk.start(h:NOk n p):NOk n p.start/\Av p.start.bn<=Av p.bn+4/\p.start.an.length<=p.an.length/\p.start.bad=p.bad:=by
 have b:=bR p.d p.sy;have a:∀ q∈[Pend.start],POk 0 q:=λq a=>by rw[G'.1 a];trivial
 unfold Nod.start;split
 .exact⟨h,nE _ _,A' _,rfl⟩
 .split
  .exact⟨NOk.bare n p _ _ _ b.1 b.2 _ a,by show 4<=_;omega,j' _,rfl⟩
  .exact⟨NOk.bare n p _ _ _ b.1 b.2 _ a,by show 4<=_;omega,j' _,rfl⟩
theorem Fj(p:Nod)(b:Bal):(p.av b).1.an=p.an/\(p.av b).1.bad=p.bad/\(p.av b).1.bw=p.bw/\(p.av b).1.done=p.done/\(p.av b).1.cn=p.cn:=by
 unfold Nod.av;split
 .exact⟨rfl,rfl,rfl,rfl,rfl⟩
 .split
  .exact⟨rfl,rfl,rfl,rfl,rfl⟩
  .split<;>exact⟨rfl,rfl,rfl,rfl,rfl⟩
theorem NOk.lead(h:NOk n p)(i:Nat):NOk n (p.lead i)/\Av (p.lead i).bn<=Av p.bn+4/\(p.lead i).an=p.an/\(p.lead i).bad=p.bad:=by
 unfold Nod.lead;simp only;split
 .exact⟨h,nE _ _,rfl,rfl⟩
 .have hp:=h.av ⟨max p.cn p.vo.p.r+1,(i:Int)⟩;have a:=Fj p ⟨max p.cn p.vo.p.r+1,(i:Int)⟩;have b:NOk n { (p.av ⟨max p.cn p.vo.p.r+1,(i:Int)⟩).1 with br:=⟨⟨max p.cn p.vo.p.r+1,(i:Int)⟩,λ_=>false,λ_=>DT,λ_=>p.ae.length,0,[]⟩ }:={ hp.1 with qu:=j' _,he:=λ_=>BC.nil };refine⟨b.wait hp.2.2.2.1,?_,a.1,a.2.1⟩;show Av ((p.av _).1.bn++[_])<=_;rw[Fi,hp.2.1];exact A' _
theorem NOk.want(h:NOk n p)(c:Cmd):NOk (n+1) (p.want c)/\(p.want c).an.length<=p.an.length+1/\(p.want c).bn=p.bn/\(p.want c).bad=p.bad:=by
 unfold Nod.want;split
 .exact⟨h.mono (kU _),kU _,rfl,rfl⟩
 .refine⟨{ h with wa:=?_,ask:=λd a=>?_ },by simp,rfl,rfl⟩
  .have:=h.wa;simp;omega
  .unfold Ez at a;simp only at a ⊢;split at a
   .rename_i e;exact Q'.2 (.inr (G'.2 e))
   .exact Q'.2 (.inl (h.ask d a))
theorem NOk.oA(h:NOk n p)(i:Nat)(e:Int)(c:Cmd)(a:List Tol):NOk (n+1) (p.oz i e c a).1/\(p.oz i e c a).1.bn=p.bn/\(p.oz i e c a).2.length+(p.oz i e c a).1.an.length<=a.length+p.an.length+1/\(p.oz i e c a).1.bad<=p.bad+1:=by
 have b:=h.mono (kU n);unfold Nod.oz;split
 .exact⟨b,rfl,kU _,kU _⟩
 .split
  .exact⟨{ b with },rfl,kU _,A' _⟩
  .split
   .exact⟨b,rfl,by simp;omega,kU _⟩
   .have:=h.want c;exact⟨this.1,this.2.2.1,by have:=this.2.1;simp only;omega,by rw[this.2.2.2];exact kU _⟩
theorem NH(p:Nod)(v:Vt):(p.bN v).1.an=p.an/\(p.bN v).1.bad=p.bad:=by
 unfold Nod.bN;split
 .exact⟨rfl,rfl⟩
 .split
  .exact⟨rfl,rfl⟩
  .split<;>exact⟨rfl,rfl⟩
theorem J1(p:Nod)(a:Nat)(e:Int):(p.fa a e).an=p.an/\(p.fa a e).bad=p.bad:=by unfold Nod.fa;split<;>exact⟨rfl,rfl⟩
theorem ET(p:Nod)(j:Nat)(v:Vt):(p.count j v).an=p.an/\(p.count j v).bad=p.bad/\(p.count j v).bn=p.bn:=by
 unfold Nod.count;split
 .exact⟨rfl,rfl,rfl⟩
 .split<;>exact⟨rfl,rfl,rfl⟩
theorem EV(p:Nod)(l:List Cmd):(p.eo l).an=p.an/\(p.eo l).bad=p.bad:=by unfold Nod.eo;split<;>exact⟨rfl,rfl⟩
theorem Vz(p:Nod)(l:Let):(p.take l).an=p.an/\(p.take l).bad=p.bad:=by
 unfold Nod.take;split
 .split
  .exact J1 _ _ _
  .exact⟨(Fj p l.fv).1,(Fj p l.fv).2.1⟩
 .simp only;split<;>exact⟨rfl,rfl⟩
 .exact⟨rfl,rfl⟩
 .split
  .exact J1 _ _ _
  .exact NH p l.bN
 .exact⟨(ET p _ _).1,(ET p _ _).2.1⟩
 .split<;>exact⟨rfl,rfl⟩
 .simp only;split
  .exact EV p l.ed
  .exact EV p l.ed
 .exact⟨rfl,rfl⟩
theorem Vk(p:Nod)(i:Nat)(q:Pend):(p.nR i q).an=p.an/\(p.nR i q).bad=p.bad:=by
 cases q with
 | began b vs=>unfold Nod.nR;simp only;split<;>exact⟨rfl,rfl⟩
 | prop v=>exact⟨(ET p i v).1,(ET p i v).2.1⟩
 | _=>exact⟨rfl,rfl⟩
theorem Rd(i:Nat)(l:List Pend)(p:Nod)(a:List Let):(mv i l p a).1.an=p.an/\(mv i l p a).1.bad=p.bad:=by
 induction l generalizing p a with
 | nil=>exact⟨rfl,rfl⟩
 | cons q l ih =>
  have b:=ih (p.nR i q) (a++p.nV i q);have c:=Vk p i q;exact⟨b.1.trans c.1,b.2.trans c.2⟩
theorem ZS(i:Nat)(l:List Cmd)(p:Nod)(a:List Tol):(oq i l p a).1.bad=p.bad:=by
 induction l generalizing p a with
 | nil=>rfl
 | cons c l ih =>
  rw[oq];split
  .rfl
  .rw[ih];unfold Nod.hZ;split<;>rfl
theorem Sf(p:Nod)(i:Nat)(a:List Let)(b:List Tol):(p.piece i a b).1.an=(oq i (p.ae.drop p.done) p b).1.an/\(p.piece i a b).1.bad=p.bad:=by
 have c:∀ q:Nod,(q.nr i).1.an=q.an/\(q.nr i).1.bad=q.bad:=by
  intro q;unfold Nod.nr;split
  .exact⟨rfl,rfl⟩
  .split
   .exact EV _ _
   .exact⟨rfl,rfl⟩
 have d:∀ q:Nod,q.dT.an=q.an/\q.dT.bad=q.bad:=by
  intro q;unfold Nod.dT;split
  .exact⟨rfl,rfl⟩
  .split
   .exact⟨rfl,rfl⟩
   .split
    .exact⟨rfl,rfl⟩
    .exact NH q _
 have e:∀ (q:Nod) (a:List Let),(q.nS i a).1.an=q.an/\(q.nS i a).1.bad=q.bad:=by
  intro q a;unfold Nod.nS;split
  .exact⟨rfl,rfl⟩
  .have:=Rd i q.bn { q.ou with bn:=[] } a;have g:q.ou.an=q.an/\q.ou.bad=q.bad:=by unfold Nod.ou;split<;>exact⟨rfl,rfl⟩
   exact⟨this.1.trans g.1,this.2.trans g.2⟩
 have f:∀ (q:Nod) (a:List Let),(q.cl i a).1.an=q.an/\(q.cl i a).1.bad=q.bad:=by
  intro q a;unfold Nod.cl;split<;>exact⟨rfl,rfl⟩
 have h:=ZS i (p.ae.drop p.done) p b;unfold Nod.piece;simp only;rw[(f _ _).1,(e _ _).1,(d _).1,(c _).1,(f _ _).2,(e _ _).2,(d _).2,(c _).2];exact⟨rfl,h⟩
def pw(M:Meet):Nat:=Av (M.af 0).bn+Av (M.af 1).bn+Av (M.af 2).bn+Av (M.af 3).bn+Av (M.af 4).bn
def ww(M:Meet):Nat:=(M.af 0).an.length+(M.af 1).an.length+(M.af 2).an.length+(M.af 3).an.length+(M.af 4).an.length
theorem Ye(M:Meet){i:Nat}(a:i<5)(p:Nod)(b:List Let)(c:List Tol):pw (M.set i p b c)+Av (M.af i).bn=pw M+Av p.bn:=by
 unfold pw Meet.set;rcases nT a with rfl|rfl|rfl|rfl|rfl<;>simp[upN]<;>omega
theorem Zj(M:Meet){i:Nat}(a:i<5)(p:Nod)(b:List Let)(c:List Tol):ww (M.set i p b c)+(M.af i).an.length=ww M+p.an.length:=by
 unfold ww Meet.set;rcases nT a with rfl|rfl|rfl|rfl|rfl<;>simp[upN]<;>omega
theorem PZ(M:Meet){i:Nat}(a:i<5):Av (M.af i).bn<=pw M:=by
 unfold pw;rcases nT a with rfl|rfl|rfl|rfl|rfl<;>omega
theorem jg(M:Meet){i:Nat}(a:i<5):(M.af i).an.length<=ww M:=by
 unfold ww;rcases nT a with rfl|rfl|rfl|rfl|rfl<;>omega
structure MOk(n:Nat)(M:Meet):Prop where
 af:∀ i,i<5->NOk n (M.af i)
 bt:∀ l∈M.bt,LOk l
 wt:M.bt.length+pw M<=10*n
 cF:M.cF.length+ww M<=n
 bad:∀ i,i<5->(M.af i).bad<=n
theorem MOk.zero:MOk 0 AQ:=⟨λ_ _=>NOk.zero 0,λl h=>(by cases h),A' _,A' _,λ_ _=>A' _⟩
theorem MOk.mono(h:MOk n M)(b:n<=m):MOk m M:=⟨λi a=>(h.af i a).mono b,h.bt,by have:=h.wt;omega,by have:=h.cF;omega,λi a=>jG (h.bad i a) b⟩
theorem MOk.set(h:MOk n M){i:Nat}(a:i<5){p:Nod}{ls:List Let}{ts:List Tol}(c:NOk (n+1) p)(d:∀ l∈ls,LOk l)(g:ls.length+Av p.bn<=M.bt.length+Av (M.af i).bn+10)(k:ts.length+p.an.length<=M.cF.length+(M.af i).an.length+1)(m:p.bad<=(M.af i).bad+1):MOk (n+1) (M.set i p ls ts):=by
 have e:=Ye M a p ls ts;have f:=Zj M a p ls ts;have:=h.wt;have:=h.cF;refine⟨λj b=>?_,d,by show ls.length+_<=_;omega,by show ts.length+_<=_;omega,λj b=>?_⟩
 .show NOk (n+1) (upN M.af i p j);unfold upN;split
  .exact c
  .exact(h.af j b).mono (kU _)
 .show(upN M.af i p j).bad<=n+1;unfold upN;split
  .have:=h.bad i a;omega
  .have:=h.bad j b;omega
structure COk(n k:Nat)(M:Meet):Prop where
 af:∀ i,i<5->NOk n (M.af i)
 wt:k+M.bt.length+pw M<=10*n
 cF:M.cF.length+ww M<=n
 bad:∀ i,i<5->(M.af i).bad<=n
 bt:∀ l∈M.bt,LOk l
theorem COk.nQ(h:COk n (k+1) M){l:Let}(a:LOk l):COk n k (M.nQ l)/\(M.nQ l).bt=M.bt:=by
 have i:=h.wt;unfold Meet.nQ;split
 .have ht:=(h.af l.dst a.dst).take a;have c:=Vz (M.af l.dst) l;have e:=Ye M a.dst ((M.af l.dst).take l) M.bt M.cF;have d:=Zj M a.dst ((M.af l.dst).take l) M.bt M.cF;have f:pw (M.put l.dst ((M.af l.dst).take l))=pw (M.set l.dst ((M.af l.dst).take l) M.bt M.cF):=rfl;have g:ww (M.put l.dst ((M.af l.dst).take l))=ww (M.set l.dst ((M.af l.dst).take l) M.bt M.cF):=rfl;have:=h.cF;rw[c.1]at d
  refine⟨⟨λj b=>?_,by show k+M.bt.length+_<=_;have:=ht.2.1;omega,by show M.cF.length+_<=_;omega,λj b=>?_,h.bt⟩,rfl⟩
  .show NOk n (upN M.af l.dst _ j);unfold upN;split
   .exact ht.1
   .exact h.af j b
  .show(upN M.af l.dst _ j).bad<=n;unfold upN;split
   .rw[c.2];exact h.bad _ a.dst
   .exact h.bad j b
 .exact⟨⟨h.af,by omega,h.cF,h.bad,h.bt⟩,rfl⟩
theorem COk.all(a:List Let){M:Meet}(h:COk n a.length M)(b:∀ l∈a,LOk l):COk n 0 (a.foldl (λM l=>M.nQ l) M):=by
 induction a generalizing M with
 | nil=>exact h
 | cons l a ih=>exact ih ((h.nQ (b l P')).1) λm c=>b m (O' _ c)
theorem COk.ok(h:COk n k M):MOk n M:=⟨h.af,h.bt,by have:=h.wt;omega,h.cF,h.bad⟩
theorem MOk.oh(h:MOk n M):MOk n M.oh :=
 (COk.all M.bt (M:={ M with bt:=[] }) ⟨h.af,by show M.bt.length+0+pw M<=_;exact h.wt,h.cF,h.bad,λl a=>(by cases a)⟩ h.bt).ok
theorem MOk.move(h:MOk n M)(k:Int)(a:Nat):MOk (n+1) (M.move k a):=by
 have i:=h.wt;have b:=h.mono (kU n);unfold Meet.move;split
 .exact b
 .rename_i l hl
  have c:LOk l:=h.bt l (jJ hl);have f:∀ m∈M.bt.eraseIdx (a%M.bt.length),LOk m:=λm g=>h.bt m (mw g);have e:(M.bt.eraseIdx (a%M.bt.length)).length<=M.bt.length:=List.length_eraseIdx_le _ _;have d:COk (n+1) 1 (if k≠6 then{ M with bt:=M.bt.eraseIdx (a%M.bt.length) }else M):=by
   split
   .exact⟨b.af,by show 1+(M.bt.eraseIdx _).length+pw M<=_;omega,b.cF,b.bad,f⟩
   .exact⟨b.af,by omega,b.cF,b.bad,h.bt⟩
  simp only;split
  .exact(d.nQ c).1.ok
  .exact d.ok
theorem MOk.act(h:MOk n M)(i:n<=1000000){x:Lac}(g:LacOk x):MOk (n+1) (M.act x):=by
 have a:x.n.toNat<5:=by
  cases hu:F1 x.k with
  | true=>have:=g.n hu;omega
  | false=>have:=g.n0 hu;omega
 have e:=h.af _ a;have c:=e.mono (kU n);unfold Meet.act;simp only;split
 .have hs:=e.oA x.n.toNat (opE x.d ((M.af x.n.toNat).done:Int)) (GX x.d ((M.af x.n.toNat).done:Int)) M.cF;exact h.set a hs.1 h.bt (by unfold Nod.oA;rw[hs.2.1];omega) (by unfold Nod.oA;omega) (by unfold Nod.oA;omega)
 .split
  .split
   .have hl:=c.lead x.n.toNat;exact h.set a hl.1 h.bt (by omega) (by rw[hl.2.2.1];omega) (by rw[hl.2.2.2];omega)
   .exact h.set a c h.bt (by omega) (by omega) (by omega)
  .split
   .by_cases hu:(M.af x.n.toNat).up=true
    .rw[if_pos hu,if_pos hu,if_pos hu];have b:=c.piece a (ls:=M.bt) (ts:=M.cF) (by have:=PZ M a;have:=h.wt;omega) h.bt;have f:=Sf (M.af x.n.toNat) x.n.toNat M.bt M.cF;exact h.set a b.1 b.2.1 b.2.2.1 (by rw[f.1];have:=b.2.2.2;omega) (by rw[f.2];omega)
    .rw[if_neg hu,if_neg hu,if_neg hu];exact h.set a c h.bt (by omega) (by omega) (by omega)
   .split
    .exact h.move _ _
    .split
     .exact h.oh.mono (kU _)
     .split
      .split
       .have hc:=c.lp x.p;exact h.set a hc.1 h.bt (by omega) (by omega) (by rw[hc.2.2.2];omega)
       .exact h.set a c h.bt (by omega) (by omega) (by omega)
      .split
       .split
        .exact h.set a c h.bt (by omega) (by omega) (by omega)
        .have hc:=c.start;exact h.set a hc.1 h.bt (by omega) (by omega) (by rw[hc.2.2.2];omega)
       .exact h.mono (kU _)
end
end
section
open Go.RowKit
section
variable{M:Meet}{W w:World}{b j mb n ob tb:Nat}{g:Gh}{l:List Let}{nb:Nat->Nat}{x:S3}
theorem iI{P:Program}{x y:Operand}(a b:Nat)(h:P.underlying 3=some (.int .i64))(f:a<9223372036854775808)(g:0<b)(e:b<9223372036854775808):(do Go.eqGuard .rem 3 x y (iv (a:Int)) (iv (b:Int));Go.binOp .rem 3 (iv (a:Int)) (iv (b:Int)):Sem Value).run P W=.ok (iv ((a%b:Nat):Int)) W:=by
 have d:Int.tmod (a:Int) (b:Int)=((a%b:Nat):Int):=rfl;have c:¬ b=0:=by omega
 simp only[Go.eqGuard,go_sem,Op.intDiv];simp[c,d]
theorem dG{c:Nat}(j:Nat)(a:j<n):(Instr.indexAt 78 (.slice (some ⟨b,0,none⟩) n c) (iv (j:Int))).run prog W=.ok (pt b j) W :=
 L2 (P:=prog) (e:=151) (z:=1) underlying78 (by kernel_rfl) (by kernel_rfl) a _ (by omega)
theorem fI(d:x.a=some ⟨b,0,none⟩)(j:Nat)(c:j<x.n):(Instr.indexAt 78 x.v (iv (j:Int))).run prog W=.ok (pt b j) W:=by
 unfold S3.v;rw[d];exact dG j c
theorem FzL.cell{e:List Value}(h:FzL g w x e){b j:Nat}(i:x.a=some ⟨b,0,none⟩){u:Value}(k:e[j]?=some u):w.cell? ⟨b,j,none⟩=some u:=by
 obtain⟨c,d,_,_,f⟩:=h.at_ j u k;rw[i]at d
 simp only[V',Addr.mk.injEq,and_true]at d;subst d;exact f
theorem MS.outs{a:Gh}{b:World}{B:Nat}(h:MS mb tb ob nb g w M)(c:Cg B [.n 50 0,.n 51 0] g w a b){lt e:S3}{d:List Let}(k:OutAt a b ob lt e d M.cF)(j:I4 a b):MS mb tb ob nb a b { M with bt:=d } :=
 ⟨h.box.ch c,h.tk.ch c,λi f=>let ⟨x,hx⟩:=h.af i f;⟨x,hx.ch c (by simp) (λr l=>by simp;omega)⟩,⟨lt,e,k⟩,j⟩
theorem Lets.erase{d:List Nat}(h:Lets g w d l)(j:Nat):Lets g w (d.eraseIdx j) (l.eraseIdx j):=by
 refine⟨by rw[List.length_eraseIdx,List.length_eraseIdx,h.len],λk b m c a=>?_⟩;rw[List.getElem?_eraseIdx]at c a
 split at c
 .rename_i hk;rw[if_pos hk]at a;exact h.at_ _ _ _ c a
 .rename_i hk;rw[if_neg hk]at a;exact h.at_ _ _ _ c a
theorem WD{c:Let}(h:l[j]?=some c):l.drop j=c::l.drop (j+1):=by
 obtain⟨a,b⟩:=U'.1 h;rw[<- b];exact kz a
theorem XF(k:Int)(a:Nat)(h:M.bt.length=0):M.move k a=M:=by
 unfold Meet.move;rw[Z' h];rfl
theorem aZ{k:Int}{a:Nat}{l:Let}(h:M.bt[a%M.bt.length]?=some l):M.move k a=(if k≠5 then(if k≠6 then{ M with bt:=M.bt.eraseIdx (a%M.bt.length) }else M).nQ l else if k≠6 then{ M with bt:=M.bt.eraseIdx (a%M.bt.length) }else M):=by
 unfold Meet.move;rw[h]
theorem Ll(h:MS mb tb ob nb g w M){w0:World}(hB:Base w0 g w)(hT:Tabs w0)(k:Int)(a:Nat)(ha:a<=1048576){n:Nat}(hm:MOk n M)(hn:n<=1000000) :
  Calls prog 28 #[pt mb 0,iv k,iv (a:Int)] w (MP mb tb ob nb g w (.tuple #[]) (M.move k a)):=by
 obtain⟨lt,tl,hO⟩:=h.out;obtain⟨bs,hL,o⟩:=hO.bt;have X:lt.n=M.bt.length:=by have:=hL.len;have:=o.len;simp at *;omega
 have b7:=hm.wt;refine gI (fn:=f28) TM g func28 h.new (BU ⟨mb,_,.z,false⟩ (λ_=>⟨h.box.r,h.box.z,λh=>(by cases h),λh=>absurd rfl h⟩) (by kernel_rfl) ?_);refine qO hO (qR [] 18 [0,1] λs1 g1 w1 c1=>?_);by_cases h1:lt.n=0
 .refine qI (((lt.n:Int)==0)) true (by simp;omega) (qE (.tuple #[]) λK=>?_);rw[XF k a (by omega)];exact⟨_,rfl,(h.nW c1 K.new),(c1.nil TM)⟩
 .refine qI (((lt.n:Int)==0)) false (by simp;omega) ?_;obtain⟨j,hj⟩:∃ j,j=a%M.bt.length:=⟨_,rfl⟩;have H:j<M.bt.length:=by rw[hj];exact Nat.mod_lt _ (by omega)
  obtain⟨l,hl⟩:∃ l,M.bt[j]?=some l:=⟨_,E' H⟩;obtain⟨I,V⟩:∃ I,bs[j]?=some I:=⟨_,E' (by rw[o.len];exact H)⟩;have q:=hm.bt l (jJ hl);have U:=o.at_ j I l V hl;obtain⟨b,hb,a7,a6⟩:=hL.cell (j:=j) (u:=pt I 0) (by rw[kh,V];rfl);rw[aZ (hj▸hl)];rw[<- hj];obtain⟨la,lq,lc⟩:=lt;simp only at hb X;subst hb;refine qR [] 5 [] λs3 g3 w3 i=>?_;have a8 {x y:Operand}:∀ {W:World},(do Go.eqGuard .rem 3 x y (iv (a:Int)) (iv (lq:Int));Go.binOp .rem 3 (iv (a:Int)) (iv (lq:Int)):Sem Value).run prog W=.ok (iv (j:Int)) W:=λ{W}=>by rw[hj,<- X];exact iI a lq underlying3 (by omega) (by omega) (by omega)
  refine qV 2 (iv (j:Int)) (a8 (x:=(.tmp 19)) (y:=(.tmp 20))) (qR [] 12 [0,1] λs4 g4 w4 m=>qV 8 (pt b j) (dG (b:=b) (n:=lq) (c:=lc) j (by omega)) (qV 9 (pt I 0) (BX underlying151 rfl ((Below.cell (Cg.ab ((c1.trans i).trans m) (λ_ _=>N')) (p:=⟨b,j,none⟩) a7).trans a6)) (qR [] 8 [] λs6 g6 w6 s=>?_)));by_cases Z:k≠6
  .refine qI ((k != 6)) true (by simpa using Z) ?_;have G:k≠6:=by simpa using Z
   rw[if_pos G];refine qR [] 14 [17,0,2,4,6,0,8,10,12,14,0,16,18,20,1,22,24] λs7 g7 w7 J=>qT 13 (iv ((j+1:Nat):Int)) (λ_=>(AR 46 (j:Int) underlying3 (by omega))) (Ae λK=>qG 14 [.n 51 0] [true,true] (Pi (hL.ch ((((c1.trans i).trans m).trans s).trans J) (by simp) (by simp)) K.new j (by rw[o.len];exact H) (by rw[o.len];omega)) ?_);rintro e' w9 ⟨y9,g9,rfl,a9,n9,F⟩;refine⟨_,g9,rfl,F,n9,?_⟩;replace F:=F.ret (B:=w.heap.size);refine qR [.n 50 0] 9 [30,32,35,1,1] λb8 T Y d=>Ae λK=>?_;have C9:Cg w.heap.size [.n 50 0,.n 51 0] g w T Y:=(((((((c1.nil [.n 50 0,.n 51 0]).n i).n m).n s).n J).trans (F.mono (by simp))).trans (d.mono (by simp)));obtain⟨o1,o2,o3⟩:=K.oH 1 ob (.cells #[S3.v y9,S3.v tl] 80) 50 0 (by kernel_rfl);have O:MS mb tb ob nb T Y { M with bt:=M.bt.eraseIdx j }:=h.outs C9 ⟨o1,o2,o3,⟨bs.eraseIdx j,(a9.ch d),(o.erase j).ch C9⟩,hO.cF.ch C9⟩ K.new;by_cases E:k≠5
   .refine qI ((k != 5)) true (by simpa using E) ?_;rw[if_pos (show k≠5 from by simpa using E)];refine qR [] 3 [] λb9 a2 b0 t=>Ae λK=>?_;have a0:MS mb tb ob nb a2 b0 ({ M with bt:=M.bt.eraseIdx j }):=(O.nW t K.new);refine qG 2 TM [true,false] (KF a0 (hB.ch ((((((((c1.nil TM).n i).n m).n s).n J).trans (F.mono (by simp[TM,TN]))).trans (d.mono (by simp[TM,TN]))).n t) EO) hT I l (U.ch ((((((((c1.nil TM).n i).n m).n s).n J).trans (F.mono (by simp[TM,TN]))).trans (d.mono (by simp[TM,TN]))).n t) EO) q (hm.af l.dst q.dst) (by have:=DB (M.af l.dst).bn;have:=PZ M q.dst;show(M.af l.dst).bn.length<_;omega)) ?_;rintro e' d2 ⟨a3,rfl,L,A⟩;refine⟨_,a3,rfl,A,L.new,?_⟩;replace A:=A.ret (B:=w.heap.size);refine qR [] 1 [] λc0 b2 d3 P=>qE (.tuple #[]) λK=>⟨_,rfl,(L.nW P K.new),((((((((((c1.nil TM).n i).n m).n s).n J).trans (F.mono (by simp[TM,TN]))).trans (d.mono (by simp[TM,TN]))).n t).trans (A)).n P)⟩
   .refine qI ((k != 5)) false (by simpa using E) (qR [] 1 [] λc2 b3 d4 Q=>?_);rw[if_neg (show ¬ k≠5 from by simpa using E)];refine qE (.tuple #[]) λK=>⟨_,rfl,(O.nW Q K.new),((((((((c1.nil TM).n i).n m).n s).n J).trans (F.mono (by simp[TM,TN]))).trans (d.mono (by simp[TM,TN]))).n Q)⟩
  .refine qI ((k != 6)) false (by simpa using Z) ?_;have G:¬ k≠6:=by simpa using Z
   rw[if_neg G];refine qR [] 6 [] λc5 b4 d5 e=>?_;by_cases E:k≠5
   .refine qI ((k != 5)) true (by simpa using E) ?_;rw[if_pos (show k≠5 from by simpa using E)];refine qR [] 3 [] λc8 a4 b1 C=>Ae λK=>?_;have a1:MS mb tb ob nb a4 b1 M:=(h.nW (((((c1.trans i).trans m).trans s).trans e).trans C) K.new);refine qG 2 TM [true,false] (KF a1 (hB.ch ((((((c1.nil TM).n i).n m).n s).n e).n C) EO) hT I l (U.ch ((((((c1.nil TM).n i).n m).n s).n e).n C) EO) q (hm.af l.dst q.dst) (by have:=DB (M.af l.dst).bn;have:=PZ M q.dst;show(M.af l.dst).bn.length<_;omega)) ?_;rintro e' d6 ⟨a5,rfl,N,D⟩;refine⟨_,a5,rfl,D,N.new,?_⟩;replace D:=D.ret (B:=w.heap.size);refine qR [] 1 [] λd0 b5 d7 R=>qE (.tuple #[]) λK=>⟨_,rfl,(N.nW R K.new),((((((((c1.nil TM).n i).n m).n s).n e).n C).trans (D)).n R)⟩
   .refine qI ((k != 5)) false (by simpa using E) (qR [] 1 [] λd1 b6 d8 S=>?_);rw[if_neg (show ¬ k≠5 from by simpa using E)];refine qE (.tuple #[]) λK=>⟨_,rfl,(h.nW (((((c1.trans i).trans m).trans s).trans e).trans S) K.new),((((((c1.nil TM).n i).n m).n s).n e).n S)⟩
theorem Pf(h:MS mb tb ob nb g w M){W:World}(hB:Base W g w)(hT:Tabs W){n:Nat}(u:MOk n M)(hn:n<=1000000) :
  Calls prog 29 #[pt mb 0] w (MP mb tb ob nb g w (.tuple #[]) M.oh):=by
 obtain⟨lt,tl,I⟩:=h.out;obtain⟨y,U,i⟩:=I.bt;have a1:lt.n=M.bt.length:=by have:=U.len;have:=i.len;simp at *;omega
 have P:=u.wt;refine gI (fn:=f29) TM g func29 h.new (BU ⟨mb,_,.z,false⟩ (λ_=>⟨h.box.r,h.box.z,λh=>(by cases h),λh=>absurd rfl h⟩) (by kernel_rfl) ?_);refine qO I (ju U (by kernel_rfl) λgF Y hF=>qR [.n 50 0] 28 [0,1,0,1,1] λs1 Z w1 c1=>Ae λG=>BL 28 [(0,pt mb 0),(18,S3.v lt),(19,iv (lt.n:Int)),(20,iv 0)] [true,false] [⟨mb,.cells (mtA nb ob tb) 86,.z,false⟩] (λk E F e L=>∃ (j:Nat) (A:Meet),k=M.bt.length-j/\j<=M.bt.length/\e=[(0,pt mb 0),(18,S3.v lt),(19,iv (lt.n:Int)),(20,iv (j:Int))]/\L=[⟨mb,.cells (mtA nb ob tb) 86,.z,false⟩]/\MS mb tb ob nb E F A/\(M.bt.drop j).foldl (λM l=>M.nQ l) A=M.oh/\COk n (M.bt.length-j) A/\FzL E F lt (y.map (pt · 0))/\Lets E F y M.bt/\Cg w.heap.size TM g w E F) (by kernel_rfl) (by kernel_rfl) (by kernel_rfl) (by kernel_rfl) M.bt.length (λK=>?_) ?_)
 .have C9:Cg w.heap.size [.n 50 0,.n 51 0] g w Z w1:=((Y.mono (by simp)).trans (c1.mono (by simp)));obtain⟨o1,o2,o3⟩:=G.oH 1 ob (.cells #[S3.v s30,S3.v tl] 80) 50 0 (by kernel_rfl);exact⟨0,{ M with bt:=[] },rfl,j' _,rfl,rfl,h.outs C9 ⟨o1,o2,o3,⟨[],OwnS.nil _ _ _ _ _ _,⟨rfl,λk b m h=>(by cases h)⟩⟩,I.cF.ch C9⟩ K.new,rfl,⟨u.af,by show M.bt.length+0+pw M<=_;exact P,u.cF,u.bad,λl s=>(by cases s)⟩,(hF.fz.ch c1),i.ch C9,C9.mono (by simp[TM,TN])⟩
 .rintro k gr wr _ zr _ ⟨j,A,rfl,hj,rfl,rfl,hM,hI,hA,hFz,hLt,hC⟩ J hJ;have a0:=hFz.n;refine qR [] 5 [] λs2 g2 w2 a=>?_;by_cases T:j<M.bt.length
  .refine qI ((decide ((j:Int)<(lt.n:Int)))) true (I' (by omega)) ?_;obtain⟨l,s⟩:∃ l,M.bt[j]?=some l:=⟨_,E' T⟩;obtain⟨o,t⟩:∃ o,y[j]?=some o:=⟨_,E' (by rw[i.len];exact T)⟩;have c:=u.bt l (jJ s);have H:=hLt.at_ j o l t s;have x:(y.map (pt · 0))[j]?=some (pt o 0):=by rw[kh,t];rfl
   obtain⟨b,V,_⟩:=hFz.at_ j (pt o 0) x;obtain⟨Q,O⟩:∃ Q,M.bt.length-j=Q+1:=⟨M.bt.length-j-1,by omega⟩;rw[O]at hA
   have N:=hA.nQ c;rw[WD s,nM]at hI
   refine qR [] 5 [] λs3 g3 w3 d=>qV 0 (pt b j) (fI V j (by omega)) (qV 1 (pt o 0) (BX underlying151 rfl (((hFz.ch a).ch d).cell V x)) (qR [] 5 [] λs5 g5 w5 p=>Ae λK=>?_));have X:MS mb tb ob nb g5 w5 A:=(hM.nW ((a.trans d).trans p) K.new);refine qG 2 TM [true] (KF X (hB.ch ((((hC.n a).n d).n p)) EO) hT o l (H.ch (((a.nil TM).n d).n p) EO) c (hA.af l.dst c.dst) (by have:=hA.wt;have:=DB (A.af l.dst).bn;have:=PZ A c.dst;omega)) ?_;rintro e' w6 ⟨g6,rfl,R,q⟩;refine⟨_,g6,rfl,q,R.new,?_⟩;replace q:=q.ret (B:=w.heap.size);refine qR [] 3 [] λs7 g7 w7 C=>qV 0 (iv ((j:Int)+1)) (AR 20 (j:Int) underlying3 (by omega)) (qR [] 2 [] λs8 g8 w8 D=>qB [true] λz G K=>hJ (M.bt.length-(j+1)) _ _ _ z _ (by omega) ⟨j+1,A.nQ l,rfl,by omega,rfl,rfl,(R.nW (C.trans D) G.new),hI,(by rw[show M.bt.length-(j+1)=Q by omega];exact N.1),((((((hFz.ch a).ch d).ch p).ch q).ch C).ch D),hLt.ch ((((((a.nil TM).n d).n p).trans (q)).n C).n D) EO,((((((hC.n a).n d).n p).trans q).n C).n D)⟩ K)
  .refine qI ((decide ((j:Int)<(lt.n:Int)))) false (D' (by omega)) (qR [] 1 [] λs9 g9 w9 S=>?_);obtain rfl:j=M.bt.length:=by omega
   rw[lH]at hI
   rw[<- hI];refine qE (.tuple #[]) λK=>⟨_,rfl,(hM.nW (a.trans S) K.new),((hC.n a).n S)⟩
end
end
end Go.Proofs.YthohlalejhgbmaaGreatDoor
