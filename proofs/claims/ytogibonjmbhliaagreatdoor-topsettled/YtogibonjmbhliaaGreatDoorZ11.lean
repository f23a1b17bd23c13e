/- Part 11 of the walk. -/
import Derived.Test.YtogibonjmbhliaaGreatDoorZ10
set_option maxRecDepth 100000
set_option maxHeartbeats 4000000
open Go.Proofs.Tryz
set_option linter.unusedVariables false
namespace Go.Proofs.YtogibonjmbhliaaGreatDoor
section
open Go.RowKit
section
variable{key l:List Int}
theorem Sl.sG{w:World}{a:Option Addr}{n c:Nat}(h:Sl w (.slice a n c) l)(b:Nat)(d:b+4<=l.length)(m k:Int)(g:m=(b:Int))(f:k=(b:Int)+4) :
  ∃ a' c',(∀ W,(Instr.slice 39 (.slice a n c) (some (.int .i64 m)) (some (.int .i64 k)) none).run prog W=.ok (.slice a' 4 c') W)/\Sl w (.slice a' 4 c') ((l.take (b+4)).drop b):=by
 subst g;subst f;have i:=h.rV b (b+4) (by omega) d;obtain⟨⟨a',j,e,s,t,r⟩,q,p⟩:=h;simp only[Value.slice.injEq]at e;obtain⟨rfl,rfl,rfl⟩:=e;have o:b+4-b=4:=by omega
 unfold sliced at i;rw[o]at i
 refine⟨_,_,λW=>?_,i⟩;rw[run_slice_lh (P:=prog) W 39 a _ c underlying39 .i64 .i64 _ _ (by omega) (by omega) (by omega)];have e:prog.elem 39=5:=by kernel_rfl
 rw[e,Iw,show((b:Int)+4).toNat=b+4 by omega,nI];simp[Result.andThen,sliced]
theorem Rd(x b:Int)(f:0<=x/\x<36028797018963968)(d:0<=b/\b<256):bits .or .i64 (x*256) b=x*256+b:=by
 obtain⟨x,rfl⟩:=nv f.1;obtain⟨y,rfl⟩:=nv d.1;have e:(x:Int)*256=((x*256:Nat):Int):=by omega
 have key:(BitVec.ofInt 64 ((x*256:Nat):Int) ||| BitVec.ofInt 64 (y:Int)).toNat=x*256+y:=by
  rw[qX,pU,pU];have a:((y:Int)%((2^64:Nat):Int)).toNat=y:=by omega
  have c:(((x*256:Nat):Int)%((2^64:Nat):Int)).toNat=2^8*x:=by omega
  rw[a,c,<- pz (by omega:y<2^8)];omega
 rw[e];show IntKind.i64.wrap ((BitVec.ofInt 64 ((x*256:Nat):Int) ||| BitVec.ofInt 64 (y:Int)).toNat:Nat)=_;rw[key,IntKind.wrap_i64];omega
def Dj(h:List Int):Nat->Int
 | 0=>0
 | k+1=>Dj h k*256+h.getD k 0
theorem Kv{h:List Int}(a:∀ x∈h,0<=x/\x<256)(k:Nat):0<=Dj h k/\Dj h k<256^k:=by
 induction k with
 | zero=>simp[Dj]
 | succ k ih =>
  have:=Aj a k;rw[Dj,qi];omega
theorem Mn(l:List Int)(a:Nat)(h:a+4<=l.length):Dj ((l.take (a+4)).drop a) 4=Ac l a:=by
 show(((0*256+((l.take (a+4)).drop a).getD 0 0)*256+((l.take (a+4)).drop a).getD 1 0)*256+((l.take (a+4)).drop a).getD 2 0)*256+((l.take (a+4)).drop a).getD 3 0=_;rw[Dr,Dr,Dr,Dr,BF _ _ _ (by omega),BF _ _ _ (by omega),BF _ _ _ (by omega),BF _ _ _ (by omega)];unfold Ac;rw[oZ];omega
theorem IW(v:Value)(l:List Int)(b:Nat)(w:World)(h:Sl w v l)(o:b+4<=l.length)(f:Int)(g:f=(b:Int)) :
  Calls prog 162 #[v,.int .i64 f] w λe w'=>e=.returned (.int .i64 (Ac l b))/\w'=w:=by
 have s:Hid (Dj ((l.take (b+4)).drop b) 4=Ac l b):=Mn l b o;have d:=h.len;have H:0<=f:=by omega
 have I:f<=140737488351232:=by omega
 obtain⟨a,c,rfl⟩:=h.shape;obtain⟨D,F,y,k⟩:=h.sG b o f (f+4) g (by omega);have m:Hid (∀ x∈(l.take (b+4)).drop b,0<=x/\x<256):=k.byte;have t:Hid (((l.take (b+4)).drop b).length=4):=by unfold Hid;rw[mM,X'];omega
 generalize (l.take (b+4)).drop b=L at s k m t;generalize l.length=N at y d ⊢;clear h o g d;go_enter func162,ntmps162
 go_wp2_with fail
 go_loopw [5,14] (λv iv wr=>∃ j:Nat,j<=4/\iv=.int .i64 (j:Int)/\v=.int .i64 (Dj L j)/\wr=w) (λ_ iv _=>(4-intOf iv).toNat)
 case atStart=>exact⟨0,by omega,rfl,rfl,rfl⟩
 case round =>
  obtain⟨j,G,rfl,rfl,rfl⟩:=hrel;by_cases C:j<4
  .have hii:(j:Int)<4:=by omega
   have p:=Kv m.out j;have r:Dj L j<16777216:=by
    have:(256:Int)^j<=256^3:=by
     rcases(by omega:j=0\/j=1\/j=2\/j=3)with rfl|rfl|rfl|rfl<;>decide
    omega
   have u:=Aj m.out j;obtain⟨E,od,rfl,z,A⟩:=k.rZ j (by have:=t.out;omega);have i:=Rd (Dj L j) (L.getD j 0) ⟨p.1,by omega⟩ u;have n:Hid (Dj L j*256+L.getD j 0=Dj L (j+1)):=rfl;have q:=p.1;clear p k y;generalize Dj L j=X at q r i n;generalize L.getD j 0=B at u A i n;go_wp2
   go_roundw
   case rel=>exact⟨j+1,by omega,by go_num,by rw[<- n.out],trivial⟩
   case measure=>simp[intOf];omega
  .obtain rfl:j=4:=by omega
   rw[show((4:Nat):Int)=4 from rfl,s.out];go_wp2
   go_ret;exact⟨rfl,rfl⟩
def S1(l:List Int)(j:Nat):List Int:=(List.range 5).map λi=>if i<j then Ac l (4*i)else 0
def rowOf(m:List Int):Array Value:=(m.map (Value.int .i64)).toArray
theorem Yp(l:List Int)(j:Nat)(a:j<5):(rowOf (S1 l j)).setIfInBounds j (.int .i64 (Ac l (4*j)))=rowOf (S1 l (j+1)):=by
 rcases(by omega:j=0\/j=1\/j=2\/j=3\/j=4)with rfl|rfl|rfl|rfl|rfl
 all_goals rfl
theorem LJ(v:Value)(l:List Int)(w:World)(h:Sl w v l)(ht:NTab w) :
  Calls prog 128 #[v] w λe w'=>e=.returned (.tuple #[.agg (KM l),.int .i64 (Cx l)])/\Bw w w':=by
 have G:=h.len;obtain⟨a,cp,rfl⟩:=h.shape;by_cases E:l.length=20
 .have i:Hid (Cx l=Bn (Ac l 0) (Ac l 4) (Ac l 8) (Ac l 12) (Ac l 16)):=if_neg (λg=>g E);have Z:=h;have HL:Hid (l.length=20):=E;rw[E]at Z ⊢
  clear h E G;have b0:Bw w (w.alloc (.cells (cmA 0 0 0 0 0) 49)):=(Below.refl _ _).alloc (A' _) _;have z0:(w.alloc (.cells (cmA 0 0 0 0 0) 49)).heap.size=w.heap.size+1:=by simp
  have B:=heap_alloc_new w (.cells (cmA 0 0 0 0 0) 49);have N:Below (w.heap.size+1) (w.alloc (.cells (cmA 0 0 0 0 0) 49)) ((w.alloc (.cells (cmA 0 0 0 0 0) 49)).alloc (.cells (cmA 0 0 0 0 0) 49)):=(Below.refl _ _).alloc (by omega) _;have C:=heap_alloc_new (w.alloc (.cells (cmA 0 0 0 0 0) 49)) (.cells (cmA 0 0 0 0 0) 49);rw[z0]at C
  replace B:=(N.block w.heap.size (by omega)).trans B;have J:=b0.trans (N.mono (nR _));have z1:((w.alloc (.cells (cmA 0 0 0 0 0) 49)).alloc (.cells (cmA 0 0 0 0 0) 49)).heap.size=w.heap.size+1+1:=by simp
  have Y:(w.alloc (.cells zV5 49)).alloc (.cells zV5 49)=(w.alloc (.cells (cmA 0 0 0 0 0) 49)).alloc (.cells (cmA 0 0 0 0 0) 49):=rfl;clear b0 N z0;generalize (w.alloc (.cells (cmA 0 0 0 0 0) 49)).alloc (.cells (cmA 0 0 0 0 0) 49)=W at B C J z1 Y;go_enter func128,ntmps128
  go_wp2_with fail
  clear Y;refine(H6 (w.heap.size+1) W).mono ?_;rintro e w2 ⟨rfl,H⟩;replace B:=(H.block w.heap.size (by omega)).trans B;replace C:=(H.block (w.heap.size+1) (by omega)).trans C;have d2:=J.trans (H.mono J.size);have o:Hid _:=B;have q:Hid (w2.heap[w.heap.size+1]?=some (.cells (rowOf (S1 l 0)) 49)):=C;clear B C H J z1;have y:=Rl (w.heap.size+1);go_wp2_with fail
  go_loopw [13] (λiv wr=>∃ j:Nat,j<=5/\iv=.int .i64 (j:Int)/\wr.heap[w.heap.size]?=some (.cells (cmA 0 0 0 0 0) 49)/\wr.heap[w.heap.size+1]?=some (.cells (rowOf (S1 l j)) 49)/\Bw w wr) (λiv _=>(5-intOf iv).toNat)
  case atStart=>exact⟨0,by omega,rfl,o.out,q.out,d2⟩
  case round =>
   obtain⟨j,hj,rfl,r,m,d⟩:=hrel;clear o q;by_cases z:j<5
   .have hji:(j:Int)<5:=by omega
    have a1:=y j z;have u:∃ x,wr.cell? ⟨w.heap.size+1,j,none⟩=some (.int .i64 x):=⟨(S1 l j).getD j 0,(cell_of_row _ _ j _ _ _ m).trans (by simp[rowOf,S1,z])⟩;obtain⟨x,hx⟩:=u;have a0:=frozen_of_row wr _ j _ _ m;have o:Hid _:=r;have q:Hid _:=m;have R:=Yp l j z;clear y r m;go_wp2_with fail
    refine(IW (.slice a 20 cp) l (4*j) wr (Z.af d) (by rw[HL.out];omega) _ (by omega)).mono ?_;rintro e Q ⟨rfl,rfl⟩;have A:(Q.setCell ⟨w.heap.size+1,j,none⟩ (.int .i64 (Ac l (4*j)))).heap[w.heap.size]?=some (.cells (cmA 0 0 0 0 0) 49):=(heap_setCell_other _ _ _ _ (by simp)).trans o.out;have M:(Q.setCell ⟨w.heap.size+1,j,none⟩ (.int .i64 (Ac l (4*j)))).heap[w.heap.size+1]?=some (.cells (rowOf (S1 l (j+1))) 49):=by
     rw[heap_setCell_same _ _ _ _ _ _ q.out,R]
    have q2:Bw w (Q.setCell ⟨w.heap.size+1,j,none⟩ (.int .i64 (Ac l (4*j)))):=d.setCell (p:=⟨w.heap.size+1,j,none⟩) (nR _) _;have S:Hid _:=A;have T:Hid _:=M;clear R A M o q;generalize Ac l (4*j)=X at S T q2 ⊢;go_wp2
    go_roundw
    case rel=>exact⟨j+1,by omega,by go_num,S.out,T.out,q2⟩
    case measure=>simp[intOf];omega
   .obtain rfl:j=5:=by omega
    rw[show((5:Nat):Int)=5 from rfl];have b:wr.heap[w.heap.size+1]?=some (.cells (cmA (Ac l 0) (Ac l 4) (Ac l 8) (Ac l 12) (Ac l 16)) 49):=m;clear m y;have f:Hid (Cx l=0->KM l=cmA (Ac l 0) (Ac l 4) (Ac l 8) (Ac l 12) (Ac l 16)):=λh=>if_pos h;have t:Hid (¬ Cx l=0->KM l=cmA 0 0 0 0 0):=λh=>if_neg h;have V:=ht.af d;generalize Ac l 0=k at i f b;generalize Ac l 4=c at i f b;generalize Ac l 8=s at i f b;generalize Ac l 12=n at i f b;generalize Ac l 16=v at i f b;have L:=GX k c s n v;have F:=GX 0 0 0 0 0;have O:=(Q'.1 b).1;go_wp2_with (refine wpList_load_row rfl 49 _ rfl (w.heap.size+1) rfl 49 _ (0,0) _ b underlying49 rfl L ?_)
    refine(Es k c s n v wr V).mono ?_;rintro e w6 ⟨rfl,I⟩;have U:=d.trans (I.mono d.size);have A:=(I.block w.heap.size (by omega)).trans r;have M:=(I.block (w.heap.size+1) O).trans b;clear r b I V d;by_cases K:Bn k c s n v=0
    .have HZ:Hid (Cx l=0):=i.out.trans K;have D:Hid (KM l=cmA k c s n v):=f.out HZ.out;rw[K];clear K i f t;go_wp2_with (first|(refine wpList_load_row rfl 49 _ rfl (w.heap.size+1) rfl 49 _ (0,0) _ M underlying49 rfl L ?_)|(refine wpList_store_row rfl 49 (.tmp 2) (.tmp 30) rfl w.heap.size (cmA k c s n v) rfl rfl 49 _ A L rfl (Uz k c s n v) ?_))
     have P:=setRow_heap w6 w.heap.size _ (cmA k c s n v) 49 _ A;refine bodyPost_ret (Kw rfl _ _ w.heap.size 49 _ (0,0) _ rfl P underlying49 rfl L) rfl ?_;rw[HZ.out,D.out];exact⟨rfl,C6 U (A' _) _⟩
    .have HZ:Hid (Cx l=Bn k c s n v):=i.out;have D:Hid (KM l=cmA 0 0 0 0 0):=t.out (by rw[i.out];exact K);clear i f t;go_wp2_with (refine wpList_store_row rfl 49 (.tmp 2) (.tmp 28) rfl w.heap.size (cmA 0 0 0 0 0) rfl rfl 49 _ A F rfl (Uz 0 0 0 0 0) ?_)
     have P:=setRow_heap w6 w.heap.size _ (cmA 0 0 0 0 0) 49 _ A;refine bodyPost_ret (Kw rfl _ _ w.heap.size 49 _ (0,0) _ rfl P underlying49 rfl F) rfl ?_;rw[HZ.out,D.out];exact⟨rfl,C6 U (A' _) _⟩
 .have h1':¬ (l.length:Int)=20:=by omega
  have i:Hid (Cx l=1):=if_pos E;have D:Hid (KM l=cmA 0 0 0 0 0):=if_neg (by rw[i.out];omega);have bb:Bw w (w.alloc (.cells (cmA 0 0 0 0 0) 49)):=(Below.refl _ _).alloc (A' _) _;have bc:=Bc.made w 0 0 0 0 0;go_enter func128,ntmps128
  go_wp2
  refine bodyPost_ret (Kw rfl _ _ w.heap.size 49 _ (0,0) _ rfl (heap_alloc_new _ _) underlying49 rfl (GX 0 0 0 0 0)) rfl ?_;rw[i.out,D.out];exact⟨rfl,bb⟩
theorem Jq(c r u:Int):(tkA c r u).all (·.oneCell')=true:=by simp[tkA,Value.oneCell']
theorem RI(v:Value)(l:List Int)(w:World)(h:Sl w v l)(x:6<=l.length) :
  Calls prog 161 #[v] w λe w'=>e=.returned (.agg (tkA (l.getD 0 0) (l.getD 1 0) (Ac l 2)))/\Bw w w':=by
 have d:=h.len;obtain⟨a,t,rfl⟩:=h.shape;have i:Bw w (w.alloc (.cells (tkA 0 0 0) 59)):=(Below.refl _ _).alloc (A' _) _;have j:=heap_alloc_new w (.cells (tkA 0 0 0) 59);have f:=h.af i;have o:w.alloc (.cells #[.int .i64 0,.int .i64 0,.int .i64 0] 59)=w.alloc (.cells (tkA 0 0 0) 59):=rfl;generalize w.alloc (.cells (tkA 0 0 0) 59)=W0 at i j f o;obtain⟨r,od,rfl,u,k⟩:=f.rZ 0 (by omega);obtain⟨s,A,m,_,q⟩:=f.rZ 1 (by omega);simp only[Y',Addr.mk.injEq,and_true]at m;obtain⟨rfl,rfl⟩:=m;rw[oZ]at k
 have C:=Aj h.byte 0;have D:=Aj h.byte 1;have y:(0:Int)<(l.length:Int):=by omega
 have z:(1:Int)<(l.length:Int):=by omega
 have n:Calls prog 162 #[.slice (some ⟨r,od,none⟩) l.length t,.int .i64 2] W0.drew λe w'=>e=.returned (.int .i64 (Ac l 2))/\w'=W0.drew :=
  IW _ l 2 _ (f.af (Below.refl _ _).drew) (by omega) 2 rfl
 have g:Hid _:=n;clear n;generalize l.getD 0 0=b0 at k C;generalize l.getD 1 0=b1 at q D;generalize Ac l 2=b2 at g;generalize l.length=N at d x y z g ⊢;clear h f;have p:=Jr b0 b1 b2;go_enter func161,ntmps161
 go_wp2_with fail
 refine Av 11 (by kernel_rfl) (by kernel_rfl) ?_;simp only[nT,n7,oc,oO]
 repeat (go_big_quiet_step (fail))
 go_big_quiet_want
 go_big_quiet_op
 refine⟨_,g.out,?_⟩
 go_big_quiet_on
 repeat (go_big_quiet_step (fail))
 refine wpQuiet_nil ?_;clear o;have b:W0.drew.heap[w.heap.size]?=some (.cells (tkA 0 0 0) 59):=j;have c:Bw w W0.drew:=i.drew;clear j i k q g;generalize W0.drew=W at b c ⊢;go_wp2_with (refine wpList_store_row rfl 59 (.tmp 2) (.tmp 13) rfl w.heap.size (tkA b0 b1 b2) rfl rfl 59 _ b p rfl (Jq b0 b1 b2) ?_)
 have B:=setRow_heap W w.heap.size _ (tkA b0 b1 b2) 59 _ b;exact bodyPost_ret (v:=.agg (tkA b0 b1 b2)) (results_cell_row rfl _ _ w.heap.size 59 _ (0,0) _ rfl B underlying59 rfl p) rfl ⟨rfl,C6 c (A' _) _⟩
def E9(key l:List Int):Int :=
 if key.length≠32\/l.length≠22 then 1
 else if(E7 key (l.take 6)).take 16≠l.drop 6 then 6
 else NQ (l.getD 0 0) (l.getD 1 0) (Ac l 2)
def NF(key l:List Int):Array Value:=if E9 key l=0 then tkA (l.getD 0 0) (l.getD 1 0) (Ac l 2)else tkA 0 0 0
theorem O6(h:key.length≠32\/l.length≠22):E9 key l=1:=if_pos h
theorem am(a:key.length=32)(b:l.length=22)(h:¬ (E7 key (l.take 6)).take 16=l.drop 6):E9 key l=6:=by
 unfold E9;rw[if_neg (by omega),if_pos h]
theorem ao(a:key.length=32)(b:l.length=22)(h:(E7 key (l.take 6)).take 16=l.drop 6):E9 key l=NQ (l.getD 0 0) (l.getD 1 0) (Ac l 2):=by
 unfold E9;rw[if_neg (by omega),if_neg (λg=>g h)]
theorem UY(h:E9 key l=0):NF key l=tkA (l.getD 0 0) (l.getD 1 0) (Ac l 2):=if_pos h
theorem IZ(h:¬ E9 key l=0):NF key l=tkA 0 0 0:=if_neg h
theorem To(l:List Int):Ac (l.take 6) 2=Ac l 2:=by
 unfold Ac;rw[BF _ _ _ (by omega),BF _ _ _ (by omega),BF _ _ _ (by omega),BF _ _ _ (by omega)]
theorem WJ(vk vb:Value)(key l:List Int)(w:World)(z:Sl w vk key)(x:Sl w vb l)(ht:AK w) :
  Calls prog 127 #[vk,vb] w λe w'=>e=.returned (.tuple #[.agg (NF key l),.int .i64 (E9 key l)])/\Bw w w':=by
 have lk:=z.len;have ll:=x.len;obtain⟨ak,ck,rfl⟩:=z.shape;obtain⟨U,Y,rfl⟩:=x.shape;have i:Bw w (w.alloc (.cells (tkA 0 0 0) 59)):=(Below.refl _ _).alloc (A' _) _;have L:=heap_alloc_new w (.cells (tkA 0 0 0) 59);have d:=Jr 0 0 0;by_cases o:key.length=32
 .by_cases h2:l.length=22
  .have H1:Hid (key.length=32):=o;have t:Hid (l.length=22):=h2;rw[o]at z ⊢
   rw[h2]at x ⊢
   clear lk ll o h2;have v:w.alloc (.cells #[.int .i64 0,.int .i64 0,.int .i64 0] 59)=w.alloc (.cells (tkA 0 0 0) 59):=rfl;generalize w.alloc (.cells (tkA 0 0 0) 59)=W at i L v;obtain⟨S,V,C,s6⟩:=x.ov 6 (by have:=t.out;omega);have r6:∀ W,(Instr.slice 39 (.slice U 22 Y) none (some (.int .i64 6)) none).run prog W=.ok (.slice S 6 V) W:=C;obtain⟨T,X,D,s7⟩:=x.from 6 (by have:=t.out;omega);have r7:∀ W,(Instr.slice 39 (.slice U 22 Y) (some (.int .i64 6)) none none).run prog W=.ok (.slice T 16 X) W:=D;clear C D;have R:Hid ((l.take 6).length=6):=by unfold Hid;rw[X',t.out];rfl
   go_enter func127,ntmps127
   go_wp2_with fail
   clear v;refine(RB _ _ key (l.take 6) W (z.af i) (s6.af i) (by rw[H1.out];omega) (by rw[R.out];omega) (ht.af i)).mono ?_;rintro e M ⟨v1,rfl,s1,N⟩;have P:=i.trans (N.mono i.size);have q1:=(N.block w.heap.size (Q'.1 L).1).trans L;have E:=s7.af P;clear N i L;go_wp2_with fail
   refine(Ji v1 (.slice T 16 X) _ _ M s1 E).mono ?_;rintro e w2 ⟨rfl,m,rfl⟩;have n:Bw w (M.drewN m):=Ap P m;have s:(M.drewN m).heap[w.heap.size]?=some (.cells (tkA 0 0 0) 59):=q1;clear q1 P s1 E;generalize M.drewN m=W2 at n s ⊢;by_cases p:(E7 key (l.take 6)).take 16=l.drop 6
   .have HE:=ao H1.out t.out p;have b:Hid (E9 key l=0->NF key l=tkA (l.getD 0 0) (l.getD 1 0) (Ac l 2)):=UY;have j:Hid (¬ E9 key l=0->NF key l=tkA 0 0 0):=IZ;have F:Hid ((l.take 6).getD 0 0=l.getD 0 0/\(l.take 6).getD 1 0=l.getD 1 0/\Ac (l.take 6) 2=Ac l 2):=⟨BF _ _ _ (by omega),BF _ _ _ (by omega),To l⟩;rw[M' p];clear p;go_wp2_with fail
    refine(RI (.slice S 6 V) (l.take 6) W2 (s6.af n) (by rw[R.out];omega)).mono ?_;rintro e g ⟨rfl,O⟩;rw[F.out.1,F.out.2.1,F.out.2.2];have Q:=n.trans (O.mono n.size);have f:=(O.block w.heap.size (Q'.1 s).1).trans s;clear O s n F;generalize l.getD 0 0=c at HE b ⊢;generalize l.getD 1 0=r at HE b ⊢;generalize Ac l 2=u at HE b ⊢;have y:=Jr c r u;have H:Bw g (g.alloc (.cells (tkA 0 0 0) 59)):=(Below.refl _ _).alloc (A' _) _;have K:=heap_alloc_new g (.cells (tkA 0 0 0) 59);have v:g.alloc (.cells #[.int .i64 0,.int .i64 0,.int .i64 0] 59)=g.alloc (.cells (tkA 0 0 0) 59):=rfl;generalize g.alloc (.cells (tkA 0 0 0) 59)=W4 at H K v;have A:w.heap.size<g.heap.size:=(Q'.1 f).1
    go_upto_region 10 with(refine wpList_store_row rfl 59 (.tmp 9) (.tmp 38) rfl g.heap.size (tkA c r u) rfl rfl 59 _ K y rfl (Jq c r u) ?_)
    clear v;have k:=setRow_heap W4 g.heap.size _ (tkA c r u) 59 _ K;replace f:=((H.block w.heap.size A).trans f);replace f:=(setRow_other W4 g.heap.size w.heap.size (tkA c r u) (by omega)).trans f;have J:=C6 (Q.trans (H.mono Q.size)) (show w.heap.size<=g.heap.size by omega) (tkA c r u);generalize W4.setRow g.heap.size (tkA c r u)=W5 at f k J ⊢;clear K H Q;generalize g.heap.size=G at k A ⊢;go_wp2_with (refine wpList_load_row rfl 59 _ rfl G rfl 59 _ (0,0) _ k underlying59 rfl y ?_)
    refine(JH c r u W5).mono ?_;rintro e w6 ⟨rfl,I⟩;have Z:=J.trans (I.mono J.size);replace f:=(I.block w.heap.size (Q'.1 f).1).trans f;replace k:=(I.block G (Q'.1 k).1).trans k;clear I J;by_cases q:Dz c r u
    .have a:Hid (E9 key l=0):=HE.trans (Ls q);have h:Hid (NF key l=tkA c r u):=b.out a.out;rw[M' q];clear HE b j q;go_wp2_with (first|(refine wpList_load_row rfl 59 _ rfl G rfl 59 _ (0,0) _ k underlying59 rfl y ?_)|(refine wpList_store_row rfl 59 (.tmp 4) (.tmp 43) rfl w.heap.size (tkA c r u) rfl rfl 59 _ f y rfl (Jq c r u) ?_))
     have B:=setRow_heap w6 w.heap.size _ (tkA c r u) 59 _ f;refine bodyPost_ret (Kw rfl _ _ w.heap.size 59 _ (0,0) _ rfl B underlying59 rfl y) rfl ?_;rw[a.out,h.out];exact⟨rfl,C6 Z (A' _) _⟩
    .have a:Hid (E9 key l=2):=HE.trans (Vm q);have h:Hid (NF key l=tkA 0 0 0):=j.out (by rw[a.out];omega);rw[D' q];clear HE b j q;go_wp2_with (refine wpList_store_row rfl 59 (.tmp 4) (.tmp 42) rfl w.heap.size (tkA 0 0 0) rfl rfl 59 _ f d rfl (Jq 0 0 0) ?_)
     have B:=setRow_heap w6 w.heap.size _ (tkA 0 0 0) 59 _ f;refine bodyPost_ret (Kw rfl _ _ w.heap.size 59 _ (0,0) _ rfl B underlying59 rfl d) rfl ?_;rw[a.out,h.out];exact⟨rfl,C6 Z (A' _) _⟩
   .have a:Hid (E9 key l=6):=am H1.out t.out p;have h:Hid (NF key l=tkA 0 0 0):=IZ (by rw[a.out];omega);rw[D' p];clear p;go_wp2_with (refine wpList_store_row rfl 59 (.tmp 4) (.tmp 36) rfl w.heap.size (tkA 0 0 0) rfl rfl 59 _ s d rfl (Jq 0 0 0) ?_)
    have B:=setRow_heap W2 w.heap.size _ (tkA 0 0 0) 59 _ s;refine bodyPost_ret (Kw rfl _ _ w.heap.size 59 _ (0,0) _ rfl B underlying59 rfl d) rfl ?_;rw[a.out,h.out];exact⟨rfl,C6 n (A' _) _⟩
  .have h2':¬ (l.length:Int)=22:=by omega
   have a:Hid (E9 key l=1):=O6 (.inr h2);have h:Hid (NF key l=tkA 0 0 0):=IZ (by rw[a.out];omega);rw[o]at z ⊢
   clear o;go_enter func127,ntmps127
   go_wp2
   refine bodyPost_ret (Kw rfl _ _ w.heap.size 59 _ (0,0) _ rfl (heap_alloc_new _ _) underlying59 rfl d) rfl ?_;rw[a.out,h.out];exact⟨rfl,i⟩
 .have h1':¬ (key.length:Int)=32:=by omega
  have a:Hid (E9 key l=1):=O6 (.inl o);have h:Hid (NF key l=tkA 0 0 0):=IZ (by rw[a.out];omega);go_enter func127,ntmps127
  go_wp2
  refine bodyPost_ret (Kw rfl _ _ w.heap.size 59 _ (0,0) _ rfl (heap_alloc_new _ _) underlying59 rfl d) rfl ?_;rw[a.out,h.out];exact⟨rfl,i⟩
end
end
section
section
def Ra(l:List Int):Int:=if l=[]then 13 else if 7<l.getD 0 0 then 2 else CL (Hm (l.getD 0 0)) 0 0 noB (l.drop 1)
def Px(l:List Int):List Int:=if Ra l=0 then KE (Hm (l.getD 0 0)) (l.drop 1)else[]
def unT(l:List Int):List Int:=(Px l).take 22
def unQ(l:List Int):List Int:=(Px l).drop 22
def unB(l:List Int):Prop:=Ra l=0/\(Px l).length=42/\E9 Hl (unT l)=0
instance (l:List Int):Decidable (unB l):=by unfold unB;exact inferInstance
def unE(l:List Int):Int:=if Ra l≠0 then Ra l else if(Px l).length≠42 then 3 else if E9 Hl (unT l)≠0 then E9 Hl (unT l)else Cx (unQ l)
variable{i:Nat}{l:List Int}{now:Int}
theorem RJ(h:unE l=0):unB l/\Cx (unQ l)=0:=by
 unfold unE at h;split at h
 .rename_i g;exact absurd h g
 .rename_i g1
  split at h
  .cases h
  .rename_i g2
   split at h
   .rename_i g;exact absurd h g
   .rename_i g3
    exact⟨⟨mI.1 g1,mI.1 g2,mI.1 g3⟩,h⟩
theorem lN(h:unE l=0):0<l.length:=by
 obtain⟨⟨a,_⟩,_⟩:=RJ h;cases l with
 | nil=>cases a
 | cons x r=>simp
def opE(l:List Int)(now:Int):Int :=
 if unE l≠0 then unE l
 else if Ac (unQ l) 0≠0/\Ac (unQ l) 4≠l.getD 0 0 then 11
 else Fg ((unT l).getD 0 0) ((unT l).getD 1 0) (Ac (unT l) 2) (Ac (unQ l) 0) (Ac (unQ l) 4) (Ac (unQ l) 8) (Ac (unQ l) 12) (Ac (unQ l) 16) now
def opA(l:List Int)(now:Int):Array Value:=if opE l now=0 then cmA (Ac (unQ l) 0) (Ac (unQ l) 4) (Ac (unQ l) 8) (Ac (unQ l) 12) (Ac (unQ l) 16)else cmA 0 0 0 0 0
theorem Pv(h:opE l now≠0):opA l now=cmA 0 0 0 0 0:=if_neg h
theorem ZK(h:opE l now=0):opA l now=cmA (Ac (unQ l) 0) (Ac (unQ l) 4) (Ac (unQ l) 8) (Ac (unQ l) 12) (Ac (unQ l) 16):=if_pos h
def Nod.hZ(p:Nod)(i:Nat):Nod × List Let :=
 if(AZ p.vo.p p.bw (p.au.take 40)).1=[]then({ p with bw:=(AZ p.vo.p p.bw (p.au.take 40)).2 },[])
 else if p.vo.p.n=(i:Int)then(Nod.dT { p with bw:=(AZ p.vo.p p.bw (p.au.take 40)).2 } (AZ p.vo.p p.bw (p.au.take 40)).1,[])
 else({ p with bw:=(AZ p.vo.p p.bw (p.au.take 40)).2 },[{ BJ 6 with bn:=p.ab.length,ed:=(AZ p.vo.p p.bw (p.au.take 40)).1,src:=i,dst:=p.vo.p.n.toNat }])
noncomputable def rG(i:Nat):List Cmd->Nod->List Tol->Nod × List Tol
 | [],p,ts=>(p,ts)
 | c::l,p,ts =>
  if doE p.lr c≠0 then(p,ts)
  else rG i l (Nod.fv { p with lr:=doS p.lr c,done:=p.done+1 } c) (if(p.bw c).isSome=true then ts++[⟨i,c.c,c.s,doC p.lr c,doA p.lr c⟩]else ts)
def Nod.mv(p:Nod)(i:Nat)(ls:List Let):Nod × List Let:=if p.sy<(p.d.length:Int)/\Dc p.d p.sy≠0 then(p,ls)else nn i p.bt { p.rF with bt:=[] } ls
def Nod.bu(p:Nod)(i:Nat)(ls:List Let):Nod × List Let:=if p.leads then(E6 p i 5,ls++Dp p i 5)else(p,ls)
noncomputable def Nod.piece(p:Nod)(i:Nat)(ls:List Let)(ts:List Tol):Nod × List Let × List Tol :=
 let a:=rG i (p.ab.drop p.done) p ts
 let b:=a.1.hZ i
 let c:=b.1.cl.mv i (ls++b.2)
 let d:=c.1.bu i c.2
 (d.1,d.2,a.2)
noncomputable def Nod.rO(p:Nod)(i:Nat)(e:Int)(c:Cmd)(ts:List Tol):Nod × List Tol :=
 if p.up=false then(p,ts)
 else if e≠0 then({ p with bad:=p.bad+1 },ts)
 else if c∈p.ab.take p.done then(p,ts++[⟨i,c.c,c.s,doC p.lr c,doA p.lr c⟩])
 else(p.want c,ts)
def Ho(l:List Int)(now:Int):Cmd:=if opE l now=0 then⟨Ac (unQ l) 0,Ac (unQ l) 4,Ac (unQ l) 8,Ac (unQ l) 12,Ac (unQ l) 16⟩else VC
theorem iU(l:List Int)(a:Int):opA l a=cmC (Ho l a):=by unfold opA Ho;split<;>rfl
noncomputable def Nod.rN(p:Nod)(i:Nat)(d:List Int)(ts:List Tol):Nod × List Tol:=p.rO i (opE d (p.done:Int)) (Ho d (p.done:Int)) ts
def Meet.set(M:Meet)(i:Nat)(p:Nod)(ls:List Let)(ts:List Tol):Meet:=⟨upN M.ae i p,ls,ts⟩
noncomputable def Meet.act(M:Meet)(x:Lac):Meet :=
 let i:=x.n.toNat
 if x.k=1 then M.set i ((M.ae i).rN i x.d M.eo).1 M.br ((M.ae i).rN i x.d M.eo).2
 else if x.k=2 then M.set i (if(M.ae i).up then(M.ae i).lead i else M.ae i) M.br M.eo
 else if x.k=3 then M.set i (if(M.ae i).up then((M.ae i).piece i M.br M.eo).1 else M.ae i) (if(M.ae i).up then((M.ae i).piece i M.br M.eo).2.1 else M.br) (if(M.ae i).up then((M.ae i).piece i M.br M.eo).2.2 else M.eo)
 else if x.k=4\/x.k=5\/x.k=6 then M.move x.k x.a.toNat
 else if x.k=7 then M.rE
 else if x.k=8 then M.set i (if(M.ae i).up then(M.ae i).kc x.p else M.ae i) M.br M.eo
 else if x.k=9 then M.set i (if(M.ae i).up then M.ae i else(M.ae i).start) M.br M.eo
 else M
noncomputable def Meet.dW(M:Meet)(l:List Lac):Meet:=l.foldl Meet.act M
theorem eU(r:List Int):Aq (Eb r).2.p/\BU (Eb r).2.vs:=by
 have h:∀ k,Aq (itR r k).2.p/\BU (itR r k).2.vs:=by
  intro k;induction k with
  | zero=>exact⟨.inr ⟨rfl,rfl⟩,BU.nil⟩
  | succ k ih =>
   rw[itR];unfold Ks;split
   .exact ih
   .rename_i c m hs
    have d:∃ b,DJ (itR r k).2 b=some c:=by
     unfold Cc at hs;split at hs
     .cases hs
     .split at hs
      .cases hs
      .split at hs
       .cases hs
       .obtain⟨x,hx,e⟩:=ol.1 hs;injection e with e1 e2
        subst e1;exact⟨_,hx⟩
    obtain⟨b,a⟩:=d;unfold DJ at a;split at a
    .split at a
     .rename_i h1
      injection a with a;subst a
      exact⟨.inl (Co h1).2.1,ih.2⟩
     .cases a
    .split at a
     .split at a
      .split at a
       .rename_i h1
        injection a with a;subst a
        exact⟨.inl (Ar h1).2.1.2.1,Gx ih.2 (Ar h1).2.1⟩
       .cases a
      .cases a
     .cases a
 exact h r.length
theorem eT(d:List Int)(s:Int):Aq (G8 d s).p/\BU (G8 d s).vs:=by
 unfold G8;split
 .exact eU d
 .exact⟨.inr ⟨rfl,rfl⟩,BU.nil⟩
theorem CI{l m:Let}{k:Nat}(h:m∈BZ i l k):∃ to,to<k/\m={ l with src:=i,dst:=to }:=by
 unfold BZ at h;obtain⟨to,a,rfl⟩:=mW.1 h;exact⟨to,ou.1 (pR.1 a).1,rfl⟩
theorem JP(a:i<5)(l:Let):(BZ i l 5).length<=4:=by
 unfold BZ;rw[mV];rcases rk a with rfl|rfl|rfl|rfl|rfl<;>decide
end
section
variable{n i:Nat}{p:Nod}
theorem NOk.ln(h:NOk n p)(a:i<5){q:Pend}(c:POk p.ab.length q):NOk n (p.ln i q)/\(p.ln i q).bt=p.bt/\p.ab.length<=(p.ln i q).ab.length/\RQ p i q/\(∀ m∈p.rz i q,LOk m)/\(p.rz i q).length<=q.wt:=by
 have g:=h.ag;have one:∀ {l:Let},LOk l->∀ m∈[l],LOk m:=λj m d=>by rw[E'.1 d];exact j
 cases q with
 | began b vs =>
  unfold Nod.ln Nod.rz;refine⟨?_,?_,?_,qy (h.he i).len (by decide),?_,?_⟩
  .simp only;split
   .exact h
   .exact h.rK i c
  .simp only;split<;>rfl
  .simp only;split<;>exact A' _
  .simp only;split
   .exact λm d=>by cases d
   .rename_i h1
    intro m d;obtain⟨to,e,rfl⟩:=CI d;exact⟨by show 0<7;decide,a,e,by show Aq b;rw[<- nz h1];exact h.vp,BU.nil,by show 0<=40;decide,λh=>by cases h⟩
  .simp only;split
   .exact mY _
   .exact JP a _
 | prom to b vs=>exact⟨h,rfl,A' _,trivial,one ⟨by show 1<7;decide,a,c.1,c.2.1,c.2.2,g,λh=>by cases h⟩,A' _⟩
 | voted to v=>exact⟨h,rfl,A' _,trivial,one ⟨by show 4<7;decide,a,c,Aq.b0,BU.nil,by show 0<=40;decide,λh=>by cases h⟩,A' _⟩
 | eb to b=>exact⟨h,rfl,A' _,trivial,one ⟨by show 2<7;decide,a,c.1,c.2,BU.nil,by show 0<=40;decide,λh=>by cases h⟩,A' _⟩
 | prop v =>
  have f:=h.count i v;refine⟨f.1,f.2.1,f.2.2,g,λm d=>?_,JP a _⟩;obtain⟨to,e,rfl⟩:=CI d;exact⟨by show 3<7;decide,a,e,Aq.b0,BU.nil,by show 0<=40;decide,λh=>by cases h⟩
 | askNews to=>exact⟨h,rfl,A' _,trivial,one ⟨by show 6<7;decide,a,c,Aq.b0,BU.nil,by show 0<=40;decide,λh=>by cases h⟩,A' _⟩
 | start =>
  refine⟨h,rfl,A' _,trivial,λm d=>?_,JP a _⟩;obtain⟨to,e,rfl⟩:=CI d;exact⟨by show 6<7;decide,a,e,Aq.b0,BU.nil,by show 0<=40;decide,λh=>by cases h⟩
 | tell to bn=>exact⟨h,rfl,A' _,c.2,one ⟨by show 5<7;decide,a,c.1,Aq.b0,BU.nil,by show(p.ab.drop bn).length<=40;rw[mM];omega,λ_=>by show bn+(p.ab.drop bn).length<=40;rw[mM];have:=c.2;omega⟩,A' _⟩
theorem Yw(j:i<5)(l:List Pend)(p:Nod)(ls:List Let)(h:NOk n p)(b:∀ q∈l,POk p.ab.length q)(y:ls.length+Ay l<90000000)(a:∀ m∈ls,LOk m) :
  NOk n (nn i l p ls).1/\(nn i l p ls).1.bt=p.bt/\(∀ m∈(nn i l p ls).2,LOk m)/\(nn i l p ls).2.length<=ls.length+Ay l/\GS i l p ls:=by
 induction l generalizing p ls with
 | nil=>exact⟨h,rfl,a,A' _,trivial⟩
 | cons q l ih =>
  obtain⟨c,d,e,f,g,x⟩:=h.ln j (b q O');have z:Ay (q::l)=q.wt+Ay l:=rfl;obtain⟨s,t,u,v,w⟩:=ih (p.ln i q) (ls++p.rz i q) c (λr o=>(b r (I' _ o)).mono e) (by rw[H'];omega) (λm k=>by
   rcases U'.1 k with h|h
   .exact a m h
   .exact g m h)
  refine⟨s,t.trans d,u,?_,f,by omega,w⟩;show(nn i l (p.ln i q) (ls++p.rz i q)).2.length<=_;rw[H']at v;omega
theorem NOk.rF(h:NOk n p):NOk n { p.rF with bt:=[] }:=by
 unfold Nod.rF;split
 .exact{ h with pe:=λq a=>by cases a }
 .exact{ h with pe:=λq a=>by cases a }
theorem Uc(p:Nod):p.rF.ab=p.ab:=by unfold Nod.rF;split<;>rfl
theorem NOk.mv(h:NOk n p)(d:i<5){ls:List Let}(c:ls.length+Ay p.bt<90000000)(b:∀ m∈ls,LOk m) :
  NOk n (p.mv i ls).1/\(∀ m∈(p.mv i ls).2,LOk m)/\(p.mv i ls).2.length+Ay (p.mv i ls).1.bt<=ls.length+Ay p.bt/\GS i p.bt { p.rF with bt:=[] } ls:=by
 have a:=Yw d p.bt { p.rF with bt:=[] } ls h.rF (λq e=>by show POk p.rF.ab.length q;rw[Uc];exact h.pe q e) c b;unfold Nod.mv;split
 .exact⟨h,b,A' _,a.2.2.2.2⟩
 .exact⟨a.1,a.2.2.1,by rw[a.2.1];exact a.2.2.2.1,a.2.2.2.2⟩
theorem XL(b:Bal)(f:Cmd->Option Bal)(l:List Cmd):(AZ b f l).1.length<=l.length:=by
 induction l generalizing f with
 | nil=>exact A' _
 | cons c l ih =>
  rw[AZ];split
  .have:=ih (Ca f c (some b));simp only[nc];omega
  .have:=ih f;simp only[nc];omega
theorem V5(b:Bal)(f:Cmd->Option Bal)(l:List Cmd)(c:Cmd)(h:((AZ b f l).2 c).isSome=true):(f c).isSome=true\/c∈l:=by
 induction l generalizing f with
 | nil=>exact .inl h
 | cons d l ih =>
  rw[AZ]at h
  split at h
  .rcases ih _ h with h1|h1
   .unfold Ca at h1;split at h1
    .rename_i e;exact .inr (e▸O')
    .exact .inl h1
   .exact .inr (I' _ h1)
  .rcases ih _ h with h1|h1
   .exact .inl h1
   .exact .inr (I' _ h1)
theorem NOk.asks(h:NOk n p):NOk n { p with bw:=(AZ p.vo.p p.bw (p.au.take 40)).2 } :=
 { h with ask:=λc a=>(V5 _ _ _ c a).elim (h.ask c) mT }
theorem NOk.hZ(h:NOk n p)(c:i<5):NOk n (p.hZ i).1/\(p.hZ i).1.bt=p.bt/\(p.hZ i).1.ab=p.ab/\(∀ m∈(p.hZ i).2,LOk m)/\(p.hZ i).2.length<=1:=by
 have b:(AZ p.vo.p p.bw (p.au.take 40)).1.length<=40:=mF (XL _ _ _) (by rw[X'];omega);unfold Nod.hZ;split
 .exact⟨h.asks,rfl,rfl,λm a=>(by cases a),mY _⟩
 .split
  .have:=h.asks.dT (AZ p.vo.p p.bw (p.au.take 40)).1;exact⟨this.1,this.2.1,this.2.2,λm a=>(by cases a),mY _⟩
  .have hr:=h.vp.tN;refine⟨h.asks,rfl,rfl,λm a=>?_,A' _⟩;rw[E'.1 a];exact⟨by show 6<7;decide,c,by show p.vo.p.n.toNat<5;omega,Aq.b0,BU.nil,b,λh=>by cases h⟩
theorem NOk.cl(h:NOk n p):NOk n p.cl/\Ay p.cl.bt<=Ay p.bt+4/\p.cl.ab=p.ab:=by
 unfold Nod.cl;split
 .exact⟨h,by omega,rfl⟩
 .split
  .exact⟨h,by omega,rfl⟩
  .rename_i c _
   split
   .exact⟨h,by omega,rfl⟩
   .have hv:=h.bN ⟨(p.ab.length:Int),p.an.fa,c⟩;have a:NOk n { (p.bN ⟨(p.ab.length:Int),p.an.fa,c⟩).1 with an:={ p.an with next:=p.ab.length+1 } }:={ hv.1 with qu:=h.qu,he:=h.he };refine⟨a.wait trivial,?_,hv.2.2.1⟩;show Ay ((p.bN ⟨(p.ab.length:Int),p.an.fa,c⟩).1.bt++[_])<=_;rw[FN,hv.2.1];exact A' _
theorem NOk.bu(h:NOk n p)(d:i<5)(ls:List Let)(c:∀ m∈ls,LOk m):NOk n (p.bu i ls).1/\(p.bu i ls).1.bt=p.bt/\(∀ m∈(p.bu i ls).2,LOk m)/\(p.bu i ls).2.length<=ls.length+5:=by
 have f:=h.ag;have e:∀ k,k<=5->∀ m∈Dp p i k,LOk m:=by
  intro k;induction k with
  | zero=>exact λ_ m a=>by cases a
  | succ k ih =>
   intro g m a;rw[Dp]at a
   rcases U'.1 a with h1|h1
   .exact ih (by omega) m h1
   .split at h1
    .rename_i b
     have b:=ng b;rw[E'.1 h1];exact⟨by show 5<7;decide,d,by show k<5;omega,Aq.b0,BU.nil,by show(p.ab.drop _).length<=40;rw[mM];omega,λ_=>by show p.an.bu k+(p.ab.drop _).length<=40;rw[mM];omega⟩
    .cases h1
 unfold Nod.bu;split
 .refine⟨{ h with qu:=h.qu,he:=h.he },rfl,λm a=>?_,by show(ls++Dp p i 5).length<=_;rw[H'];have:=Vk p i 5;omega⟩;rcases U'.1 a with h1|h1
  .exact c m h1
  .exact e 5 (A' _) m h1
 .exact⟨h,rfl,c,qW _ _⟩
theorem NOk.fv(h:NOk n p)(c:Cmd):NOk n (p.fv c)/\(p.fv c).au.length+(if(p.bw c).isSome=true then 1 else 0)<=p.au.length:=by
 unfold Nod.fv;split
 .rename_i h1
  have b:=h.ask c h1;have e:(p.au.erase c).length=p.au.length-1:=List.length_erase_of_mem b;have f:0<p.au.length:=List.length_pos_of_mem b;refine⟨{ h with wa:=?_,ask:=λd a=>?_ },by show(p.au.erase c).length+1<=_;omega⟩
  .show(p.au.erase c).length<=n;have:=h.wa;omega
  .unfold Ca at a;simp only at a;split at a
   .cases a
   .rename_i hne;exact(List.mem_erase_of_ne hne).2 (h.ask d a)
 .exact⟨h,A' _⟩
theorem GM(p:Nod)(c:Cmd):(p.fv c).up=p.up/\(p.fv c).bt=p.bt/\(p.fv c).ab=p.ab/\(p.fv c).done=p.done/\(p.fv c).lr=p.lr:=by
 unfold Nod.fv;split<;>exact⟨rfl,rfl,rfl,rfl,rfl⟩
theorem Ys(i:Nat)(l:List Cmd)(p:Nod)(ts:List Tol)(h:NOk n p)(g:p.done+l.length<=p.ab.length) :
  NOk n (rG i l p ts).1/\(rG i l p ts).1.bt=p.bt/\(rG i l p ts).1.ab=p.ab/\(rG i l p ts).2.length+(rG i l p ts).1.au.length<=ts.length+p.au.length:=by
 induction l generalizing p ts with
 | nil=>exact⟨h,rfl,rfl,A' _⟩
 | cons c l ih =>
  rw[rG];split
  .exact⟨h,rfl,rfl,A' _⟩
  .rw[nc]at g
   have f:NOk n { p with lr:=doS p.lr c,done:=p.done+1 }:={ h with dn:=by show p.done+1<=p.ab.length;omega };have d:=f.fv c;have a:=GM { p with lr:=doS p.lr c,done:=p.done+1 } c;obtain⟨j,k,m,o⟩:=ih (Nod.fv { p with lr:=doS p.lr c,done:=p.done+1 } c) (if(p.bw c).isSome=true then ts++[⟨i,c.c,c.s,doC p.lr c,doA p.lr c⟩]else ts) d.1 (by rw[a.2.2.2.1,a.2.2.1];show p.done+1+l.length<=p.ab.length;omega);refine⟨j,k.trans a.2.1,m.trans a.2.2.1,mF o ?_⟩;have b:=d.2;simp only at b;by_cases e:(p.bw c).isSome=true
   .rw[if_pos e]at b ⊢
    rw[H'];show ts.length+1+_<=_;omega
   .rw[if_neg e]at b ⊢;omega
theorem NOk.piece(h:NOk n p)(f:i<5){ls:List Let}{ts:List Tol}(r:ls.length+Ay p.bt<80000000)(k:∀ m∈ls,LOk m) :
  NOk n (p.piece i ls ts).1/\(∀ m∈(p.piece i ls ts).2.1,LOk m)/\(p.piece i ls ts).2.1.length+Ay (p.piece i ls ts).1.bt<=ls.length+Ay p.bt+10/\(p.piece i ls ts).2.2.length+(rG i (p.ab.drop p.done) p ts).1.au.length<=ts.length+p.au.length:=by
 have b:=Ys i (p.ab.drop p.done) p ts h (by rw[mM];have:=h.dn;omega);have a:=b.1.hZ f;have d:=a.1.cl;have e:=d.1.mv f (ls:=ls++((rG i (p.ab.drop p.done) p ts).1.hZ i).2) (by rw[H'];have:=d.2.1;have:=a.2.2.2.2;rw[a.2.1,b.2.1]at *;omega) (λm l=>by
  rcases U'.1 l with h|h
  .exact k m h
  .exact a.2.2.2.1 m h)
 have c:=e.1.bu f _ e.2.1;refine⟨c.1,c.2.2.1,?_,b.2.2.2⟩;have o:=c.2.2.2;have g:=e.2.2.1;have j:=d.2.1;have q:=a.2.2.2.2;rw[a.2.1,b.2.1]at j
 rw[H']at g
 show(Nod.bu _ i _).2.length+Ay (Nod.bu _ i _).1.bt<=_;rw[c.2.1];omega
end
end
section
open Go.RowKit
theorem Uh{g:Gh}{w:World}(L:∀ b,w.heap.size<=b->g.t b=.z/\g.k b=0) :
  Calls prog 24 #[] w λe w'=>∃ (b:Nat) (g':Gh),e=.returned (.map (some b))/\TkAt g' w' b 7/\Jx g' w'/\Cg w.heap.size [.n 70 0] g w g' w':=by
 refine gI (fn:=f24) [.n 70 0] g func24 L (qR [] 6 [] λW T X c1=>km 0 (by kernel_rfl) (by kernel_rfl) ?_);intro a U Y M v q V;have F:=q w.heap.size [];refine Ik 1 (b:=a) v (by decide) (by kernel_rfl) (by kernel_rfl) (by kernel_rfl) ?_;intro Z x r;have G:=r w.heap.size [.n 70 0] (E'.2 rfl);refine Ik 2 (b:=a) x (by decide) (by kernel_rfl) (by kernel_rfl) (by kernel_rfl) ?_;intro w6 y s;have H:=s w.heap.size [.n 70 0] (E'.2 rfl);refine Ik 3 (b:=a) y (by decide) (by kernel_rfl) (by kernel_rfl) (by kernel_rfl) ?_;intro w8 A u;have I:=u w.heap.size [.n 70 0] (E'.2 rfl);refine Ik 4 (b:=a) A (by decide) (by kernel_rfl) (by kernel_rfl) (by kernel_rfl) ?_;intro O B d;have l:=d w.heap.size [.n 70 0] (E'.2 rfl);refine Ik 5 (b:=a) B (by decide) (by kernel_rfl) (by kernel_rfl) (by kernel_rfl) ?_;intro P C h;have m:=h w.heap.size [.n 70 0] (E'.2 rfl);refine Ik 6 (b:=a) C (by decide) (by kernel_rfl) (by kernel_rfl) (by kernel_rfl) ?_;intro Q D i;have o:=i w.heap.size [.n 70 0] (E'.2 rfl);refine Ik 7 (b:=a) D (by decide) (by kernel_rfl) (by kernel_rfl) (by kernel_rfl) ?_;intro R E j;have p:=j w.heap.size [.n 70 0] (E'.2 rfl);refine qR [] 3 [] λN J S c=>qE (.map (some a)) λK=>⟨a,_,rfl,(E.ch c),K.new,((((((((((c1.nil [.n 70 0]).n F).trans G).trans H).trans I).trans l).trans m).trans o).trans p).n c)⟩
theorem LF{g:Gh}{w:World}{p q y:Nat}{nb:Nat->Nat}{M:Meet}(h:MS p q y nb g w M){w0:World}(hB:Base w0 g w)(hT:Tabs w0)(v:Nat)(l:Let)(hl:CP g w v l)(H:LOk l){n:Nat}(s:NOk n (M.ae l.dst))(u:(M.ae l.dst).bt.length<100000000) :
  Calls prog 67 #[pt p 0,pt v 0] w (MP p q y nb g w (.tuple #[]) (M.ni l)):=by
 have m:=hl;obtain⟨O,src,dst,A,bN,i,o,c⟩:=l;have hs:src<5:=H.src;have j:dst<5:=H.dst;have a7:O<7:=H.kd;have b6:c.length<=40:=H.wh;simp only at s u;obtain⟨x,hN⟩:=h.ae dst j;have b5:=s.ag;refine gI (fn:=f67) TM g func67 h.new (Cr ⟨p,_,.z,false⟩ (λ_=>⟨h.box.r,h.box.z,λh=>(by cases h),λh=>absurd rfl h⟩) (by kernel_rfl) ?_);obtain⟨vs,wh,a8,d2,d3⟩:=hl;refine Cr ⟨v,.cells (FD (Let.mk O src dst A bN i o c) vs wh) 142,.z,false⟩ (λ_=>⟨a8.r,a8.z,λh=>(by cases h),λh=>absurd rfl h⟩) (by kernel_rfl) ?_;refine qR [] 9 [10,0,2,4,6,8,1,10,12] λs1 g1 w1 c1=>?_;refine Q8 7 (pt p dst) false (λW hW=>(by rcases rk j with rfl|rfl|rfl|rfl|rfl<;>kernel_rfl)) (by kernel_rfl) ?_;refine qU 8 (pt (nb dst) 0) (λW hW=>(Db underlying70 rfl (UU (AV.at (hW rfl) 0 p (.cells (mtA nb y q) 73) .z (by kernel_rfl)) j))) (qR [] 7 [18] λs3 g3 w3 a=>?_);have b4:=hN.ch (c1.trans a);refine qN b4 (qR [] 2 [2] λs4 g4 w4 b=>?_);by_cases h1:(M.ae dst).up=true
 .refine qI ((M.ae dst).up) true h1 ?_;have J:=h.tk.ch ((c1.trans a).trans b) (by simp);refine IG q _ 70 0 J.row J.t J.k (by kernel_rfl) ?_;rw[show M.ni (Let.mk O src dst A bN i o c)=M.set dst ((M.ae dst).take (Let.mk O src dst A bN i o c)) M.br M.eo from if_pos h1];refine qR [] 9 [11,0,2,4,6,0,8,10,12,14,1] λs5 g5 w5 d=>qU 8 (tkV O) (λW hW=>(rTk (AV.at (hW rfl) 3 q (.map (tkL 7).toArray 7) (.n 70 0) (by kernel_rfl)) a7)) (qR [] 2 [18,20] λs6 I L e=>?_);rcases aY a7 with rfl|rfl|rfl|rfl|rfl|rfl|rfl
  .refine Af λK=>?_;have N7:MS p q y nb I L M:=(h.rH ((((c1.trans a).trans b).trans d).trans e) K.new);refine qG 11 TM [true,true,false,false] ((N7).call j (Jo ((N7).ns j) (hB.ch (((((c1.nil TM).n a).n b).n d).n e) F0) hT v _ (m.ch ((((c1.trans a).trans b).trans d).trans e) (by simp)) rfl u)) ?_;rintro N w7 ⟨g7,rfl,M7,c7⟩;refine⟨_,g7,rfl,c7,M7.new,?_⟩;replace c7:=c7.ret (B:=w.heap.size);refine qR [] 1 [] λs8 g8 w8 c8=>qE (.tuple #[]) λK=>⟨_,rfl,(M7.rH c8 K.new),(((((((c1.nil TM).n a).n b).n d).n e).trans (c7)).n c8)⟩
  .refine Af λK=>?_;have N9:MS p q y nb I L M:=(h.rH ((((c1.trans a).trans b).trans d).trans e) K.new);refine qG 11 TM [true,true,false,false] ((N9).call j (KZ ((N9).ns j) (hB.ch (((((c1.nil TM).n a).n b).n d).n e) F0) hT v _ (m.ch ((((c1.trans a).trans b).trans d).trans e) (by simp)) rfl hs (by show((M.ae dst).ab++c.drop ((M.ae dst).ab.length-0)).length<=40;rw[H',mM];omega) b6 (qy (s.he src).len (by decide)))) ?_;rintro N w9 ⟨g9,rfl,M9,c9⟩;refine⟨_,g9,rfl,c9,M9.new,?_⟩;replace c9:=c9.ret (B:=w.heap.size);refine qR [] 1 [] λd4 b7 e1 a0=>qE (.tuple #[]) λK=>⟨_,rfl,(M9.rH a0 K.new),(((((((c1.nil TM).n a).n b).n d).n e).trans (c9)).n a0)⟩
  .refine Af λK=>?_;have U:MS p q y nb I L M:=(h.rH ((((c1.trans a).trans b).trans d).trans e) K.new);refine qG 11 TM [true,true,false,false] ((U).call j (La ((U).ns j) v _ (m.ch ((((c1.trans a).trans b).trans d).trans e) (by simp)))) ?_;rintro N e2 ⟨a9,rfl,P,C⟩;refine⟨_,a9,rfl,C,P.new,?_⟩;replace C:=C.ret (B:=w.heap.size);refine qR [] 1 [] λd5 b8 e3 a1=>qE (.tuple #[]) λK=>⟨_,rfl,(P.rH a1 K.new),(((((((c1.nil TM).n a).n b).n d).n e).trans (C)).n a1)⟩
  .refine Af λK=>?_;have V:MS p q y nb I L M:=(h.rH ((((c1.trans a).trans b).trans d).trans e) K.new);refine qG 11 TM [true,true,false,false] ((V).call j (JY ((V).ns j) (hB.ch (((((c1.nil TM).n a).n b).n d).n e) F0) hT v _ (m.ch ((((c1.trans a).trans b).trans d).trans e) (by simp)) rfl u (by have:=s.vs.len;omega))) ?_;rintro N e4 ⟨b0,rfl,Q,D⟩;refine⟨_,b0,rfl,D,Q.new,?_⟩;replace D:=D.ret (B:=w.heap.size);refine qR [] 1 [] λd6 b9 e5 a2=>qE (.tuple #[]) λK=>⟨_,rfl,(Q.rH a2 K.new),(((((((c1.nil TM).n a).n b).n d).n e).trans (D)).n a2)⟩
  .refine Af λK=>?_;have X:MS p q y nb I L M:=(h.rH ((((c1.trans a).trans b).trans d).trans e) K.new);refine qG 11 TM [true,true,false,false] ((X).call j (PN ((X).ns j) (hB.ch (((((c1.nil TM).n a).n b).n d).n e) F0) hT v _ (m.ch ((((c1.trans a).trans b).trans d).trans e) (by simp)) hs b5)) ?_;rintro N e6 ⟨b1,rfl,R,E⟩;refine⟨_,b1,rfl,E,R.new,?_⟩;replace E:=E.ret (B:=w.heap.size);refine qR [] 1 [] λd7 c0 e7 a3=>qE (.tuple #[]) λK=>⟨_,rfl,(R.rH a3 K.new),(((((((c1.nil TM).n a).n b).n d).n e).trans (E)).n a3)⟩
  .refine Af λK=>?_;have Y:MS p q y nb I L M:=(h.rH ((((c1.trans a).trans b).trans d).trans e) K.new);refine qG 11 TM [true,true,false,false] ((Y).call j (PM ((Y).ns j) v _ (m.ch ((((c1.trans a).trans b).trans d).trans e) (by simp)) rfl u (by omega) (by show c.length<_;omega))) ?_;rintro N e8 ⟨b2,rfl,S,F⟩;refine⟨_,b2,rfl,F,S.new,?_⟩;replace F:=F.ret (B:=w.heap.size);refine qR [] 1 [] λd8 c2 e9 a4=>qE (.tuple #[]) λK=>⟨_,rfl,(S.rH a4 K.new),(((((((c1.nil TM).n a).n b).n d).n e).trans (F)).n a4)⟩
  .refine Af λK=>?_;have Z:MS p q y nb I L M:=(h.rH ((((c1.trans a).trans b).trans d).trans e) K.new);refine qG 11 TM [true,true,false,false] ((Z).call j (MQ ((Z).ns j) v _ (m.ch ((((c1.trans a).trans b).trans d).trans e) (by simp)) rfl u (by show c.length<_;omega) s.qu)) ?_;rintro N f0 ⟨b3,rfl,T,G⟩;refine⟨_,b3,rfl,G,T.new,?_⟩;replace G:=G.ret (B:=w.heap.size);refine qR [] 1 [] λd9 d0 f1 a5=>qE (.tuple #[]) λK=>⟨_,rfl,(T.rH a5 K.new),(((((((c1.nil TM).n a).n b).n d).n e).trans (G)).n a5)⟩
 .refine qI ((M.ae dst).up) false (by simpa using h1) (qR [] 1 [] λe0 d1 f2 a6=>qE (.tuple #[]) λK=>?_);rw[show M.ni (Let.mk O src dst A bN i o c)=M from if_neg h1];exact⟨_,rfl,(h.rH (((c1.trans a).trans b).trans a6) K.new),((((c1.nil TM).n a).n b).n a6)⟩
section
variable{P:Program}{B:Nat}{T:List Tg}{g:Gh}{w:World}
section
variable{x:S3}{xs:List Value}{τ:Tg}
theorem OwnS.sS{e:TypeId}{sz:Nat}(h:OwnS g w τ false e sz x xs){k:Nat}(d:k<=x.n)(f:0<x.n):OwnS g w τ false e sz ⟨x.a,k,x.c⟩ (xs.take (k*sz)):=by
 have j:=h.len;have i:k*sz<=x.n*sz:=oS _ d;refine⟨by rw[X'];show min _ _=k*sz;omega,?_⟩;rcases h.ex with⟨h1,h2,h3⟩|⟨b,cur,h1,h2,h3,h4,h5,h6,h7,h8⟩
 .omega
 .refine .inr ⟨b,cur,h1,h2,mF d h3,h4,h5,?_,h7,h8⟩;show cur.toList.take (k*sz)=xs.take (k*sz);rw[<- h6,pj,n8 i]
theorem jS(t ty e:TypeId)(i:TypeInfo)(H:P.underlying t=some (.slice e))(D:P.info? e=some i)(s:τ∈T)(z:OwnS g w τ false e i.size x xs)(a:Addr)(m c:Nat)(news:List Value)(F:0<x.c)(r:news.length=m*i.size)(l:∀ j u,news[j]?=some u->w.cell? (a.add j)=some u)(A:∀ u∈news,u.oneCell'=true)(f:x.n+m<=x.c) :
  ∃ w',(Builtin.append_ #[t,t] ty #[x.v,.slice (some a) m c]).run P w=.ok (S3.v ⟨x.a,x.n+m,x.c⟩) w'/\OwnS g w' τ false e i.size ⟨x.a,x.n+m,x.c⟩ (xs++news)/\Cg B T g w g w'/\w'.heap.size=w.heap.size:=by
 obtain⟨J,y,I⟩:=x;have h:(xs++news).length=(y+m)*i.size:=by rw[H',z.len,r,pX]
 rcases z.ex with⟨h2,h3,h4⟩|⟨b,cur,h2,h3,h4,h5,h6,h7,h8,h9⟩
 .simp only at h4 f F;omega
 .simp only at h2 h4 h5 h6 h7 f;subst h2;have p:y*i.size+news.length<=cur.size:=by rw[r,h6,<- pX];exact oS _ f
  have G:=run_append_room (P:=P) w t ty e i H D b y I cur h3 a m c news r l A f p;have o:g.k b=0:=by simpa using h9
  refine⟨_,G,⟨h,.inr ⟨b,_,rfl,setRow_heap w b cur _ e _ h3,f,h5,?_,?_,h8,by rw[o];rfl⟩⟩,⟨rfl,rfl,rfl,by simp,λ_ _=>.inl rfl,λ_ _=>A' _,λ_ _ _ _=>rfl,λd C q _=>setRow_other w b d _ (λe=>q (by rw[e,h8];exact s)),λd C j E=>?_⟩,by simp⟩
  .simp only[oT,H',X',mM,oe];omega
  .rw[h7,<- h];exact qz
  .exact World.cell?_of_block (w:=w) (setRow_other w b d _ (λe=>by rw[e,o]at E;omega))
theorem jY(t ty e:TypeId)(z:Value)(sz:Nat)(G:P.underlying t=some (.slice e))(H:∀ w,(zeroValue e).run P w=.ok z w)(q:z.cells.size=sz)(y:0<sz)(A:∀ j,j<sz->(z.cells[j]!).oneCell'=true)(C:τ∈T)(D:OwnS g w τ false e sz x xs){b:Nat}(r:x.a=some ⟨b,0,none⟩)(k c:Nat)(I:0<k)(h:x.n+k<=x.c) :
  ∃ w',(Builtin.clear_ #[t] ty #[.slice (some ⟨b,x.n*sz,none⟩) k c]).run P w=.ok (.tuple #[]) w'/\OwnS g w' τ false e sz x xs/\Cg B T g w g w'/\w'.heap.size=w.heap.size:=by
 rcases D.ex with⟨h2,h3,h4⟩|⟨b',cur,h2,h3,h4,h5,h6,h7,h8,h9⟩
 .rw[h2]at r;cases r
 .rw[r]at h2
  simp only[Y',Addr.mk.injEq,and_true]at h2;subst h2;have s:g.k b=0:=by simpa using h9
  have i:(Builtin.zeroCells z.cells k).toList.length=k*sz:=by rw[oe,size_zeroCells,q]
  have f:x.n*sz+0+(Builtin.zeroCells z.cells k).toList.length<=cur.size:=by rw[i,h6,oZ,<- pX];exact oS _ h
  have l:∀ v∈(Builtin.zeroCells z.cells k).toList,v.oneCell'=true:=by
   intro v p;simp only[Builtin.zeroCells,Array.toList_map,mW]at p;obtain⟨j,_,rfl⟩:=p;exact A _ (by rw[q];exact Nat.mod_lt _ y)
  have o:=run_storeCells_at (P:=P) b (x.n*sz) e (Builtin.zeroCells z.cells k).toList 0 cur w h3 f l;simp only[oZ]at o;obtain⟨m,rfl⟩:∃ m,k=m+1:=⟨k-1,by omega⟩;refine⟨_,by simp only[Builtin.clear_,nN,nX,Sem.run_bind,run_underlying G,Result.andThen_ok,H,o];rfl,⟨D.len,.inr ⟨b,_,r,setRow_heap w b cur _ e _ h3,h4,h5,?_,?_,h8,h9⟩⟩,⟨rfl,rfl,rfl,by simp,λ_ _=>.inl rfl,λ_ _=>A' _,λ_ _ _ _=>rfl,λd E u _=>setRow_other w b d _ (λe=>u (by rw[e,h8];exact C)),λd E j F=>?_⟩,by simp⟩
  .rw[i]at f ⊢
   simp only[oT,H',X',mM,oe,i];simp only[oZ]at f;omega
  .have hle:x.n*sz<=cur.toList.length:=by rw[oe,h6];exact oS _ h4
   show(cur.toList.take (x.n*sz)++_++_).take (x.n*sz)=xs;rw[mH,nt (by rw[X'];omega),pj,Nat.min_self,h7]
  .exact World.cell?_of_block (w:=w) (setRow_other w b d _ (λe=>by rw[e,s]at F;omega))
end
end
section
variable{fn:Func}{R:Ending->World->Prop}{B:Nat}{T:List Tg}{g:Gh}{w W:World}
section
theorem KI(b o k:Nat):(⟨b,o,none⟩:Addr).add k=⟨b,o+k,none⟩:=by
 unfold Addr.add;split
 .rename_i h;simp[]
 .rfl
theorem mr(b n c l h m:Nat)(a:l<=h)(d:h<=m)(e:m<=c)(f:l<m):(Instr.sliceAt 35 (.slice (some ⟨b,0,none⟩) n c) (some (iv (l:Int))) (some (iv (h:Int))) (some (iv (m:Int)))).run prog W=.ok (.slice (some ⟨b,l*5,none⟩) (h-l) (m-l)) W:=by
 rw[run_sliceAt_slice _ _ _ _ _ _ unC,run_slice_lhm (P:=prog) (w:=W) _ _ _ _ unC .i64 .i64 .i64 l h m (by omega) (by omega) (by omega) (by omega),sz5];simp[Result.andThen,sliced,KI];omega
theorem mq(b n c l h:Nat)(a:l<=h)(d:h<=c)(e:l<c):(Instr.sliceAt 35 (.slice (some ⟨b,0,none⟩) n c) (some (iv (l:Int))) (some (iv (h:Int))) none).run prog W=.ok (.slice (some ⟨b,l*5,none⟩) (h-l) (c-l)) W:=by
 rw[run_sliceAt_slice _ _ _ _ _ _ unC,run_slice_lh (P:=prog) (w:=W) _ _ _ _ unC .i64 .i64 l h (by omega) (by omega) (by omega),sz5];simp[Result.andThen,sliced,KI];omega
theorem mt(b n c h:Nat)(a:h<=c):(Instr.sliceAt 35 (.slice (some ⟨b,0,none⟩) n c) none (some (iv (h:Int))) none).run prog W=.ok (.slice (some ⟨b,0,none⟩) h c) W:=by
 rw[run_sliceAt_slice _ _ _ _ _ _ unC,run_slice_h (P:=prog) (w:=W) _ _ _ _ unC .i64 h (by omega) (by omega),sz5];simp[Result.andThen,sliced,KI]
theorem mw(b n c l:Nat)(a:l<=n):(Instr.sliceAt 35 (.slice (some ⟨b,0,none⟩) n c) (some (iv (l:Int))) none none).run prog W=.ok (.slice (some ⟨b,if c=l then 0 else l*5,none⟩) (n-l) (c-l)) W:=by
 rw[run_sliceAt_slice _ _ _ _ _ _ unC,run_slice_l (P:=prog) (w:=W) _ _ _ _ unC .i64 l (by omega) (by omega),sz5];simp[Result.andThen,sliced,KI];split<;>simp
variable{s:Xs}{x:S3}{xs:List Value}{τ:Tg}
theorem ke(i':Nat)(ty:TypeId)(a:Addr)(m c:Nat)(news:List Value)(O:OwnS g w τ false 49 5 x xs)(e:Dy s i'=some (Builtin.append_ #[35,35] ty #[x.v,.slice (some a) m c]>>=λv=>pure (.value v)))(q:(nxt s i' undef s.L).o.map Ob.l'=(nxt s i' undef s.L).o.map Ob.r')(p:s.L.all (λy=>[τ].all λt=>y.t.ne t)=true)(K:0<x.c)(J:news.length=m*5)(F:∀ u∈news,u.oneCell'=true)(f:∀ j u,news[j]?=some u->w.cell? (a.add j)=some u)(h:x.n+m<=x.c)(I:∀ w',OwnS g w' τ false 49 5 ⟨x.a,x.n+m,x.c⟩ (xs++news)->(∀ B T,τ∈T->Cg B T g w g w')->w'.heap.size=w.heap.size->GG prog fn R B T (nxt s i' (S3.v ⟨x.a,x.n+m,x.c⟩) s.L).s g w'):GG prog fn R B T s g w:=by
 refine LY i' s.L q (Cp e) λD Q i o r=>?_;obtain⟨d,H,k⟩:∃ d,prog.info? 49=some d/\d.size=5:=by
  have l:(prog.info? 49).map (·.size)=some 5:=by kernel_rfl
  cases hh:prog.info? 49 with
  | none=>rw[hh]at l;cases l
  | some v=>rw[hh]at l;exact⟨v,rfl,by simpa using l⟩
 obtain⟨w',M,z,G,A⟩:=jS (P:=prog) (B:=w.heap.size) (T:=[τ]) 35 ty 49 d underlying35 H (E'.2 rfl) (by rw[k];exact O) a m c news K (by rw[k];exact J) f F h;rw[k]at z
 have C:∀ B T,τ∈T->Cg B T g w g w':=λB T p=>(G.ret (B:=B)).mono λt N=>by rw[E'.1 N];exact p
 refine⟨S3.v ⟨x.a,x.n+m,x.c⟩,w',g,.inl ?_,D.ch (C _ [τ] (E'.2 rfl)) (λb E=>D.new b (by rw[A]at E;exact E)) p,I w' z C A⟩;rw[DE e r,Sem.run_bind,M,Result.andThen_ok];rfl
theorem lV(w:World):(zeroValue 49).run prog w=.ok (.agg #[iv 0,iv 0,iv 0,iv 0,iv 0]) w:=by kernel_rfl
theorem mf(i':Nat)(ty:TypeId){b:Nat}(f:x.a=some ⟨b,0,none⟩)(k c:Nat)(G:OwnS g w τ false 49 5 x xs)(d:Dy s i'=some (Builtin.clear_ #[35] ty #[.slice (some ⟨b,x.n*5,none⟩) k c]>>=λv=>pure (.value v)))(m:(nxt s i' undef s.L).o.map Ob.l'=(nxt s i' undef s.L).o.map Ob.r')(h:s.L.all (λy=>[τ].all λt=>y.t.ne t)=true)(l:0<k)(e:x.n+k<=x.c)(D:∀ w',OwnS g w' τ false 49 5 x xs->(∀ B T,τ∈T->Cg B T g w g w')->w'.heap.size=w.heap.size->GG prog fn R B T (nxt s i' (.tuple #[]) s.L).s g w'):GG prog fn R B T s g w:=by
 refine LY i' s.L m (Cp d) λu H i o p=>?_;obtain⟨w',E,z,A,q⟩:=jY (P:=prog) (B:=w.heap.size) (T:=[τ]) 35 ty 49 (.agg #[iv 0,iv 0,iv 0,iv 0,iv 0]) 5 underlying35 lV rfl (by decide) (λj C=>by rcases rk C with rfl|rfl|rfl|rfl|rfl<;>rfl) (E'.2 rfl) G f k c l e;have r:∀ B T,τ∈T->Cg B T g w g w':=λB T h=>(A.ret (B:=B)).mono λt F=>by rw[E'.1 F];exact h
 refine⟨.tuple #[],w',g,.inl ?_,u.ch (r _ [τ] (E'.2 rfl)) (λb f=>u.new b (by rw[q]at f;exact f)) h,D w' z r q⟩;rw[DE d p,Sem.run_bind,E,Result.andThen_ok];rfl
end
end
theorem sz1{W:World}:(Go.sizeOf (prog.elem 65)).run prog W=.ok 1 W:=by kernel_rfl
theorem unL:prog.underlying 65=some (.slice (prog.elem 65)):=by kernel_rfl
section
variable{fn:Func}{R:Ending->World->Prop}{B:Nat}{T:List Tg}{g:Gh}{w W:World}
section
theorem lf(b n c l h m:Nat)(a:l<=h)(d:h<=m)(e:m<=c)(f:l<m):(Instr.sliceAt 65 (.slice (some ⟨b,0,none⟩) n c) (some (iv (l:Int))) (some (iv (h:Int))) (some (iv (m:Int)))).run prog W=.ok (.slice (some ⟨b,l*1,none⟩) (h-l) (m-l)) W:=by
 rw[run_sliceAt_slice _ _ _ _ _ _ unL,run_slice_lhm (P:=prog) (w:=W) _ _ _ _ unL .i64 .i64 .i64 l h m (by omega) (by omega) (by omega) (by omega),sz1];simp[Result.andThen,sliced,KI];omega
theorem kZ(b n c l h:Nat)(a:l<=h)(d:h<=c)(e:l<c):(Instr.sliceAt 65 (.slice (some ⟨b,0,none⟩) n c) (some (iv (l:Int))) (some (iv (h:Int))) none).run prog W=.ok (.slice (some ⟨b,l*1,none⟩) (h-l) (c-l)) W:=by
 rw[run_sliceAt_slice _ _ _ _ _ _ unL,run_slice_lh (P:=prog) (w:=W) _ _ _ _ unL .i64 .i64 l h (by omega) (by omega) (by omega),sz1];simp[Result.andThen,sliced,KI];omega
theorem lu(b n c h:Nat)(a:h<=c):(Instr.sliceAt 65 (.slice (some ⟨b,0,none⟩) n c) none (some (iv (h:Int))) none).run prog W=.ok (.slice (some ⟨b,0,none⟩) h c) W:=by
 rw[run_sliceAt_slice _ _ _ _ _ _ unL,run_slice_h (P:=prog) (w:=W) _ _ _ _ unL .i64 h (by omega) (by omega),sz1];simp[Result.andThen,sliced,KI]
theorem lw(b n c l:Nat)(a:l<=n):(Instr.sliceAt 65 (.slice (some ⟨b,0,none⟩) n c) (some (iv (l:Int))) none none).run prog W=.ok (.slice (some ⟨b,if c=l then 0 else l*1,none⟩) (n-l) (c-l)) W:=by
 rw[run_sliceAt_slice _ _ _ _ _ _ unL,run_slice_l (P:=prog) (w:=W) _ _ _ _ unL .i64 l (by omega) (by omega),sz1];simp[Result.andThen,sliced,KI];split<;>simp
variable{s:Xs}{x:S3}{xs:List Value}{τ:Tg}
theorem i5(i':Nat)(ty:TypeId)(a:Addr)(m c:Nat)(news:List Value)(O:OwnS g w τ false 143 1 x xs)(e:Dy s i'=some (Builtin.append_ #[65,65] ty #[x.v,.slice (some a) m c]>>=λv=>pure (.value v)))(q:(nxt s i' undef s.L).o.map Ob.l'=(nxt s i' undef s.L).o.map Ob.r')(p:s.L.all (λy=>[τ].all λt=>y.t.ne t)=true)(K:0<x.c)(J:news.length=m*1)(F:∀ u∈news,u.oneCell'=true)(f:∀ j u,news[j]?=some u->w.cell? (a.add j)=some u)(h:x.n+m<=x.c)(I:∀ w',OwnS g w' τ false 143 1 ⟨x.a,x.n+m,x.c⟩ (xs++news)->(∀ B T,τ∈T->Cg B T g w g w')->w'.heap.size=w.heap.size->GG prog fn R B T (nxt s i' (S3.v ⟨x.a,x.n+m,x.c⟩) s.L).s g w'):GG prog fn R B T s g w:=by
 refine LY i' s.L q (Cp e) λD Q i o r=>?_;obtain⟨d,H,k⟩:∃ d,prog.info? 143=some d/\d.size=1:=by
  have l:(prog.info? 143).map (·.size)=some 1:=by kernel_rfl
  cases hh:prog.info? 143 with
  | none=>rw[hh]at l;cases l
  | some v=>rw[hh]at l;exact⟨v,rfl,by simpa using l⟩
 obtain⟨w',M,z,G,A⟩:=jS (P:=prog) (B:=w.heap.size) (T:=[τ]) 65 ty 143 d underlying65 H (E'.2 rfl) (by rw[k];exact O) a m c news K (by rw[k];exact J) f F h;rw[k]at z
 have C:∀ B T,τ∈T->Cg B T g w g w':=λB T p=>(G.ret (B:=B)).mono λt N=>by rw[E'.1 N];exact p
 refine⟨S3.v ⟨x.a,x.n+m,x.c⟩,w',g,.inl ?_,D.ch (C _ [τ] (E'.2 rfl)) (λb E=>D.new b (by rw[A]at E;exact E)) p,I w' z C A⟩;rw[DE e r,Sem.run_bind,M,Result.andThen_ok];rfl
theorem jG(w:World):(zeroValue 143).run prog w=.ok (.pointer none) w:=by kernel_rfl
theorem kf(i':Nat)(ty:TypeId){b:Nat}(f:x.a=some ⟨b,0,none⟩)(k c:Nat)(H:OwnS g w τ false 143 1 x xs)(d:Dy s i'=some (Builtin.clear_ #[65] ty #[.slice (some ⟨b,x.n*1,none⟩) k c]>>=λv=>pure (.value v)))(p:(nxt s i' undef s.L).o.map Ob.l'=(nxt s i' undef s.L).o.map Ob.r')(l:s.L.all (λy=>[τ].all λt=>y.t.ne t)=true)(m:0<k)(e:x.n+k<=x.c)(E:∀ w',OwnS g w' τ false 143 1 x xs->(∀ B T,τ∈T->Cg B T g w g w')->w'.heap.size=w.heap.size->GG prog fn R B T (nxt s i' (.tuple #[]) s.L).s g w'):GG prog fn R B T s g w:=by
 refine LY i' s.L p (Cp d) λz I i o q=>?_;obtain⟨w',F,A,C,r⟩:=jY (P:=prog) (B:=w.heap.size) (T:=[τ]) 65 ty 143 (.pointer none) 1 underlying65 jG rfl (by decide) (λj D=>match j,D with|0,_=>rfl|j+1,h=>absurd h (by omega)) (E'.2 rfl) H f k c m e;have u:∀ B T,τ∈T->Cg B T g w g w':=λB T l=>(C.ret (B:=B)).mono λt G=>by rw[E'.1 G];exact l
 refine⟨.tuple #[],w',g,.inl ?_,z.ch (u _ [τ] (E'.2 rfl)) (λb f=>z.new b (by rw[r]at f;exact f)) l,E w' A u r⟩;rw[DE d q,Sem.run_bind,F,Result.andThen_ok];rfl
end
end
theorem Qt{g:Gh}{w:World}{b n c:Nat}{l:List Nat}(o:OwnS g w (.n 51 0) false 143 1 ⟨some ⟨b,0,none⟩,n,c⟩ (l.map (pt · 0)))(J:∀ b,w.heap.size<=b->g.t b=.z/\g.k b=0)(j:Nat)(Y:j<l.length)(W:l.length<100000000) :
  Calls prog 66 #[.slice (some ⟨b,0,none⟩) n c,iv (j:Int),iv ((j+1:Nat):Int)] w λe w'=>∃ (x':S3) (g':Gh),e=.returned x'.v/\OwnS g' w' (.n 51 0) false 143 1 x' ((l.eraseIdx j).map (pt · 0))/\(∀ b,w'.heap.size<=b->g'.t b=.z/\g'.k b=0)/\Cg w.heap.size [.n 51 0] g w g' w':=by
 have Z:n=l.length:=by have:=o.len;simp at this;omega
 have X:n<=c:=by rcases o.ex with⟨h,_⟩|⟨_,_,_,_,h,_⟩;cases h;exact h
 refine gI (fn:=f66) [.n 51 0] g func66 J (qR [] 11 [] λs1 R w1 c1=>qV 5 (.slice (some ⟨b,j*1,none⟩) (j+1-j) (n-j)) (lf b n c j (j+1) n (by omega) (by omega) (by omega) (by omega)) (qR [] 8 [] λs2 S w2 y=>qI (((j:Int)==((j+1:Nat):Int))) false (by simp;omega) (qR [] 11 [8,0,2] λs3 T w3 A=>qT 2 (.slice (some ⟨b,0,none⟩) j c) (λ_=>(lu b n c j (by omega))) (qR [] 2 [6,8] λs4 U w4 B=>qT 5 (.slice (some ⟨b,if c=j+1 then 0 else(j+1)*1,none⟩) (n-(j+1)) (c-(j+1))) (λ_=>(lw b n c (j+1) (by omega))) ?_))));have d:=o.ch (((c1.trans y).trans A).trans B) (by simp) (by simp);have p:=d.sS (k:=j) (by show j<=n;omega) (by show 0<n;omega);refine i5 6 (x:=⟨some ⟨b,0,none⟩,j,c⟩) 65 ⟨b,if c=j+1 then 0 else(j+1)*1,none⟩ (n-(j+1)) (c-(j+1)) ((l.drop (j+1)).map (pt · 0)) p (by kernel_rfl) (by kernel_rfl) (by kernel_rfl) (by show 0<c;omega) (by simp;omega) (by intro u L;obtain⟨q,_,rfl⟩:=mW.1 L;rfl) (λq u r=>?_) (by show j+(n-(j+1))<=c;omega) ?_
 .have hlt:j+1<l.length:=by have h:=(V'.1 r).1;simp at h;omega
  rw[if_neg (by omega),KI];rw[List.map_drop,nJ]at r
  obtain⟨Q,D,_,I⟩:=d.cell r;simp only[Y',Addr.mk.injEq,and_true]at D;subst D;rw[show(j+1)*1+q=j+1+q by omega];exact I
 intro w6 s i M;have F:=i w.heap.size [.n 51 0] (E'.2 rfl);rw[show(l.map (pt · 0)).take (j*1)++(l.drop (j+1)).map (pt · 0)=(l.eraseIdx j).map (pt · 0)from by rw[Nat.mul_one,<- qo,<- nh,pZ]]at s
 refine qR [] 8 [14] λs7 V w7 C=>qV 4 (.slice (some ⟨b,(j+(n-(j+1)))*1,none⟩) (n-(j+(n-(j+1)))) (c-(j+(n-(j+1))))) (kZ b (j+(n-(j+1))) c (j+(n-(j+1))) n (by omega) (by omega) (by omega)) (kf 5 (x:=⟨some ⟨b,0,none⟩,(j+(n-(j+1))),c⟩) (b:=b) 0 rfl (n-(j+(n-(j+1)))) (c-(j+(n-(j+1)))) (s.ch C) (by kernel_rfl) (by kernel_rfl) (by kernel_rfl) (by omega) (by show(j+(n-(j+1)))+(n-(j+(n-(j+1))))<=c;omega) ?_);intro w9 E m N;have G:=m w.heap.size [.n 51 0] (E'.2 rfl);refine qR [] 6 [] λO H P a=>qE (S3.v ⟨some ⟨b,0,none⟩,(j+(n-(j+1))),c⟩) λK=>⟨_,_,rfl,(E.ch a),K.new,((((((((c1.nil [.n 51 0]).n y).n A).n B).trans F).n C).trans G).n a)⟩
end
section
section
variable{M:Meet}{i k m n:Nat}{p:Nod}
theorem NOk.mono(h:NOk n p)(hn:n<=m):NOk m p:={ h with wa:=mF h.wa hn }
theorem NOk.zero(n:Nat):NOk n CZ:=⟨mY _,A' _,mY _,mY _,λc h=>(by cases h),⟨mE _,by decide⟩,Aq.b0,BU.nil,λ_=>BU.nil,λq h=>(by cases h)⟩
theorem NOk.bare(n:Nat)(p:Nod)(up:Bool)(d:List Int)(g:Int){a:Acc}(b:Aq a.p)(e:BU a.vs)(l:List Pend)(f:∀ q∈l,POk 0 q):NOk n (p.bare up d g a l):=⟨mY _,A' _,mY _,mY _,λc h=>(by cases h),⟨mE _,by show(0:Int)<=65536;decide⟩,b,e,λ_=>BU.nil,f⟩
theorem NOk.kc(h:NOk n p)(k:Int):NOk n (p.kc k)/\Ay (p.kc k).bt<=Ay p.bt/\(p.kc k).au.length<=p.au.length/\(p.kc k).bad=p.bad:=by
 unfold Nod.kc;split
 .exact⟨h,A' _,A' _,rfl⟩
 .exact⟨NOk.bare n p _ _ _ Aq.b0 BU.nil [] (λq a=>(by cases a)),mY _,mY _,rfl⟩
theorem NOk.start(h:NOk n p):NOk n p.start/\Ay p.start.bt<=Ay p.bt+4/\p.start.au.length<=p.au.length/\p.start.bad=p.bad:=by
 have b:=eT p.d p.sy;have a:∀ q∈[Pend.start],POk 0 q:=λq a=>by rw[E'.1 a];trivial
 unfold Nod.start;split
 .exact⟨h,qW _ _,A' _,rfl⟩
 .split
  .exact⟨NOk.bare n p _ _ _ b.1 b.2 _ a,by show 4<=_;omega,mY _,rfl⟩
  .exact⟨NOk.bare n p _ _ _ b.1 b.2 _ a,by show 4<=_;omega,mY _,rfl⟩
theorem FP(p:Nod)(b:Bal):(p.al b).1.au=p.au/\(p.al b).1.bad=p.bad/\(p.al b).1.bw=p.bw/\(p.al b).1.done=p.done/\(p.al b).1.cn=p.cn:=by
 unfold Nod.al;split
 .exact⟨rfl,rfl,rfl,rfl,rfl⟩
 .split
  .exact⟨rfl,rfl,rfl,rfl,rfl⟩
  .split<;>exact⟨rfl,rfl,rfl,rfl,rfl⟩
theorem NOk.lead(h:NOk n p)(i:Nat):NOk n (p.lead i)/\Ay (p.lead i).bt<=Ay p.bt+4/\(p.lead i).au=p.au/\(p.lead i).bad=p.bad:=by
 unfold Nod.lead;simp only;split
 .exact⟨h,qW _ _,rfl,rfl⟩
 .have hp:=h.al ⟨max p.cn p.vo.p.r+1,(i:Int)⟩;have a:=FP p ⟨max p.cn p.vo.p.r+1,(i:Int)⟩;have b:NOk n { (p.al ⟨max p.cn p.vo.p.r+1,(i:Int)⟩).1 with an:=⟨⟨max p.cn p.vo.p.r+1,(i:Int)⟩,λ_=>false,λ_=>DV,λ_=>p.ab.length,0,[]⟩ }:={ hp.1 with qu:=mY _,he:=λ_=>BU.nil };refine⟨b.wait hp.2.2.2.1,?_,a.1,a.2.1⟩;show Ay ((p.al _).1.bt++[_])<=_;rw[FN,hp.2.1];exact A' _
theorem NOk.want(h:NOk n p)(c:Cmd):NOk (n+1) (p.want c)/\(p.want c).au.length<=p.au.length+1/\(p.want c).bt=p.bt/\(p.want c).bad=p.bad:=by
 unfold Nod.want;split
 .exact⟨h.mono (nR _),nR _,rfl,rfl⟩
 .refine⟨{ h with wa:=?_,ask:=λd a=>?_ },by simp,rfl,rfl⟩
  .have:=h.wa;simp;omega
  .unfold Ca at a;simp only at a ⊢;split at a
   .rename_i e;exact U'.2 (.inr (E'.2 e))
   .exact U'.2 (.inl (h.ask d a))
theorem NOk.rN(h:NOk n p)(i:Nat)(e:Int)(c:Cmd)(ts:List Tol):NOk (n+1) (p.rO i e c ts).1/\(p.rO i e c ts).1.bt=p.bt/\(p.rO i e c ts).2.length+(p.rO i e c ts).1.au.length<=ts.length+p.au.length+1/\(p.rO i e c ts).1.bad<=p.bad+1:=by
 have a:=h.mono (nR n);unfold Nod.rO;split
 .exact⟨a,rfl,nR _,nR _⟩
 .split
  .exact⟨{ a with },rfl,nR _,A' _⟩
  .split
   .exact⟨a,rfl,by simp;omega,nR _⟩
   .have:=h.want c;exact⟨this.1,this.2.2.1,by have:=this.2.1;simp only;omega,by rw[this.2.2.2];exact nR _⟩
theorem OO(p:Nod)(v:Vt):(p.bN v).1.au=p.au/\(p.bN v).1.bad=p.bad:=by
 unfold Nod.bN;split
 .exact⟨rfl,rfl⟩
 .split
  .exact⟨rfl,rfl⟩
  .split<;>exact⟨rfl,rfl⟩
theorem K7(p:Nod)(to:Nat)(e:Int):(p.eb to e).au=p.au/\(p.eb to e).bad=p.bad:=by unfold Nod.eb;split<;>exact⟨rfl,rfl⟩
theorem F7(p:Nod)(j:Nat)(v:Vt):(p.count j v).au=p.au/\(p.count j v).bad=p.bad/\(p.count j v).bt=p.bt:=by
 unfold Nod.count;split
 .exact⟨rfl,rfl,rfl⟩
 .split<;>exact⟨rfl,rfl,rfl⟩
theorem FC(p:Nod)(l:List Cmd):(p.dT l).au=p.au/\(p.dT l).bad=p.bad:=by unfold Nod.dT;split<;>exact⟨rfl,rfl⟩
theorem Xq(p:Nod)(l:Let):(p.take l).au=p.au/\(p.take l).bad=p.bad:=by
 unfold Nod.take;split
 .split
  .exact K7 _ _ _
  .exact⟨(FP p l.fa).1,(FP p l.fa).2.1⟩
 .simp only;split<;>exact⟨rfl,rfl⟩
 .exact⟨rfl,rfl⟩
 .split
  .exact K7 _ _ _
  .exact OO p l.bN
 .exact⟨(F7 p _ _).1,(F7 p _ _).2.1⟩
 .split<;>exact⟨rfl,rfl⟩
 .simp only;split
  .exact FC p l.ed
  .exact FC p l.ed
 .exact⟨rfl,rfl⟩
theorem WU(p:Nod)(i:Nat)(q:Pend):(p.ln i q).au=p.au/\(p.ln i q).bad=p.bad:=by
 cases q with
 | began b vs=>unfold Nod.ln;simp only;split<;>exact⟨rfl,rfl⟩
 | prop v=>exact⟨(F7 p i v).1,(F7 p i v).2.1⟩
 | _=>exact⟨rfl,rfl⟩
theorem S6(i:Nat)(l:List Pend)(p:Nod)(ls:List Let):(nn i l p ls).1.au=p.au/\(nn i l p ls).1.bad=p.bad:=by
 induction l generalizing p ls with
 | nil=>exact⟨rfl,rfl⟩
 | cons q l ih =>
  have a:=ih (p.ln i q) (ls++p.rz i q);have b:=WU p i q;exact⟨a.1.trans b.1,a.2.trans b.2⟩
theorem dg(i:Nat)(l:List Cmd)(p:Nod)(ts:List Tol):(rG i l p ts).1.bad=p.bad:=by
 induction l generalizing p ts with
 | nil=>rfl
 | cons c l ih =>
  rw[rG];split
  .rfl
  .rw[ih];unfold Nod.fv;split<;>rfl
theorem TB(p:Nod)(i:Nat)(ls:List Let)(ts:List Tol):(p.piece i ls ts).1.au=(rG i (p.ab.drop p.done) p ts).1.au/\(p.piece i ls ts).1.bad=p.bad:=by
 have a:∀ q:Nod,(q.hZ i).1.au=q.au/\(q.hZ i).1.bad=q.bad:=by
  intro q;unfold Nod.hZ;split
  .exact⟨rfl,rfl⟩
  .split
   .exact FC _ _
   .exact⟨rfl,rfl⟩
 have b:∀ q:Nod,q.cl.au=q.au/\q.cl.bad=q.bad:=by
  intro q;unfold Nod.cl;split
  .exact⟨rfl,rfl⟩
  .split
   .exact⟨rfl,rfl⟩
   .split
    .exact⟨rfl,rfl⟩
    .exact OO q _
 have c:∀ (q:Nod) (ls:List Let),(q.mv i ls).1.au=q.au/\(q.mv i ls).1.bad=q.bad:=by
  intro q ls;unfold Nod.mv;split
  .exact⟨rfl,rfl⟩
  .have:=S6 i q.bt { q.rF with bt:=[] } ls;have e:q.rF.au=q.au/\q.rF.bad=q.bad:=by unfold Nod.rF;split<;>exact⟨rfl,rfl⟩
   exact⟨this.1.trans e.1,this.2.trans e.2⟩
 have d:∀ (q:Nod) (ls:List Let),(q.bu i ls).1.au=q.au/\(q.bu i ls).1.bad=q.bad:=by
  intro q ls;unfold Nod.bu;split<;>exact⟨rfl,rfl⟩
 have f:=dg i (p.ab.drop p.done) p ts;unfold Nod.piece;simp only;rw[(d _ _).1,(c _ _).1,(b _).1,(a _).1,(d _ _).2,(c _ _).2,(b _).2,(a _).2];exact⟨rfl,f⟩
def pw(M:Meet):Nat:=Ay (M.ae 0).bt+Ay (M.ae 1).bt+Ay (M.ae 2).bt+Ay (M.ae 3).bt+Ay (M.ae 4).bt
def ww(M:Meet):Nat:=(M.ae 0).au.length+(M.ae 1).au.length+(M.ae 2).au.length+(M.ae 3).au.length+(M.ae 4).au.length
theorem aq(M:Meet)(a:i<5)(p:Nod)(ls:List Let)(ts:List Tol):pw (M.set i p ls ts)+Ay (M.ae i).bt=pw M+Ay p.bt:=by
 unfold pw Meet.set;rcases rk a with rfl|rfl|rfl|rfl|rfl<;>simp[upN]<;>omega
theorem cE(M:Meet)(a:i<5)(p:Nod)(ls:List Let)(ts:List Tol):ww (M.set i p ls ts)+(M.ae i).au.length=ww M+p.au.length:=by
 unfold ww Meet.set;rcases rk a with rfl|rfl|rfl|rfl|rfl<;>simp[upN]<;>omega
theorem Rm(M:Meet)(a:i<5):Ay (M.ae i).bt<=pw M:=by
 unfold pw;rcases rk a with rfl|rfl|rfl|rfl|rfl<;>omega
theorem lP(M:Meet)(a:i<5):(M.ae i).au.length<=ww M:=by
 unfold ww;rcases rk a with rfl|rfl|rfl|rfl|rfl<;>omega
structure MOk(n:Nat)(M:Meet):Prop where
 ae:∀ i,i<5->NOk n (M.ae i)
 br:∀ l∈M.br,LOk l
 wt:M.br.length+pw M<=10*n
 eo:M.eo.length+ww M<=n
 bad:∀ i,i<5->(M.ae i).bad<=n
theorem MOk.zero:MOk 0 Au:=⟨λ_ _=>NOk.zero 0,λl h=>(by cases h),A' _,A' _,λ_ _=>A' _⟩
theorem MOk.mono(h:MOk n M)(hn:n<=m):MOk m M:=⟨λi a=>(h.ae i a).mono hn,h.br,by have:=h.wt;omega,by have:=h.eo;omega,λi a=>mF (h.bad i a) hn⟩
theorem MOk.set(h:MOk n M)(a:i<5){ls:List Let}{ts:List Tol}(c:NOk (n+1) p)(d:∀ l∈ls,LOk l)(g:ls.length+Ay p.bt<=M.br.length+Ay (M.ae i).bt+10)(k:ts.length+p.au.length<=M.eo.length+(M.ae i).au.length+1)(m:p.bad<=(M.ae i).bad+1):MOk (n+1) (M.set i p ls ts):=by
 have e:=aq M a p ls ts;have f:=cE M a p ls ts;have:=h.wt;have:=h.eo;refine⟨λj b=>?_,d,by show ls.length+_<=_;omega,by show ts.length+_<=_;omega,λj b=>?_⟩
 .show NOk (n+1) (upN M.ae i p j);unfold upN;split
  .exact c
  .exact(h.ae j b).mono (nR _)
 .show(upN M.ae i p j).bad<=n+1;unfold upN;split
  .have:=h.bad i a;omega
  .have:=h.bad j b;omega
structure COk(n k:Nat)(M:Meet):Prop where
 ae:∀ i,i<5->NOk n (M.ae i)
 wt:k+M.br.length+pw M<=10*n
 eo:M.eo.length+ww M<=n
 bad:∀ i,i<5->(M.ae i).bad<=n
 br:∀ l∈M.br,LOk l
theorem COk.ni(h:COk n (k+1) M){l:Let}(a:LOk l):COk n k (M.ni l)/\(M.ni l).br=M.br:=by
 have i:=h.wt;unfold Meet.ni;split
 .have ht:=(h.ae l.dst a.dst).take a;have c:=Xq (M.ae l.dst) l;have e:=aq M a.dst ((M.ae l.dst).take l) M.br M.eo;have d:=cE M a.dst ((M.ae l.dst).take l) M.br M.eo;have f:pw (M.put l.dst ((M.ae l.dst).take l))=pw (M.set l.dst ((M.ae l.dst).take l) M.br M.eo):=rfl;have g:ww (M.put l.dst ((M.ae l.dst).take l))=ww (M.set l.dst ((M.ae l.dst).take l) M.br M.eo):=rfl;have:=h.eo;rw[c.1]at d
  refine⟨⟨λj b=>?_,by show k+M.br.length+_<=_;have:=ht.2.1;omega,by show M.eo.length+_<=_;omega,λj b=>?_,h.br⟩,rfl⟩
  .show NOk n (upN M.ae l.dst _ j);unfold upN;split
   .exact ht.1
   .exact h.ae j b
  .show(upN M.ae l.dst _ j).bad<=n;unfold upN;split
   .rw[c.2];exact h.bad _ a.dst
   .exact h.bad j b
 .exact⟨⟨h.ae,by omega,h.eo,h.bad,h.br⟩,rfl⟩
theorem COk.all(ls:List Let)(h:COk n ls.length M)(a:∀ l∈ls,LOk l):COk n 0 (ls.foldl (λM l=>M.ni l) M):=by
 induction ls generalizing M with
 | nil=>exact h
 | cons l ls ih=>exact ih ((h.ni (a l O')).1) λm b=>a m (I' _ b)
theorem COk.ok(h:COk n k M):MOk n M:=⟨h.ae,h.br,by have:=h.wt;omega,h.eo,h.bad⟩
theorem MOk.rE(h:MOk n M):MOk n M.rE :=
 (COk.all M.br (M:={ M with br:=[] }) ⟨h.ae,by show M.br.length+0+pw M<=_;exact h.wt,h.eo,h.bad,λl a=>(by cases a)⟩ h.br).ok
theorem MOk.move(h:MOk n M)(k:Int)(a:Nat):MOk (n+1) (M.move k a):=by
 have i:=h.wt;have b:=h.mono (nR n);unfold Meet.move;split
 .exact b
 .rename_i l hl
  have c:LOk l:=h.br l (nm hl);have f:∀ m∈M.br.eraseIdx (a%M.br.length),LOk m:=λm g=>h.br m (pJ g);have e:(M.br.eraseIdx (a%M.br.length)).length<=M.br.length:=List.length_eraseIdx_le _ _;have d:COk (n+1) 1 (if k≠6 then{ M with br:=M.br.eraseIdx (a%M.br.length) }else M):=by
   split
   .exact⟨b.ae,by show 1+(M.br.eraseIdx _).length+pw M<=_;omega,b.eo,b.bad,f⟩
   .exact⟨b.ae,by omega,b.eo,b.bad,h.br⟩
  simp only;split
  .exact(d.ni c).1.ok
  .exact d.ok
theorem MOk.act(h:MOk n M)(hn:n<=1000000){x:Lac}(g:LacOk x):MOk (n+1) (M.act x):=by
 have a:x.n.toNat<5:=by
  cases hu:Gf x.k with
  | true=>have:=g.n hu;omega
  | false=>have:=g.n0 hu;omega
 have e:=h.ae _ a;have c:=e.mono (nR n);unfold Meet.act;simp only;split
 .have hs:=e.rN x.n.toNat (opE x.d ((M.ae x.n.toNat).done:Int)) (Ho x.d ((M.ae x.n.toNat).done:Int)) M.eo;exact h.set a hs.1 h.br (by unfold Nod.rN;rw[hs.2.1];omega) (by unfold Nod.rN;omega) (by unfold Nod.rN;omega)
 .split
  .split
   .have hl:=c.lead x.n.toNat;exact h.set a hl.1 h.br (by omega) (by rw[hl.2.2.1];omega) (by rw[hl.2.2.2];omega)
   .exact h.set a c h.br (by omega) (by omega) (by omega)
  .split
   .by_cases hu:(M.ae x.n.toNat).up=true
    .rw[if_pos hu,if_pos hu,if_pos hu];have b:=c.piece a (ls:=M.br) (ts:=M.eo) (by have:=Rm M a;have:=h.wt;omega) h.br;have f:=TB (M.ae x.n.toNat) x.n.toNat M.br M.eo;exact h.set a b.1 b.2.1 b.2.2.1 (by rw[f.1];have:=b.2.2.2;omega) (by rw[f.2];omega)
    .rw[if_neg hu,if_neg hu,if_neg hu];exact h.set a c h.br (by omega) (by omega) (by omega)
   .split
    .exact h.move _ _
    .split
     .exact h.rE.mono (nR _)
     .split
      .split
       .have hc:=c.kc x.p;exact h.set a hc.1 h.br (by omega) (by omega) (by rw[hc.2.2.2];omega)
       .exact h.set a c h.br (by omega) (by omega) (by omega)
      .split
       .split
        .exact h.set a c h.br (by omega) (by omega) (by omega)
        .have hc:=c.start;exact h.set a hc.1 h.br (by omega) (by omega) (by rw[hc.2.2.2];omega)
       .exact h.mono (nR _)
end
end
section
open Go.RowKit
section
variable{M:Meet}{W w w0:World}{b j mb n ob tb:Nat}{g:Gh}{l:List Let}{nb:Nat->Nat}{x:S3}
theorem kY{P:Program}{x y:Operand}(a b:Nat)(h:P.underlying 3=some (.int .i64))(f:a<9223372036854775808)(g:0<b)(e:b<9223372036854775808):(do Go.eqGuard .rem 3 x y (iv (a:Int)) (iv (b:Int));Go.binOp .rem 3 (iv (a:Int)) (iv (b:Int)):Sem Value).run P W=.ok (iv ((a%b:Nat):Int)) W:=by
 have d:Int.tmod (a:Int) (b:Int)=((a%b:Nat):Int):=rfl;have c:¬ b=0:=by omega
 simp only[Go.eqGuard,go_sem,Op.intDiv];simp[c,d]
theorem gv{c:Nat}(j:Nat)(a:j<n):(Instr.indexAt 65 (.slice (some ⟨b,0,none⟩) n c) (iv (j:Int))).run prog W=.ok (pt b j) W :=
 NH (P:=prog) (e:=143) (z:=1) underlying65 (by kernel_rfl) (by kernel_rfl) a _ (by omega)
theorem jg(d:x.a=some ⟨b,0,none⟩)(j:Nat)(c:j<x.n):(Instr.indexAt 65 x.v (iv (j:Int))).run prog W=.ok (pt b j) W:=by
 unfold S3.v;rw[d];exact gv j c
theorem FzL.cell{vs:List Value}(h:FzL g w x vs)(f:x.a=some ⟨b,0,none⟩){u:Value}(i:vs[j]?=some u):w.cell? ⟨b,j,none⟩=some u:=by
 obtain⟨c,d,_,_,e⟩:=h.at_ j u i;rw[f]at d
 simp only[Y',Addr.mk.injEq,and_true]at d;subst d;exact e
theorem MS.outs{a:Gh}{b:World}{B:Nat}(h:MS mb tb ob nb g w M)(c:Cg B [.n 50 0,.n 51 0] g w a b){lt d:S3}{ls:List Let}(f:OutAt a b ob lt d ls M.eo)(hn:Jx a b):MS mb tb ob nb a b { M with br:=ls } :=
 ⟨h.box.ch c,h.tk.ch c,λi e=>let ⟨x,hx⟩:=h.ae i e;⟨x,hx.ch c (by simp) (λr j=>by simp;omega)⟩,⟨lt,d,f⟩,hn⟩
theorem Lets.erase{d:List Nat}(h:Lets g w d l)(j:Nat):Lets g w (d.eraseIdx j) (l.eraseIdx j):=by
 refine⟨by rw[List.length_eraseIdx,List.length_eraseIdx,h.len],λk b m c a=>?_⟩;rw[List.getElem?_eraseIdx]at c a
 split at c
 .rename_i hk;rw[if_pos hk]at a;exact h.at_ _ _ _ c a
 .rename_i hk;rw[if_neg hk]at a;exact h.at_ _ _ _ c a
theorem Y2{c:Let}(h:l[j]?=some c):l.drop j=c::l.drop (j+1):=by
 obtain⟨a,b⟩:=V'.1 h;rw[<- b];exact ny a
theorem ZD(k:Int)(a:Nat)(h:M.br.length=0):M.move k a=M:=by
 unfold Meet.move;rw[Z' h];rfl
theorem eg{k:Int}{a:Nat}{l:Let}(h:M.br[a%M.br.length]?=some l):M.move k a=(if k≠5 then(if k≠6 then{ M with br:=M.br.eraseIdx (a%M.br.length) }else M).ni l else if k≠6 then{ M with br:=M.br.eraseIdx (a%M.br.length) }else M):=by
 unfold Meet.move;rw[h]
theorem Mj(h:MS mb tb ob nb g w M)(hB:Base w0 g w)(hT:Tabs w0)(k:Int)(a:Nat)(ha:a<=1048576)(hm:MOk n M)(hn:n<=1000000) :
  Calls prog 29 #[pt mb 0,iv k,iv (a:Int)] w (MP mb tb ob nb g w (.tuple #[]) (M.move k a)):=by
 obtain⟨lt,tl,hO⟩:=h.out;obtain⟨bs,hL,o⟩:=hO.br;have X:lt.n=M.br.length:=by have:=hL.len;have:=o.len;simp at *;omega
 have b7:=hm.wt;refine gI (fn:=f29) TM g func29 h.new (Cr ⟨mb,_,.z,false⟩ (λ_=>⟨h.box.r,h.box.z,λh=>(by cases h),λh=>absurd rfl h⟩) (by kernel_rfl) ?_);refine qO hO (qR [] 18 [0,1] λs1 g1 w1 c1=>?_);by_cases h1:lt.n=0
 .refine qI (((lt.n:Int)==0)) true (by simp;omega) (qE (.tuple #[]) λK=>?_);rw[ZD k a (by omega)];exact⟨_,rfl,(h.rH c1 K.new),(c1.nil TM)⟩
 .refine qI (((lt.n:Int)==0)) false (by simp;omega) ?_;obtain⟨j,hj⟩:∃ j,j=a%M.br.length:=⟨_,rfl⟩;have H:j<M.br.length:=by rw[hj];exact Nat.mod_lt _ (by omega)
  obtain⟨l,hl⟩:∃ l,M.br[j]?=some l:=⟨_,G' H⟩;obtain⟨I,V⟩:∃ I,bs[j]?=some I:=⟨_,G' (by rw[o.len];exact H)⟩;have q:=hm.br l (nm hl);have U:=o.at_ j I l V hl;obtain⟨b,hb,a7,a6⟩:=hL.cell (j:=j) (u:=pt I 0) (by rw[nB,V];rfl);rw[eg (hj▸hl)];rw[<- hj];obtain⟨la,lq,lc⟩:=lt;simp only at hb X;subst hb;refine qR [] 5 [] λs3 g3 w3 i=>?_;have a8 {x y:Operand}:∀ {W:World},(do Go.eqGuard .rem 3 x y (iv (a:Int)) (iv (lq:Int));Go.binOp .rem 3 (iv (a:Int)) (iv (lq:Int)):Sem Value).run prog W=.ok (iv (j:Int)) W:=λ{W}=>by rw[hj,<- X];exact kY a lq underlying3 (by omega) (by omega) (by omega)
  refine qV 2 (iv (j:Int)) (a8 (x:=(.tmp 19)) (y:=(.tmp 20))) (qR [] 12 [0,1] λs4 g4 w4 m=>qV 8 (pt b j) (gv (b:=b) (n:=lq) (c:=lc) j (by omega)) (qV 9 (pt I 0) (Db underlying143 rfl ((Below.cell (Cg.af ((c1.trans i).trans m) (λ_ _=>P')) (p:=⟨b,j,none⟩) a7).trans a6)) (qR [] 8 [] λs6 g6 w6 s=>?_)));by_cases Z:k≠6
  .refine qI ((k != 6)) true (by simpa using Z) ?_;have G:k≠6:=by simpa using Z
   rw[if_pos G];refine qR [] 14 [17,0,2,4,6,0,8,10,12,14,0,16,18,20,1,22,24] λs7 g7 w7 J=>qT 13 (iv ((j+1:Nat):Int)) (λ_=>(AI (x:=(.tmp 46)) (y:=(.const (iv 1))) (j:Int) 1 underlying3 (by omega))) (Af λK=>qG 14 [.n 51 0] [true,true] (Qt (hL.ch ((((c1.trans i).trans m).trans s).trans J) (by simp) (by simp)) K.new j (by rw[o.len];exact H) (by rw[o.len];omega)) ?_);rintro e' w9 ⟨y9,g9,rfl,a9,n9,F⟩;refine⟨_,g9,rfl,F,n9,?_⟩;replace F:=F.ret (B:=w.heap.size);refine qR [.n 50 0] 9 [30,32,35,1,1] λb8 T Y d=>Af λK=>?_;have C9:Cg w.heap.size [.n 50 0,.n 51 0] g w T Y:=(((((((c1.nil [.n 50 0,.n 51 0]).n i).n m).n s).n J).trans (F.mono (by simp))).trans (d.mono (by simp)));obtain⟨o1,o2,o3⟩:=K.rY 1 ob (.cells #[S3.v y9,S3.v tl] 67) 50 0 (by kernel_rfl);have O:MS mb tb ob nb T Y { M with br:=M.br.eraseIdx j }:=h.outs C9 ⟨o1,o2,o3,⟨bs.eraseIdx j,(a9.ch d),(o.erase j).ch C9⟩,hO.eo.ch C9⟩ K.new;by_cases E:k≠5
   .refine qI ((k != 5)) true (by simpa using E) ?_;rw[if_pos (show k≠5 from by simpa using E)];refine qR [] 3 [] λb9 a2 b0 t=>Af λK=>?_;have a0:MS mb tb ob nb a2 b0 ({ M with br:=M.br.eraseIdx j }):=(O.rH t K.new);refine qG 2 TM [true,false] (LF a0 (hB.ch ((((((((c1.nil TM).n i).n m).n s).n J).trans (F.mono (by simp[TM,TN]))).trans (d.mono (by simp[TM,TN]))).n t) F0) hT I l (U.ch ((((((((c1.nil TM).n i).n m).n s).n J).trans (F.mono (by simp[TM,TN]))).trans (d.mono (by simp[TM,TN]))).n t) F0) q (hm.ae l.dst q.dst) (by have:=Eh (M.ae l.dst).bt;have:=Rm M q.dst;show(M.ae l.dst).bt.length<_;omega)) ?_;rintro e' d2 ⟨a3,rfl,L,A⟩;refine⟨_,a3,rfl,A,L.new,?_⟩;replace A:=A.ret (B:=w.heap.size);refine qR [] 1 [] λc0 b2 d3 P=>qE (.tuple #[]) λK=>⟨_,rfl,(L.rH P K.new),((((((((((c1.nil TM).n i).n m).n s).n J).trans (F.mono (by simp[TM,TN]))).trans (d.mono (by simp[TM,TN]))).n t).trans (A)).n P)⟩
   .refine qI ((k != 5)) false (by simpa using E) (qR [] 1 [] λc2 b3 d4 Q=>?_);rw[if_neg (show ¬ k≠5 from by simpa using E)];refine qE (.tuple #[]) λK=>⟨_,rfl,(O.rH Q K.new),((((((((c1.nil TM).n i).n m).n s).n J).trans (F.mono (by simp[TM,TN]))).trans (d.mono (by simp[TM,TN]))).n Q)⟩
  .refine qI ((k != 6)) false (by simpa using Z) ?_;have G:¬ k≠6:=by simpa using Z
   rw[if_neg G];refine qR [] 6 [] λc5 b4 d5 e=>?_;by_cases E:k≠5
   .refine qI ((k != 5)) true (by simpa using E) ?_;rw[if_pos (show k≠5 from by simpa using E)];refine qR [] 3 [] λc8 a4 b1 C=>Af λK=>?_;have a1:MS mb tb ob nb a4 b1 M:=(h.rH (((((c1.trans i).trans m).trans s).trans e).trans C) K.new);refine qG 2 TM [true,false] (LF a1 (hB.ch ((((((c1.nil TM).n i).n m).n s).n e).n C) F0) hT I l (U.ch ((((((c1.nil TM).n i).n m).n s).n e).n C) F0) q (hm.ae l.dst q.dst) (by have:=Eh (M.ae l.dst).bt;have:=Rm M q.dst;show(M.ae l.dst).bt.length<_;omega)) ?_;rintro e' d6 ⟨a5,rfl,N,D⟩;refine⟨_,a5,rfl,D,N.new,?_⟩;replace D:=D.ret (B:=w.heap.size);refine qR [] 1 [] λd0 b5 d7 R=>qE (.tuple #[]) λK=>⟨_,rfl,(N.rH R K.new),((((((((c1.nil TM).n i).n m).n s).n e).n C).trans (D)).n R)⟩
   .refine qI ((k != 5)) false (by simpa using E) (qR [] 1 [] λd1 b6 d8 S=>?_);rw[if_neg (show ¬ k≠5 from by simpa using E)];refine qE (.tuple #[]) λK=>⟨_,rfl,(h.rH (((((c1.trans i).trans m).trans s).trans e).trans S) K.new),((((((c1.nil TM).n i).n m).n s).n e).n S)⟩
theorem Qp(h:MS mb tb ob nb g w M)(hB:Base w0 g w)(hT:Tabs w0)(u:MOk n M)(hn:n<=1000000) :
  Calls prog 30 #[pt mb 0] w (MP mb tb ob nb g w (.tuple #[]) M.rE):=by
 obtain⟨lt,tl,O⟩:=h.out;obtain⟨D,W,i⟩:=O.br;have a1:lt.n=M.br.length:=by have:=W.len;have:=i.len;simp at *;omega
 have R:=u.wt;refine gI (fn:=f30) TM g func30 h.new (Cr ⟨mb,_,.z,false⟩ (λ_=>⟨h.box.r,h.box.z,λh=>(by cases h),λh=>absurd rfl h⟩) (by kernel_rfl) ?_);refine qO O (mg W (by kernel_rfl) λgF Z hF=>qR [.n 50 0] 28 [0,1,0,1,1] λs1 g1 w1 c1=>Af λI=>Ce 28 [(0,pt mb 0),(18,S3.v lt),(19,iv (lt.n:Int)),(20,iv 0)] [true,false] [⟨mb,.cells (mtA nb ob tb) 73,.z,false⟩] (λk G H e L=>∃ (j:Nat) (A:Meet),k=M.br.length-j/\j<=M.br.length/\e=[(0,pt mb 0),(18,S3.v lt),(19,iv (lt.n:Int)),(20,iv (j:Int))]/\L=[⟨mb,.cells (mtA nb ob tb) 73,.z,false⟩]/\MS mb tb ob nb G H A/\(M.br.drop j).foldl (λM l=>M.ni l) A=M.rE/\COk n (M.br.length-j) A/\FzL G H lt (D.map (pt · 0))/\Lets G H D M.br/\Cg w.heap.size TM g w G H) (by kernel_rfl) (by kernel_rfl) (by kernel_rfl) (by kernel_rfl) M.br.length (λK=>?_) ?_)
 .have C9:Cg w.heap.size [.n 50 0,.n 51 0] g w g1 w1:=((Z.mono (by simp)).trans (c1.mono (by simp)));obtain⟨o1,o2,o3⟩:=I.rY 1 ob (.cells #[S3.v s30,S3.v tl] 67) 50 0 (by kernel_rfl);exact⟨0,{ M with br:=[] },rfl,mY _,rfl,rfl,h.outs C9 ⟨o1,o2,o3,⟨[],OwnS.nil _ _ _ _ _ _,⟨rfl,λk b m h=>(by cases h)⟩⟩,O.eo.ch C9⟩ K.new,rfl,⟨u.ae,by show M.br.length+0+pw M<=_;exact R,u.eo,u.bad,λl s=>(by cases s)⟩,(hF.fz.ch c1),i.ch C9,C9.mono (by simp[TM,TN])⟩
 .rintro k gr wr _ zr _ ⟨j,A,rfl,hj,rfl,rfl,hM,hI,hA,hFz,hLt,hC⟩ J hJ;have a0:=hFz.n;refine qR [] 5 [] λs2 g2 w2 a=>?_;by_cases V:j<M.br.length
  .refine qI ((decide ((j:Int)<(lt.n:Int)))) true (M' (by omega)) ?_;obtain⟨l,s⟩:∃ l,M.br[j]?=some l:=⟨_,G' V⟩;obtain⟨o,t⟩:∃ o,D[j]?=some o:=⟨_,G' (by rw[i.len];exact V)⟩;have c:=u.br l (nm s);have N:=hLt.at_ j o l t s;have C:(D.map (pt · 0))[j]?=some (pt o 0):=by rw[nB,t];rfl
   obtain⟨b,X,_⟩:=hFz.at_ j (pt o 0) C;obtain⟨S,Q⟩:∃ S,M.br.length-j=S+1:=⟨M.br.length-j-1,by omega⟩;rw[Q]at hA
   have P:=hA.ni c;rw[Y2 s,rm]at hI
   refine qR [] 5 [] λs3 g3 w3 d=>qV 0 (pt b j) (jg X j (by omega)) (qV 1 (pt o 0) (Db underlying143 rfl (((hFz.ch a).ch d).cell X C)) (qR [] 5 [] λs5 g5 w5 p=>Af λK=>?_));have Y:MS mb tb ob nb g5 w5 A:=(hM.rH ((a.trans d).trans p) K.new);refine qG 2 TM [true] (LF Y (hB.ch ((((hC.n a).n d).n p)) F0) hT o l (N.ch (((a.nil TM).n d).n p) F0) c (hA.ae l.dst c.dst) (by have:=hA.wt;have:=Eh (A.ae l.dst).bt;have:=Rm A c.dst;omega)) ?_;rintro e' w6 ⟨g6,rfl,T,q⟩;refine⟨_,g6,rfl,q,T.new,?_⟩;replace q:=q.ret (B:=w.heap.size);refine qR [] 3 [] λs7 g7 w7 E=>qV 0 (iv ((j:Int)+1)) (AI (x:=(.tmp 20)) (y:=(.const (iv 1))) (j:Int) 1 underlying3 (by omega)) (qR [] 2 [] λs8 g8 w8 F=>qB [true] λz I K=>hJ (M.br.length-(j+1)) _ _ _ z _ (by omega) ⟨j+1,A.ni l,rfl,by omega,rfl,rfl,(T.rH (E.trans F) I.new),hI,(by rw[show M.br.length-(j+1)=S by omega];exact P.1),((((((hFz.ch a).ch d).ch p).ch q).ch E).ch F),hLt.ch ((((((a.nil TM).n d).n p).trans (q)).n E).n F) F0,((((((hC.n a).n d).n p).trans q).n E).n F)⟩ K)
  .refine qI ((decide ((j:Int)<(lt.n:Int)))) false (D' (by omega)) (qR [] 1 [] λs9 g9 w9 U=>?_);obtain rfl:j=M.br.length:=by omega
   rw[oF]at hI
   rw[<- hI];refine qE (.tuple #[]) λK=>⟨_,rfl,(hM.rH (a.trans U) K.new),((hC.n a).n U)⟩
end
end
end Go.Proofs.YtogibonjmbhliaaGreatDoor
