/- Part 14 of the walk. -/
import Derived.Test.YtdjfdfpkkenjbabGreatDoorZ13
import Derived.Test.YtdjfdfpkkenjbabGreatDoorZ9
set_option maxRecDepth 100000
set_option maxHeartbeats 4000000
open Go.Proofs.Tryz
set_option linter.unusedVariables false
namespace Go.Proofs.YtdjfdfpkkenjbabGreatDoor
section
open Go.RowKit
section
variable{key l:List Int}
theorem Sl.sc{w:World}{a:Option Addr}{n c:Nat}(h:Sl w (.slice a n c) l)(b:Nat)(d:b+4<=l.length)(m k:Int)(g:m=(b:Int))(f:k=(b:Int)+4) :
  ∃ a' c',(∀ W,(Instr.slice 41 (.slice a n c) (some (.int .i64 m)) (some (.int .i64 k)) none).run prog W=.ok (.slice a' 4 c') W)/\Sl w (.slice a' 4 c') ((l.take (b+4)).drop b):=by
 subst g;subst f;have i:=h.rA b (b+4) (by omega) d;obtain⟨⟨a',j,e,s,t,r⟩,q,p⟩:=h;simp only[Value.slice.injEq]at e;obtain⟨rfl,rfl,rfl⟩:=e;have o:b+4-b=4:=by omega
 unfold sliced at i;rw[o]at i
 refine⟨_,_,λW=>?_,i⟩;rw[run_slice_lh (P:=prog) W 41 a _ c underlying41 .i64 .i64 _ _ (by omega) (by omega) (by omega)];have e:prog.elem 41=5:=by kernel_rfl
 rw[e,Hr,show((b:Int)+4).toNat=b+4 by omega,oK];simp[Result.andThen,sliced]
theorem QA(x b:Int)(f:0<=x/\x<36028797018963968)(d:0<=b/\b<256):bits .or .i64 (x*256) b=x*256+b:=by
 obtain⟨x,rfl⟩:=nh f.1;obtain⟨y,rfl⟩:=nh d.1;have e:(x:Int)*256=((x*256:Nat):Int):=by omega
 have key:(BitVec.ofInt 64 ((x*256:Nat):Int) ||| BitVec.ofInt 64 (y:Int)).toNat=x*256+y:=by
  rw[qX,pM,pM];have a:((y:Int)%((2^64:Nat):Int)).toNat=y:=by omega
  have c:(((x*256:Nat):Int)%((2^64:Nat):Int)).toNat=2^8*x:=by omega
  rw[a,c,<- pl (by omega:y<2^8)];omega
 rw[e];show IntKind.i64.wrap ((BitVec.ofInt 64 ((x*256:Nat):Int) ||| BitVec.ofInt 64 (y:Int)).toNat:Nat)=_;rw[key,IntKind.wrap_i64];omega
def CI(h:List Int):Nat->Int
 | 0=>0
 | k+1=>CI h k*256+h.getD k 0
theorem JU{h:List Int}(a:∀ x∈h,0<=x/\x<256)(k:Nat):0<=CI h k/\CI h k<256^k:=by
 induction k with
 | zero=>simp[CI]
 | succ k ih =>
  have:=Ae a k;rw[CI,p7];omega
theorem LQ(l:List Int)(a:Nat)(h:a+4<=l.length):CI ((l.take (a+4)).drop a) 4=Ab l a:=by
 show(((0*256+((l.take (a+4)).drop a).getD 0 0)*256+((l.take (a+4)).drop a).getD 1 0)*256+((l.take (a+4)).drop a).getD 2 0)*256+((l.take (a+4)).drop a).getD 3 0=_;rw[CS,CS,CS,CS,Bi _ _ _ (by omega),Bi _ _ _ (by omega),Bi _ _ _ (by omega),Bi _ _ _ (by omega)];unfold Ab;rw[oU];omega
theorem Iw(v:Value)(l:List Int)(b:Nat)(w:World)(h:Sl w v l)(o:b+4<=l.length)(f:Int)(g:f=(b:Int)) :
  Calls prog 211 #[v,.int .i64 f] w λe w'=>e=.returned (.int .i64 (Ab l b))/\w'=w:=by
 have s:Hid (CI ((l.take (b+4)).drop b) 4=Ab l b):=LQ l b o;have d:=h.len;have H:0<=f:=by omega
 have I:f<=140737488351232:=by omega
 obtain⟨a,c,rfl⟩:=h.shape;obtain⟨D,F,y,k⟩:=h.sc b o f (f+4) g (by omega);have m:Hid (∀ x∈(l.take (b+4)).drop b,0<=x/\x<256):=k.byte;have t:Hid (((l.take (b+4)).drop b).length=4):=by unfold Hid;rw[mJ,mH];omega
 generalize (l.take (b+4)).drop b=L at s k m t;generalize l.length=N at y d ⊢;clear h o g d;go_enter func211,ntmps211
 go_wp2_with fail
 go_loopw [5,14] (λv iv wr=>∃ j:Nat,j<=4/\iv=.int .i64 (j:Int)/\v=.int .i64 (CI L j)/\wr=w) (λ_ iv _=>(4-intOf iv).toNat)
 case atStart=>exact⟨0,by omega,rfl,rfl,rfl⟩
 case round =>
  obtain⟨j,G,rfl,rfl,rfl⟩:=hrel;by_cases C:j<4
  .have hii:(j:Int)<4:=by omega
   have p:=JU m.out j;have r:CI L j<16777216:=by
    have:(256:Int)^j<=256^3:=by
     rcases(by omega:j=0\/j=1\/j=2\/j=3)with rfl|rfl|rfl|rfl<;>decide
    omega
   have u:=Ae m.out j;obtain⟨E,od,rfl,z,A⟩:=k.rK j (by have:=t.out;omega);have i:=QA (CI L j) (L.getD j 0) ⟨p.1,by omega⟩ u;have n:Hid (CI L j*256+L.getD j 0=CI L (j+1)):=rfl;have q:=p.1;clear p k y;generalize CI L j=X at q r i n;generalize L.getD j 0=B at u A i n;go_wp2
   go_roundw
   case rel=>exact⟨j+1,by omega,by go_num,by rw[<- n.out],trivial⟩
   case measure=>simp[intOf];omega
  .obtain rfl:j=4:=by omega
   rw[show((4:Nat):Int)=4 from rfl,s.out];go_wp2
   go_ret;exact⟨rfl,rfl⟩
def RU(l:List Int)(j:Nat):List Int:=(List.range 5).map λi=>if i<j then Ab l (4*i)else 0
def rowOf(m:List Int):Array Value:=(m.map (Value.int .i64)).toArray
theorem XU(l:List Int)(j:Nat)(a:j<5):(rowOf (RU l j)).setIfInBounds j (.int .i64 (Ab l (4*j)))=rowOf (RU l (j+1)):=by
 rcases(by omega:j=0\/j=1\/j=2\/j=3\/j=4)with rfl|rfl|rfl|rfl|rfl
 all_goals rfl
theorem Lr(v:Value)(l:List Int)(w:World)(h:Sl w v l)(ht:NTab w) :
  Calls prog 174 #[v] w λe w'=>e=.returned (.tuple #[.agg (Ku l),.int .i64 (Ct l)])/\Bw w w':=by
 have G:=h.len;obtain⟨a,cp,rfl⟩:=h.shape;by_cases E:l.length=20
 .have i:Hid (Ct l=Bb (Ab l 0) (Ab l 4) (Ab l 8) (Ab l 12) (Ab l 16)):=if_neg (λg=>g E);have Z:=h;have HL:Hid (l.length=20):=E;rw[E]at Z ⊢
  clear h E G;have b0:Bw w (w.alloc (.cells (cmA 0 0 0 0 0) 64)):=(Below.refl _ _).alloc (A' _) _;have z0:(w.alloc (.cells (cmA 0 0 0 0 0) 64)).heap.size=w.heap.size+1:=by simp
  have B:=heap_alloc_new w (.cells (cmA 0 0 0 0 0) 64);have N:Below (w.heap.size+1) (w.alloc (.cells (cmA 0 0 0 0 0) 64)) ((w.alloc (.cells (cmA 0 0 0 0 0) 64)).alloc (.cells (cmA 0 0 0 0 0) 64)):=(Below.refl _ _).alloc (by omega) _;have C:=heap_alloc_new (w.alloc (.cells (cmA 0 0 0 0 0) 64)) (.cells (cmA 0 0 0 0 0) 64);rw[z0]at C
  replace B:=(N.block w.heap.size (by omega)).trans B;have J:=b0.trans (N.mono (nU _));have z1:((w.alloc (.cells (cmA 0 0 0 0 0) 64)).alloc (.cells (cmA 0 0 0 0 0) 64)).heap.size=w.heap.size+1+1:=by simp
  have Y:(w.alloc (.cells zV5 64)).alloc (.cells zV5 64)=(w.alloc (.cells (cmA 0 0 0 0 0) 64)).alloc (.cells (cmA 0 0 0 0 0) 64):=rfl;clear b0 N z0;generalize (w.alloc (.cells (cmA 0 0 0 0 0) 64)).alloc (.cells (cmA 0 0 0 0 0) 64)=W at B C J z1 Y;go_enter func174,ntmps174
  go_wp2_with fail
  clear Y;refine(GN (w.heap.size+1) W).mono ?_;rintro e w2 ⟨rfl,H⟩;replace B:=(H.block w.heap.size (by omega)).trans B;replace C:=(H.block (w.heap.size+1) (by omega)).trans C;have d2:=J.trans (H.mono J.size);have o:Hid _:=B;have q:Hid (w2.heap[w.heap.size+1]?=some (.cells (rowOf (RU l 0)) 64)):=C;clear B C H J z1;have y:=QJ (w.heap.size+1);go_wp2_with fail
  go_loopw [13] (λiv wr=>∃ j:Nat,j<=5/\iv=.int .i64 (j:Int)/\wr.heap[w.heap.size]?=some (.cells (cmA 0 0 0 0 0) 64)/\wr.heap[w.heap.size+1]?=some (.cells (rowOf (RU l j)) 64)/\Bw w wr) (λiv _=>(5-intOf iv).toNat)
  case atStart=>exact⟨0,by omega,rfl,o.out,q.out,d2⟩
  case round =>
   obtain⟨j,hj,rfl,r,m,d⟩:=hrel;clear o q;by_cases z:j<5
   .have hji:(j:Int)<5:=by omega
    have a1:=y j z;have u:∃ x,wr.cell? ⟨w.heap.size+1,j,none⟩=some (.int .i64 x):=⟨(RU l j).getD j 0,(cell_of_row _ _ j _ _ _ m).trans (by simp[rowOf,RU,z])⟩;obtain⟨x,hx⟩:=u;have a0:=frozen_of_row wr _ j _ _ m;have o:Hid _:=r;have q:Hid _:=m;have R:=XU l j z;clear y r m;go_wp2_with fail
    refine(Iw (.slice a 20 cp) l (4*j) wr (Z.ab d) (by rw[HL.out];omega) _ (by omega)).mono ?_;rintro e Q ⟨rfl,rfl⟩;have A:(Q.setCell ⟨w.heap.size+1,j,none⟩ (.int .i64 (Ab l (4*j)))).heap[w.heap.size]?=some (.cells (cmA 0 0 0 0 0) 64):=(heap_setCell_other _ _ _ _ (by simp)).trans o.out;have M:(Q.setCell ⟨w.heap.size+1,j,none⟩ (.int .i64 (Ab l (4*j)))).heap[w.heap.size+1]?=some (.cells (rowOf (RU l (j+1))) 64):=by
     rw[heap_setCell_same _ _ _ _ _ _ q.out,R]
    have q2:Bw w (Q.setCell ⟨w.heap.size+1,j,none⟩ (.int .i64 (Ab l (4*j)))):=d.setCell (p:=⟨w.heap.size+1,j,none⟩) (nU _) _;have S:Hid _:=A;have T:Hid _:=M;clear R A M o q;generalize Ab l (4*j)=X at S T q2 ⊢;go_wp2
    go_roundw
    case rel=>exact⟨j+1,by omega,by go_num,S.out,T.out,q2⟩
    case measure=>simp[intOf];omega
   .obtain rfl:j=5:=by omega
    rw[show((5:Nat):Int)=5 from rfl];have b:wr.heap[w.heap.size+1]?=some (.cells (cmA (Ab l 0) (Ab l 4) (Ab l 8) (Ab l 12) (Ab l 16)) 64):=m;clear m y;have f:Hid (Ct l=0->Ku l=cmA (Ab l 0) (Ab l 4) (Ab l 8) (Ab l 12) (Ab l 16)):=λh=>if_pos h;have t:Hid (¬ Ct l=0->Ku l=cmA 0 0 0 0 0):=λh=>if_neg h;have V:=ht.ab d;generalize Ab l 0=k at i f b;generalize Ab l 4=c at i f b;generalize Ab l 8=s at i f b;generalize Ab l 12=n at i f b;generalize Ab l 16=v at i f b;have L:=Gt k c s n v;have F:=Gt 0 0 0 0 0;have O:=(D'.1 b).1;go_wp2_with (refine wpList_load_row rfl 64 _ rfl (w.heap.size+1) rfl 64 _ (0,0) _ b underlying64 rfl L ?_)
    refine(DP k c s n v wr V).mono ?_;rintro e w6 ⟨rfl,I⟩;have U:=d.trans (I.mono d.size);have A:=(I.block w.heap.size (by omega)).trans r;have M:=(I.block (w.heap.size+1) O).trans b;clear r b I V d;by_cases K:Bb k c s n v=0
    .have HZ:Hid (Ct l=0):=i.out.trans K;have D:Hid (Ku l=cmA k c s n v):=f.out HZ.out;rw[K];clear K i f t;go_wp2_with (first|(refine wpList_load_row rfl 64 _ rfl (w.heap.size+1) rfl 64 _ (0,0) _ M underlying64 rfl L ?_)|(refine wpList_store_row rfl 64 (.tmp 2) (.tmp 30) rfl w.heap.size (cmA k c s n v) rfl rfl 64 _ A L rfl (Um k c s n v) ?_))
     have P:=setRow_heap w6 w.heap.size _ (cmA k c s n v) 64 _ A;refine bodyPost_ret (JV rfl _ _ w.heap.size 64 _ (0,0) _ rfl P underlying64 rfl L) rfl ?_;rw[HZ.out,D.out];exact⟨rfl,BZ U (A' _) _⟩
    .have HZ:Hid (Ct l=Bb k c s n v):=i.out;have D:Hid (Ku l=cmA 0 0 0 0 0):=t.out (by rw[i.out];exact K);clear i f t;go_wp2_with (refine wpList_store_row rfl 64 (.tmp 2) (.tmp 28) rfl w.heap.size (cmA 0 0 0 0 0) rfl rfl 64 _ A F rfl (Um 0 0 0 0 0) ?_)
     have P:=setRow_heap w6 w.heap.size _ (cmA 0 0 0 0 0) 64 _ A;refine bodyPost_ret (JV rfl _ _ w.heap.size 64 _ (0,0) _ rfl P underlying64 rfl F) rfl ?_;rw[HZ.out,D.out];exact⟨rfl,BZ U (A' _) _⟩
 .have h1':¬ (l.length:Int)=20:=by omega
  have i:Hid (Ct l=1):=if_pos E;have D:Hid (Ku l=cmA 0 0 0 0 0):=if_neg (by rw[i.out];omega);have bb:Bw w (w.alloc (.cells (cmA 0 0 0 0 0) 64)):=(Below.refl _ _).alloc (A' _) _;have bc:=Bc.made w 0 0 0 0 0;go_enter func174,ntmps174
  go_wp2
  refine bodyPost_ret (JV rfl _ _ w.heap.size 64 _ (0,0) _ rfl (heap_alloc_new _ _) underlying64 rfl (Gt 0 0 0 0 0)) rfl ?_;rw[i.out,D.out];exact⟨rfl,bb⟩
theorem IH(c r u:Int):(tkA c r u).all (·.oneCell')=true:=by simp[tkA,Value.oneCell']
theorem Ro(v:Value)(l:List Int)(w:World)(h:Sl w v l)(x:6<=l.length) :
  Calls prog 210 #[v] w λe w'=>e=.returned (.agg (tkA (l.getD 0 0) (l.getD 1 0) (Ab l 2)))/\Bw w w':=by
 have d:=h.len;obtain⟨a,t,rfl⟩:=h.shape;have i:Bw w (w.alloc (.cells (tkA 0 0 0) 101)):=(Below.refl _ _).alloc (A' _) _;have j:=heap_alloc_new w (.cells (tkA 0 0 0) 101);have f:=h.ab i;have o:w.alloc (.cells #[.int .i64 0,.int .i64 0,.int .i64 0] 101)=w.alloc (.cells (tkA 0 0 0) 101):=rfl;generalize w.alloc (.cells (tkA 0 0 0) 101)=W0 at i j f o;obtain⟨r,od,rfl,u,k⟩:=f.rK 0 (by omega);obtain⟨s,A,m,_,q⟩:=f.rK 1 (by omega);simp only[P',Addr.mk.injEq,and_true]at m;obtain⟨rfl,rfl⟩:=m;rw[oU]at k
 have C:=Ae h.byte 0;have D:=Ae h.byte 1;have y:(0:Int)<(l.length:Int):=by omega
 have z:(1:Int)<(l.length:Int):=by omega
 have n:Calls prog 211 #[.slice (some ⟨r,od,none⟩) l.length t,.int .i64 2] W0.drew λe w'=>e=.returned (.int .i64 (Ab l 2))/\w'=W0.drew :=
  Iw _ l 2 _ (f.ab (Below.refl _ _).drew) (by omega) 2 rfl
 have g:Hid _:=n;clear n;generalize l.getD 0 0=b0 at k C;generalize l.getD 1 0=b1 at q D;generalize Ab l 2=b2 at g;generalize l.length=N at d x y z g ⊢;clear h f;have p:=II b0 b1 b2;go_enter func210,ntmps210
 go_wp2_with fail
 refine Ah 11 (by kernel_rfl) (by kernel_rfl) ?_;simp only[nC,nM,nE,oc]
 repeat (go_big_quiet_step (fail))
 go_big_quiet_want
 go_big_quiet_op
 refine⟨_,g.out,?_⟩
 go_big_quiet_on
 repeat (go_big_quiet_step (fail))
 refine wpQuiet_nil ?_;clear o;have b:W0.drew.heap[w.heap.size]?=some (.cells (tkA 0 0 0) 101):=j;have c:Bw w W0.drew:=i.drew;clear j i k q g;generalize W0.drew=W at b c ⊢;go_wp2_with (refine wpList_store_row rfl 101 (.tmp 2) (.tmp 13) rfl w.heap.size (tkA b0 b1 b2) rfl rfl 101 _ b p rfl (IH b0 b1 b2) ?_)
 have B:=setRow_heap W w.heap.size _ (tkA b0 b1 b2) 101 _ b;exact bodyPost_ret (v:=.agg (tkA b0 b1 b2)) (results_cell_row rfl _ _ w.heap.size 101 _ (0,0) _ rfl B underlying101 rfl p) rfl ⟨rfl,BZ c (A' _) _⟩
def Eb(key l:List Int):Int :=
 if key.length≠32\/l.length≠22 then 1
 else if(DZ key (l.take 6)).take 16≠l.drop 6 then 6
 else Nh (l.getD 0 0) (l.getD 1 0) (Ab l 2)
def MV(key l:List Int):Array Value:=if Eb key l=0 then tkA (l.getD 0 0) (l.getD 1 0) (Ab l 2)else tkA 0 0 0
theorem NZ(h:key.length≠32\/l.length≠22):Eb key l=1:=if_pos h
theorem ZE(a:key.length=32)(b:l.length=22)(h:¬ (DZ key (l.take 6)).take 16=l.drop 6):Eb key l=6:=by
 unfold Eb;rw[if_neg (by omega),if_pos h]
theorem ZF(a:key.length=32)(b:l.length=22)(h:(DZ key (l.take 6)).take 16=l.drop 6):Eb key l=Nh (l.getD 0 0) (l.getD 1 0) (Ab l 2):=by
 unfold Eb;rw[if_neg (by omega),if_neg (λg=>g h)]
theorem UK(h:Eb key l=0):MV key l=tkA (l.getD 0 0) (l.getD 1 0) (Ab l 2):=if_pos h
theorem I1(h:¬ Eb key l=0):MV key l=tkA 0 0 0:=if_neg h
theorem SR(l:List Int):Ab (l.take 6) 2=Ab l 2:=by
 unfold Ab;rw[Bi _ _ _ (by omega),Bi _ _ _ (by omega),Bi _ _ _ (by omega),Bi _ _ _ (by omega)]
theorem Ww(vk vb:Value)(key l:List Int)(w:World)(z:Sl w vk key)(x:Sl w vb l)(ht:AD w) :
  Calls prog 173 #[vk,vb] w λe w'=>e=.returned (.tuple #[.agg (MV key l),.int .i64 (Eb key l)])/\Bw w w':=by
 have lk:=z.len;have ll:=x.len;obtain⟨ak,ck,rfl⟩:=z.shape;obtain⟨U,Y,rfl⟩:=x.shape;have i:Bw w (w.alloc (.cells (tkA 0 0 0) 101)):=(Below.refl _ _).alloc (A' _) _;have L:=heap_alloc_new w (.cells (tkA 0 0 0) 101);have d:=II 0 0 0;by_cases o:key.length=32
 .by_cases h2:l.length=22
  .have H1:Hid (key.length=32):=o;have t:Hid (l.length=22):=h2;rw[o]at z ⊢
   rw[h2]at x ⊢
   clear lk ll o h2;have v:w.alloc (.cells #[.int .i64 0,.int .i64 0,.int .i64 0] 101)=w.alloc (.cells (tkA 0 0 0) 101):=rfl;generalize w.alloc (.cells (tkA 0 0 0) 101)=W at i L v;obtain⟨S,V,C,s6⟩:=x.gm 6 (by have:=t.out;omega);have r6:∀ W,(Instr.slice 41 (.slice U 22 Y) none (some (.int .i64 6)) none).run prog W=.ok (.slice S 6 V) W:=C;obtain⟨T,X,D,s7⟩:=x.from 6 (by have:=t.out;omega);have r7:∀ W,(Instr.slice 41 (.slice U 22 Y) (some (.int .i64 6)) none none).run prog W=.ok (.slice T 16 X) W:=D;clear C D;have R:Hid ((l.take 6).length=6):=by unfold Hid;rw[mH,t.out];rfl
   go_enter func173,ntmps173
   go_wp2_with fail
   clear v;refine(Rj _ _ key (l.take 6) W (z.ab i) (s6.ab i) (by rw[H1.out];omega) (by rw[R.out];omega) (ht.ab i)).mono ?_;rintro e M ⟨v1,rfl,s1,N⟩;have P:=i.trans (N.mono i.size);have q1:=(N.block w.heap.size (D'.1 L).1).trans L;have E:=s7.ab P;clear N i L;go_wp2_with fail
   refine(I7 v1 (.slice T 16 X) _ _ M s1 E).mono ?_;rintro e w2 ⟨rfl,m,rfl⟩;have n:Bw w (M.drewN m):=Ak P m;have s:(M.drewN m).heap[w.heap.size]?=some (.cells (tkA 0 0 0) 101):=q1;clear q1 P s1 E;generalize M.drewN m=W2 at n s ⊢;by_cases p:(DZ key (l.take 6)).take 16=l.drop 6
   .have HE:=ZF H1.out t.out p;have b:Hid (Eb key l=0->MV key l=tkA (l.getD 0 0) (l.getD 1 0) (Ab l 2)):=UK;have j:Hid (¬ Eb key l=0->MV key l=tkA 0 0 0):=I1;have F:Hid ((l.take 6).getD 0 0=l.getD 0 0/\(l.take 6).getD 1 0=l.getD 1 0/\Ab (l.take 6) 2=Ab l 2):=⟨Bi _ _ _ (by omega),Bi _ _ _ (by omega),SR l⟩;rw[N' p];clear p;go_wp2_with fail
    refine(Ro (.slice S 6 V) (l.take 6) W2 (s6.ab n) (by rw[R.out];omega)).mono ?_;rintro e g ⟨rfl,O⟩;rw[F.out.1,F.out.2.1,F.out.2.2];have Q:=n.trans (O.mono n.size);have f:=(O.block w.heap.size (D'.1 s).1).trans s;clear O s n F;generalize l.getD 0 0=c at HE b ⊢;generalize l.getD 1 0=r at HE b ⊢;generalize Ab l 2=u at HE b ⊢;have y:=II c r u;have H:Bw g (g.alloc (.cells (tkA 0 0 0) 101)):=(Below.refl _ _).alloc (A' _) _;have K:=heap_alloc_new g (.cells (tkA 0 0 0) 101);have v:g.alloc (.cells #[.int .i64 0,.int .i64 0,.int .i64 0] 101)=g.alloc (.cells (tkA 0 0 0) 101):=rfl;generalize g.alloc (.cells (tkA 0 0 0) 101)=W4 at H K v;have A:w.heap.size<g.heap.size:=(D'.1 f).1
    go_upto_region 10 with(refine wpList_store_row rfl 101 (.tmp 9) (.tmp 38) rfl g.heap.size (tkA c r u) rfl rfl 101 _ K y rfl (IH c r u) ?_)
    clear v;have k:=setRow_heap W4 g.heap.size _ (tkA c r u) 101 _ K;replace f:=((H.block w.heap.size A).trans f);replace f:=(setRow_other W4 g.heap.size w.heap.size (tkA c r u) (by omega)).trans f;have J:=BZ (Q.trans (H.mono Q.size)) (show w.heap.size<=g.heap.size by omega) (tkA c r u);generalize W4.setRow g.heap.size (tkA c r u)=W5 at f k J ⊢;clear K H Q;generalize g.heap.size=G at k A ⊢;go_wp2_with (refine wpList_load_row rfl 101 _ rfl G rfl 101 _ (0,0) _ k underlying101 rfl y ?_)
    refine(Ji c r u W5).mono ?_;rintro e w6 ⟨rfl,I⟩;have Z:=J.trans (I.mono J.size);replace f:=(I.block w.heap.size (D'.1 f).1).trans f;replace k:=(I.block G (D'.1 k).1).trans k;clear I J;by_cases q:Da c r u
    .have a:Hid (Eb key l=0):=HE.trans (KT q);have h:Hid (MV key l=tkA c r u):=b.out a.out;rw[N' q];clear HE b j q;go_wp2_with (first|(refine wpList_load_row rfl 101 _ rfl G rfl 101 _ (0,0) _ k underlying101 rfl y ?_)|(refine wpList_store_row rfl 101 (.tmp 4) (.tmp 43) rfl w.heap.size (tkA c r u) rfl rfl 101 _ f y rfl (IH c r u) ?_))
     have B:=setRow_heap w6 w.heap.size _ (tkA c r u) 101 _ f;refine bodyPost_ret (JV rfl _ _ w.heap.size 101 _ (0,0) _ rfl B underlying101 rfl y) rfl ?_;rw[a.out,h.out];exact⟨rfl,BZ Z (A' _) _⟩
    .have a:Hid (Eb key l=2):=HE.trans (UZ q);have h:Hid (MV key l=tkA 0 0 0):=j.out (by rw[a.out];omega);rw[G' q];clear HE b j q;go_wp2_with (refine wpList_store_row rfl 101 (.tmp 4) (.tmp 42) rfl w.heap.size (tkA 0 0 0) rfl rfl 101 _ f d rfl (IH 0 0 0) ?_)
     have B:=setRow_heap w6 w.heap.size _ (tkA 0 0 0) 101 _ f;refine bodyPost_ret (JV rfl _ _ w.heap.size 101 _ (0,0) _ rfl B underlying101 rfl d) rfl ?_;rw[a.out,h.out];exact⟨rfl,BZ Z (A' _) _⟩
   .have a:Hid (Eb key l=6):=ZE H1.out t.out p;have h:Hid (MV key l=tkA 0 0 0):=I1 (by rw[a.out];omega);rw[G' p];clear p;go_wp2_with (refine wpList_store_row rfl 101 (.tmp 4) (.tmp 36) rfl w.heap.size (tkA 0 0 0) rfl rfl 101 _ s d rfl (IH 0 0 0) ?_)
    have B:=setRow_heap W2 w.heap.size _ (tkA 0 0 0) 101 _ s;refine bodyPost_ret (JV rfl _ _ w.heap.size 101 _ (0,0) _ rfl B underlying101 rfl d) rfl ?_;rw[a.out,h.out];exact⟨rfl,BZ n (A' _) _⟩
  .have h2':¬ (l.length:Int)=22:=by omega
   have a:Hid (Eb key l=1):=NZ (.inr h2);have h:Hid (MV key l=tkA 0 0 0):=I1 (by rw[a.out];omega);rw[o]at z ⊢
   clear o;go_enter func173,ntmps173
   go_wp2
   refine bodyPost_ret (JV rfl _ _ w.heap.size 101 _ (0,0) _ rfl (heap_alloc_new _ _) underlying101 rfl d) rfl ?_;rw[a.out,h.out];exact⟨rfl,i⟩
 .have h1':¬ (key.length:Int)=32:=by omega
  have a:Hid (Eb key l=1):=NZ (.inl o);have h:Hid (MV key l=tkA 0 0 0):=I1 (by rw[a.out];omega);go_enter func173,ntmps173
  go_wp2
  refine bodyPost_ret (JV rfl _ _ w.heap.size 101 _ (0,0) _ rfl (heap_alloc_new _ _) underlying101 rfl d) rfl ?_;rw[a.out,h.out];exact⟨rfl,i⟩
end
end
section
section
def Q9(l:List Int):Int:=if l=[]then 13 else if 7<l.getD 0 0 then 2 else Cl (G9 (l.getD 0 0)) 0 0 noB (l.drop 1)
def OU(l:List Int):List Int:=if Q9 l=0 then Kj (G9 (l.getD 0 0)) (l.drop 1)else[]
def unT(l:List Int):List Int:=(OU l).take 22
def unQ(l:List Int):List Int:=(OU l).drop 22
def unB(l:List Int):Prop:=Q9 l=0/\(OU l).length=42/\Eb G8 (unT l)=0
instance (l:List Int):Decidable (unB l):=by unfold unB;exact inferInstance
def unE(l:List Int):Int:=if Q9 l≠0 then Q9 l else if(OU l).length≠42 then 3 else if Eb G8 (unT l)≠0 then Eb G8 (unT l)else Ct (unQ l)
variable{i:Nat}{l:List Int}{now:Int}
theorem bj(h:unE l=0):unB l/\Ct (unQ l)=0:=by
 unfold unE at h;split at h
 .rename_i g;exact absurd h g
 .rename_i g1
  split at h
  .cases h
  .rename_i g2
   split at h
   .rename_i g;exact absurd h g
   .rename_i g3
    exact⟨⟨oJ.1 g1,oJ.1 g2,oJ.1 g3⟩,h⟩
theorem lQ(h:unE l=0):0<l.length:=by
 obtain⟨⟨a,_⟩,_⟩:=bj h;cases l with
 | nil=>cases a
 | cons x r=>simp
def opE(l:List Int)(now:Int):Int :=
 if unE l≠0 then unE l
 else if Ab (unQ l) 0≠0/\Ab (unQ l) 4≠l.getD 0 0 then 11
 else EA ((unT l).getD 0 0) ((unT l).getD 1 0) (Ab (unT l) 2) (Ab (unQ l) 0) (Ab (unQ l) 4) (Ab (unQ l) 8) (Ab (unQ l) 12) (Ab (unQ l) 16) now
def opA(l:List Int)(now:Int):Array Value:=if opE l now=0 then cmA (Ab (unQ l) 0) (Ab (unQ l) 4) (Ab (unQ l) 8) (Ab (unQ l) 12) (Ab (unQ l) 16)else cmA 0 0 0 0 0
theorem OS(h:opE l now≠0):opA l now=cmA 0 0 0 0 0:=if_neg h
theorem Zo(h:opE l now=0):opA l now=cmA (Ab (unQ l) 0) (Ab (unQ l) 4) (Ab (unQ l) 8) (Ab (unQ l) 12) (Ab (unQ l) 16):=if_pos h
def Nod.ni(p:Nod)(i:Nat):Nod × List Let :=
 if(Dy p.vo.p p.bu (p.af.take 40)).1=[]then({ p with bu:=(Dy p.vo.p p.bu (p.af.take 40)).2 },[])
 else if p.vo.p.n=(i:Int)then(Nod.eN { p with bu:=(Dy p.vo.p p.bu (p.af.take 40)).2 } (Dy p.vo.p p.bu (p.af.take 40)).1,[])
 else({ p with bu:=(Dy p.vo.p p.bu (p.af.take 40)).2 },[{ Cv 6 with an:=p.ae.length,cx:=(Dy p.vo.p p.bu (p.af.take 40)).1,src:=i,dst:=p.vo.p.n.toNat }])
noncomputable def doP(i:Nat):List Cmd->Nod->List Tol->Nod × List Tol
 | [],p,ts=>(p,ts)
 | c::l,p,ts =>
  if doE p.kc c≠0 then(p,ts)
  else doP i l (Nod.fv { p with kc:=doS p.kc c,done:=p.done+1 } c) (if(p.bu c).isSome=true then ts++[⟨i,c.c,c.s,doC p.kc c,doA p.kc c⟩]else ts)
def Nod.nr(p:Nod)(i:Nat)(ls:List Let):Nod × List Let:=if p.sy<(p.d.length:Int)/\DX p.d p.sy≠0 then(p,ls)else CQ i p.br { p.rH with br:=[] } ls
def Nod.bw(p:Nod)(i:Nat)(ls:List Let):Nod × List Let:=if p.leads then(KC p i 5,ls++ET p i 5)else(p,ls)
noncomputable def Nod.piece(p:Nod)(i:Nat)(ls:List Let)(ts:List Tol):Nod × List Let × List Tol :=
 let a:=doP i (p.ae.drop p.done) p ts
 let b:=a.1.ni i
 let c:=b.1.dT.nr i (ls++b.2)
 let d:=c.1.bw i c.2
 (d.1,d.2,a.2)
noncomputable def Nod.rF(p:Nod)(i:Nat)(e:Int)(c:Cmd)(ts:List Tol):Nod × List Tol :=
 if p.up=false then(p,ts)
 else if e≠0 then({ p with bad:=p.bad+1 },ts)
 else if c∈p.ae.take p.done then(p,ts++[⟨i,c.c,c.s,doC p.kc c,doA p.kc c⟩])
 else(p.want c,ts)
def Wm(l:List Int)(now:Int):Cmd:=if opE l now=0 then⟨Ab (unQ l) 0,Ab (unQ l) 4,Ab (unQ l) 8,Ab (unQ l) 12,Ab (unQ l) 16⟩else Vw
theorem iP(l:List Int)(a:Int):opA l a=cmC (Wm l a):=by unfold opA Wm;split<;>rfl
noncomputable def Nod.rO(p:Nod)(i:Nat)(d:List Int)(ts:List Tol):Nod × List Tol:=p.rF i (opE d (p.done:Int)) (Wm d (p.done:Int)) ts
def Meet.set(M:Meet)(i:Nat)(p:Nod)(ls:List Let)(ts:List Tol):Meet:=⟨upN M.ao i p,ls,ts⟩
noncomputable def Meet.act(M:Meet)(x:Lac):Meet :=
 let i:=x.n.toNat
 if x.k=1 then M.set i ((M.ao i).rO i x.d M.cF).1 M.bN ((M.ao i).rO i x.d M.cF).2
 else if x.k=2 then M.set i (if(M.ao i).up then(M.ao i).lead i else M.ao i) M.bN M.cF
 else if x.k=3 then M.set i (if(M.ao i).up then((M.ao i).piece i M.bN M.cF).1 else M.ao i) (if(M.ao i).up then((M.ao i).piece i M.bN M.cF).2.1 else M.bN) (if(M.ao i).up then((M.ao i).piece i M.bN M.cF).2.2 else M.cF)
 else if x.k=4\/x.k=5\/x.k=6 then M.move x.k x.a.toNat
 else if x.k=7 then M.ov
 else if x.k=8 then M.set i (if(M.ao i).up then(M.ao i).pc x.p else M.ao i) M.bN M.cF
 else if x.k=9 then M.set i (if(M.ao i).up then M.ao i else(M.ao i).start) M.bN M.cF
 else M
noncomputable def Meet.pk(M:Meet)(l:List Lac):Meet:=l.foldl Meet.act M
theorem ey(r:List Int):Bq (Fw r).2.p/\BD (Fw r).2.vs:=by
 have h:∀ k,Bq (itR r k).2.p/\BD (itR r k).2.vs:=by
  intro k;induction k with
  | zero=>exact⟨.inr ⟨rfl,rfl⟩,BD.nil⟩
  | succ k ih =>
   rw[itR];unfold LN;split
   .exact ih
   .rename_i c m hs
    have d:∃ b,Id (itR r k).2 b=some c:=by
     unfold F9 at hs;split at hs
     .cases hs
     .split at hs
      .cases hs
      .split at hs
       .cases hs
       .obtain⟨x,hx,e⟩:=ou.1 hs;injection e with e1 e2
        subst e1;exact⟨_,hx⟩
    obtain⟨b,a⟩:=d;unfold Id at a;split at a
    .split at a
     .rename_i h1
      injection a with a;subst a
      exact⟨.inl (NY h1).2.1,ih.2⟩
     .cases a
    .split at a
     .split at a
      .split at a
       .rename_i h1
        injection a with a;subst a
        exact⟨.inl (EV h1).2.1.2.1,FO ih.2 (EV h1).2.1⟩
       .cases a
      .cases a
     .cases a
 exact h r.length
theorem er(d:List Int)(s:Int):Bq (Ho d s).p/\BD (Ho d s).vs:=by
 unfold Ho;split
 .exact ey d
 .exact⟨.inr ⟨rfl,rfl⟩,BD.nil⟩
theorem Jr{l m:Let}{k:Nat}(h:m∈BV i l k):∃ to,to<k/\m={ l with src:=i,dst:=to }:=by
 unfold BV at h;obtain⟨to,a,rfl⟩:=nG.1 h;exact⟨to,o8.1 (List.mem_filter.1 a).1,rfl⟩
theorem Jq(a:i<5)(l:Let):(BV i l 5).length<=4:=by
 unfold BV;rw[mU];rcases hZ a with rfl|rfl|rfl|rfl|rfl<;>decide
end
section
variable{n i:Nat}{p:Nod}
theorem NOk.qQ(h:NOk n p)(a:i<5){q:Pend}(c:POk p.ae.length q):NOk n (p.qQ i q)/\(p.qQ i q).br=p.br/\p.ae.length<=(p.qQ i q).ae.length/\Ry p i q/\(∀ m∈p.pd i q,LOk m)/\(p.pd i q).length<=q.wt:=by
 have j:=h.ag;have one:∀ {l:Let},LOk l->∀ m∈[l],LOk m:=λk m d=>by rw[U'.1 d];exact k
 cases q with
 | began b vs =>
  unfold Nod.qQ Nod.pd;refine⟨?_,?_,?_,qs (h.he i).len (by decide),?_,?_⟩
  .simp only;split
   .exact h
   .exact h.rC i c
  .simp only;split<;>rfl
  .simp only;split<;>exact A' _
  .simp only;split
   .exact λm d=>by cases d
   .rename_i h1
    intro m d;obtain⟨e,f,rfl⟩:=Jr d;exact⟨by show 0<7;decide,a,f,by show Bq b;rw[<- og h1];exact h.vp,BD.nil,by show 0<=40;decide,λh=>by cases h⟩
  .simp only;split
   .exact ng _
   .exact Jq a _
 | prom e b vs=>exact⟨h,rfl,A' _,trivial,one ⟨by show 1<7;decide,a,c.1,c.2.1,c.2.2,j,λh=>by cases h⟩,A' _⟩
 | voted e v=>exact⟨h,rfl,A' _,trivial,one ⟨by show 4<7;decide,a,c,Bq.b0,BD.nil,by show 0<=40;decide,λh=>by cases h⟩,A' _⟩
 | fa e b=>exact⟨h,rfl,A' _,trivial,one ⟨by show 2<7;decide,a,c.1,c.2,BD.nil,by show 0<=40;decide,λh=>by cases h⟩,A' _⟩
 | prop v =>
  have g:=h.count i v;refine⟨g.1,g.2.1,g.2.2,j,λm d=>?_,Jq a _⟩;obtain⟨e,f,rfl⟩:=Jr d;exact⟨by show 3<7;decide,a,f,Bq.b0,BD.nil,by show 0<=40;decide,λh=>by cases h⟩
 | askNews e=>exact⟨h,rfl,A' _,trivial,one ⟨by show 6<7;decide,a,c,Bq.b0,BD.nil,by show 0<=40;decide,λh=>by cases h⟩,A' _⟩
 | start =>
  refine⟨h,rfl,A' _,trivial,λm d=>?_,Jq a _⟩;obtain⟨e,f,rfl⟩:=Jr d;exact⟨by show 6<7;decide,a,f,Bq.b0,BD.nil,by show 0<=40;decide,λh=>by cases h⟩
 | tell e an=>exact⟨h,rfl,A' _,c.2,one ⟨by show 5<7;decide,a,c.1,Bq.b0,BD.nil,by show(p.ae.drop an).length<=40;rw[mJ];omega,λ_=>by show an+(p.ae.drop an).length<=40;rw[mJ];have:=c.2;omega⟩,A' _⟩
theorem Yc(k:i<5)(l:List Pend)(p:Nod)(a:List Let)(h:NOk n p)(c:∀ q∈l,POk p.ae.length q)(z:a.length+At l<90000000)(b:∀ m∈a,LOk m) :
  NOk n (CQ i l p a).1/\(CQ i l p a).1.br=p.br/\(∀ m∈(CQ i l p a).2,LOk m)/\(CQ i l p a).2.length<=a.length+At l/\Gm i l p a:=by
 induction l generalizing p a with
 | nil=>exact⟨h,rfl,b,A' _,trivial⟩
 | cons q l ih =>
  obtain⟨d,e,f,g,j,y⟩:=h.qQ k (c q j');have A:At (q::l)=q.wt+At l:=rfl;obtain⟨t,u,v,w,x⟩:=ih (p.qQ i q) (a++p.pd i q) d (λr s=>(c r (V' _ s)).mono f) (by rw[I'];omega) (λm o=>by
   rcases Z'.1 o with h|h
   .exact b m h
   .exact j m h)
  refine⟨t,u.trans e,v,?_,g,by omega,x⟩;show(CQ i l (p.qQ i q) (a++p.pd i q)).2.length<=_;rw[I']at w;omega
theorem NOk.rH(h:NOk n p):NOk n { p.rH with br:=[] }:=by
 unfold Nod.rH;split
 .exact{ h with pe:=λq a=>by cases a }
 .exact{ h with pe:=λq a=>by cases a }
theorem TC(p:Nod):p.rH.ae=p.ae:=by unfold Nod.rH;split<;>rfl
theorem NOk.nr(h:NOk n p)(d:i<5){ls:List Let}(c:ls.length+At p.br<90000000)(b:∀ m∈ls,LOk m) :
  NOk n (p.nr i ls).1/\(∀ m∈(p.nr i ls).2,LOk m)/\(p.nr i ls).2.length+At (p.nr i ls).1.br<=ls.length+At p.br/\Gm i p.br { p.rH with br:=[] } ls:=by
 have a:=Yc d p.br { p.rH with br:=[] } ls h.rH (λq e=>by show POk p.rH.ae.length q;rw[TC];exact h.pe q e) c b;unfold Nod.nr;split
 .exact⟨h,b,A' _,a.2.2.2.2⟩
 .exact⟨a.1,a.2.2.1,by rw[a.2.1];exact a.2.2.2.1,a.2.2.2.2⟩
theorem X3(b:Bal)(f:Cmd->Option Bal)(l:List Cmd):(Dy b f l).1.length<=l.length:=by
 induction l generalizing f with
 | nil=>exact A' _
 | cons c l ih =>
  rw[Dy];split
  .have:=ih (E6 f c (some b));simp only[mR];omega
  .have:=ih f;simp only[mR];omega
theorem Vo(b:Bal)(f:Cmd->Option Bal)(l:List Cmd)(c:Cmd)(h:((Dy b f l).2 c).isSome=true):(f c).isSome=true\/c∈l:=by
 induction l generalizing f with
 | nil=>exact .inl h
 | cons d l ih =>
  rw[Dy]at h
  split at h
  .rcases ih _ h with h1|h1
   .unfold E6 at h1;split at h1
    .rename_i e;exact .inr (e▸j')
    .exact .inl h1
   .exact .inr (V' _ h1)
  .rcases ih _ h with h1|h1
   .exact .inl h1
   .exact .inr (V' _ h1)
theorem NOk.asks(h:NOk n p):NOk n { p with bu:=(Dy p.vo.p p.bu (p.af.take 40)).2 } :=
 { h with ask:=λc a=>(Vo _ _ _ c a).elim (h.ask c) mY }
theorem NOk.ni(h:NOk n p)(c:i<5):NOk n (p.ni i).1/\(p.ni i).1.br=p.br/\(p.ni i).1.ae=p.ae/\(∀ m∈(p.ni i).2,LOk m)/\(p.ni i).2.length<=1:=by
 have b:(Dy p.vo.p p.bu (p.af.take 40)).1.length<=40:=mI (X3 _ _ _) (by rw[mH];omega);unfold Nod.ni;split
 .exact⟨h.asks,rfl,rfl,λm a=>(by cases a),ng _⟩
 .split
  .have:=h.asks.eN (Dy p.vo.p p.bu (p.af.take 40)).1;exact⟨this.1,this.2.1,this.2.2,λm a=>(by cases a),ng _⟩
  .have hr:=h.vp.sT;refine⟨h.asks,rfl,rfl,λm a=>?_,A' _⟩;rw[U'.1 a];exact⟨by show 6<7;decide,c,by show p.vo.p.n.toNat<5;omega,Bq.b0,BD.nil,b,λh=>by cases h⟩
theorem NOk.dT(h:NOk n p):NOk n p.dT/\At p.dT.br<=At p.br+4/\p.dT.ae=p.ae:=by
 unfold Nod.dT;split
 .exact⟨h,by omega,rfl⟩
 .split
  .exact⟨h,by omega,rfl⟩
  .rename_i c _
   split
   .exact⟨h,by omega,rfl⟩
   .have hv:=h.bW ⟨(p.ae.length:Int),p.bt.fw,c⟩;have a:NOk n { (p.bW ⟨(p.ae.length:Int),p.bt.fw,c⟩).1 with bt:={ p.bt with next:=p.ae.length+1 } }:={ hv.1 with qu:=h.qu,he:=h.he };refine⟨a.wait trivial,?_,hv.2.2.1⟩;show At ((p.bW ⟨(p.ae.length:Int),p.bt.fw,c⟩).1.br++[_])<=_;rw[Fu,hv.2.1];exact A' _
theorem NOk.bw(h:NOk n p)(e:i<5)(a:List Let)(d:∀ m∈a,LOk m):NOk n (p.bw i a).1/\(p.bw i a).1.br=p.br/\(∀ m∈(p.bw i a).2,LOk m)/\(p.bw i a).2.length<=a.length+5:=by
 have g:=h.ag;have f:∀ k,k<=5->∀ m∈ET p i k,LOk m:=by
  intro k;induction k with
  | zero=>exact λ_ m b=>by cases b
  | succ k ih =>
   intro j m b;rw[ET]at b
   rcases Z'.1 b with h1|h1
   .exact ih (by omega) m h1
   .split at h1
    .rename_i c
     have c:=nX c;rw[U'.1 h1];exact⟨by show 5<7;decide,e,by show k<5;omega,Bq.b0,BD.nil,by show(p.ae.drop _).length<=40;rw[mJ];omega,λ_=>by show p.bt.bw k+(p.ae.drop _).length<=40;rw[mJ];omega⟩
    .cases h1
 unfold Nod.bw;split
 .refine⟨{ h with qu:=h.qu,he:=h.he },rfl,λm b=>?_,by show(a++ET p i 5).length<=_;rw[I'];have:=UX p i 5;omega⟩;rcases Z'.1 b with h1|h1
  .exact d m h1
  .exact f 5 (A' _) m h1
 .exact⟨h,rfl,d,qW _ _⟩
theorem NOk.fv(h:NOk n p)(c:Cmd):NOk n (p.fv c)/\(p.fv c).af.length+(if(p.bu c).isSome=true then 1 else 0)<=p.af.length:=by
 unfold Nod.fv;split
 .rename_i h1
  have b:=h.ask c h1;have e:(p.af.erase c).length=p.af.length-1:=List.length_erase_of_mem b;have f:0<p.af.length:=List.length_pos_of_mem b;refine⟨{ h with wa:=?_,ask:=λd a=>?_ },by show(p.af.erase c).length+1<=_;omega⟩
  .show(p.af.erase c).length<=n;have:=h.wa;omega
  .unfold E6 at a;simp only at a;split at a
   .cases a
   .rename_i hne;exact(List.mem_erase_of_ne hne).2 (h.ask d a)
 .exact⟨h,A' _⟩
theorem Gg(p:Nod)(c:Cmd):(p.fv c).up=p.up/\(p.fv c).br=p.br/\(p.fv c).ae=p.ae/\(p.fv c).done=p.done/\(p.fv c).kc=p.kc:=by
 unfold Nod.fv;split<;>exact⟨rfl,rfl,rfl,rfl,rfl⟩
theorem XZ(i:Nat)(l:List Cmd)(p:Nod)(a:List Tol)(h:NOk n p)(j:p.done+l.length<=p.ae.length) :
  NOk n (doP i l p a).1/\(doP i l p a).1.br=p.br/\(doP i l p a).1.ae=p.ae/\(doP i l p a).2.length+(doP i l p a).1.af.length<=a.length+p.af.length:=by
 induction l generalizing p a with
 | nil=>exact⟨h,rfl,rfl,A' _⟩
 | cons c l ih =>
  rw[doP];split
  .exact⟨h,rfl,rfl,A' _⟩
  .rw[mR]at j
   have g:NOk n { p with kc:=doS p.kc c,done:=p.done+1 }:={ h with dn:=by show p.done+1<=p.ae.length;omega };have e:=g.fv c;have b:=Gg { p with kc:=doS p.kc c,done:=p.done+1 } c;obtain⟨k,m,o,q⟩:=ih (Nod.fv { p with kc:=doS p.kc c,done:=p.done+1 } c) (if(p.bu c).isSome=true then a++[⟨i,c.c,c.s,doC p.kc c,doA p.kc c⟩]else a) e.1 (by rw[b.2.2.2.1,b.2.2.1];show p.done+1+l.length<=p.ae.length;omega);refine⟨k,m.trans b.2.1,o.trans b.2.2.1,mI q ?_⟩;have d:=e.2;simp only at d;by_cases f:(p.bu c).isSome=true
   .rw[if_pos f]at d ⊢
    rw[I'];show a.length+1+_<=_;omega
   .rw[if_neg f]at d ⊢;omega
theorem NOk.piece(h:NOk n p)(f:i<5){ls:List Let}{ts:List Tol}(r:ls.length+At p.br<80000000)(k:∀ m∈ls,LOk m) :
  NOk n (p.piece i ls ts).1/\(∀ m∈(p.piece i ls ts).2.1,LOk m)/\(p.piece i ls ts).2.1.length+At (p.piece i ls ts).1.br<=ls.length+At p.br+10/\(p.piece i ls ts).2.2.length+(doP i (p.ae.drop p.done) p ts).1.af.length<=ts.length+p.af.length:=by
 have b:=XZ i (p.ae.drop p.done) p ts h (by rw[mJ];have:=h.dn;omega);have a:=b.1.ni f;have d:=a.1.dT;have e:=d.1.nr f (ls:=ls++((doP i (p.ae.drop p.done) p ts).1.ni i).2) (by rw[I'];have:=d.2.1;have:=a.2.2.2.2;rw[a.2.1,b.2.1]at *;omega) (λm l=>by
  rcases Z'.1 l with h|h
  .exact k m h
  .exact a.2.2.2.1 m h)
 have c:=e.1.bw f _ e.2.1;refine⟨c.1,c.2.2.1,?_,b.2.2.2⟩;have o:=c.2.2.2;have g:=e.2.2.1;have j:=d.2.1;have q:=a.2.2.2.2;rw[a.2.1,b.2.1]at j
 rw[I']at g
 show(Nod.bw _ i _).2.length+At (Nod.bw _ i _).1.br<=_;rw[c.2.1];omega
end
end
section
open Go.RowKit
theorem TW{g:Gh}{w:World}(L:∀ b,w.heap.size<=b->g.t b=.z/\g.k b=0) :
  Calls prog 48 #[] w λe w'=>∃ (b:Nat) (g':Gh),e=.returned (.map (some b))/\TkAt g' w' b 7/\IR g' w'/\Cg w.heap.size [.n 70 0] g w g' w':=by
 refine gI (fn:=f48) [.n 70 0] g func48 L (qR [] 6 [] λW T X c1=>ki 0 (by kernel_rfl) (by kernel_rfl) ?_);intro a U Y M v q V;have F:=q w.heap.size [];refine Hb 1 (b:=a) v (by decide) (by kernel_rfl) (by kernel_rfl) (by kernel_rfl) ?_;intro Z x r;have G:=r w.heap.size [.n 70 0] (U'.2 rfl);refine Hb 2 (b:=a) x (by decide) (by kernel_rfl) (by kernel_rfl) (by kernel_rfl) ?_;intro w6 y s;have H:=s w.heap.size [.n 70 0] (U'.2 rfl);refine Hb 3 (b:=a) y (by decide) (by kernel_rfl) (by kernel_rfl) (by kernel_rfl) ?_;intro w8 A u;have I:=u w.heap.size [.n 70 0] (U'.2 rfl);refine Hb 4 (b:=a) A (by decide) (by kernel_rfl) (by kernel_rfl) (by kernel_rfl) ?_;intro O B d;have l:=d w.heap.size [.n 70 0] (U'.2 rfl);refine Hb 5 (b:=a) B (by decide) (by kernel_rfl) (by kernel_rfl) (by kernel_rfl) ?_;intro P C h;have m:=h w.heap.size [.n 70 0] (U'.2 rfl);refine Hb 6 (b:=a) C (by decide) (by kernel_rfl) (by kernel_rfl) (by kernel_rfl) ?_;intro Q D i;have o:=i w.heap.size [.n 70 0] (U'.2 rfl);refine Hb 7 (b:=a) D (by decide) (by kernel_rfl) (by kernel_rfl) (by kernel_rfl) ?_;intro R E j;have p:=j w.heap.size [.n 70 0] (U'.2 rfl);refine qR [] 3 [] λN J S c=>qE (.map (some a)) λK=>⟨a,_,rfl,(E.ch c),K.new,((((((((((c1.nil [.n 70 0]).n F).trans G).trans H).trans I).trans l).trans m).trans o).trans p).n c)⟩
theorem Lp{g:Gh}{w:World}{p q A:Nat}{v:Nat->Nat}{M:Meet}(h:MS p q A v g w M){w0:World}(hB:Base w0 g w)(hT:Tabs w0)(y:Nat)(l:Let)(hl:Cq g w y l)(I:LOk l){n:Nat}(s:NOk n (M.ao l.dst))(u:(M.ao l.dst).br.length<100000000) :
  Calls prog 96 #[pt p 0,pt y 0] w (MP p q A v g w (.tuple #[]) (M.rz l)):=by
 have m:=hl;obtain⟨P,src,dst,C,bW,i,o,c⟩:=l;have hs:src<5:=I.src;have j:dst<5:=I.dst;have a8:P<7:=I.kd;have b7:c.length<=40:=I.wh;simp only at s u;obtain⟨x,hN⟩:=h.ao dst j;have b6:=s.ag;refine gI (fn:=f96) TM g func96 h.new (BS ⟨p,_,.z,false⟩ (λ_=>⟨h.box.r,h.box.z,λh=>(by cases h),λh=>absurd rfl h⟩) (by kernel_rfl) ?_);obtain⟨vs,wh,a9,d3,d4⟩:=hl;refine BS ⟨y,.cells (Fj (Let.mk P src dst C bW i o c) vs wh) 186,.z,false⟩ (λ_=>⟨a9.r,a9.z,λh=>(by cases h),λh=>absurd rfl h⟩) (by kernel_rfl) ?_;refine qR [] 9 [10,0,2,4,6,8,1,10,12] λs1 g1 w1 c1=>?_;refine PZ 7 (pt p dst) false (λW hW=>(by rcases hZ j with rfl|rfl|rfl|rfl|rfl<;>kernel_rfl)) (by kernel_rfl) ?_;refine qU 8 (pt (v dst) 0) (λW hW=>(BW underlying118 rfl (UG (AO.at (hW rfl) 0 p (.cells (mtA v A q) 121) .z (by kernel_rfl)) j))) (qR [] 7 [18] λs3 g3 w3 a=>?_);have b5:=hN.ch (c1.trans a);refine qN b5 (qR [] 2 [2] λs4 g4 w4 b=>?_);by_cases h1:(M.ao dst).up=true
 .refine qI ((M.ao dst).up) true h1 ?_;have L:=h.tk.ch ((c1.trans a).trans b) (by simp);refine Ii q _ 70 0 L.row L.t L.k (by kernel_rfl) ?_;rw[show M.rz (Let.mk P src dst C bW i o c)=M.set dst ((M.ao dst).take (Let.mk P src dst C bW i o c)) M.bN M.cF from if_pos h1];refine qR [] 9 [11,0,2,4,6,0,8,10,12,14,1] λs5 g5 w5 d=>qU 8 (tkV P) (λW hW=>(rTk (AO.at (hW rfl) 3 q (.map (tkL 7).toArray 7) (.n 70 0) (by kernel_rfl)) a8)) (qR [] 2 [18,20] λs6 J N e=>?_);rcases aE a8 with rfl|rfl|rfl|rfl|rfl|rfl|rfl
  .refine Ad λK=>?_;have N7:MS p q A v J N M:=(h.lp ((((c1.trans a).trans b).trans d).trans e) K.new);refine qG 11 TM [true,true,false,false] ((N7).call j (IF ((N7).ns j) (hB.ch (((((c1.nil TM).n a).n b).n d).n e) EZ) hT y _ (m.ch ((((c1.trans a).trans b).trans d).trans e) (by simp)) rfl u)) ?_;rintro O w7 ⟨g7,rfl,M7,c7⟩;refine⟨_,g7,rfl,c7,M7.new,?_⟩;replace c7:=c7.ret (B:=w.heap.size);refine qR [] 1 [] λs8 g8 w8 c8=>qE (.tuple #[]) λK=>⟨_,rfl,(M7.lp c8 K.new),(((((((c1.nil TM).n a).n b).n d).n e).trans (c7)).n c8)⟩
  .refine Ad λK=>?_;have N9:MS p q A v J N M:=(h.lp ((((c1.trans a).trans b).trans d).trans e) K.new);refine qG 11 TM [true,true,false,false] ((N9).call j (KA ((N9).ns j) (hB.ch (((((c1.nil TM).n a).n b).n d).n e) EZ) hT y _ (m.ch ((((c1.trans a).trans b).trans d).trans e) (by simp)) rfl hs (by show((M.ao dst).ae++c.drop ((M.ao dst).ae.length-0)).length<=40;rw[I',mJ];omega) b7 (qs (s.he src).len (by decide)))) ?_;rintro O w9 ⟨g9,rfl,M9,c9⟩;refine⟨_,g9,rfl,c9,M9.new,?_⟩;replace c9:=c9.ret (B:=w.heap.size);refine qR [] 1 [] λd5 b8 e2 a1=>qE (.tuple #[]) λK=>⟨_,rfl,(M9.lp a1 K.new),(((((((c1.nil TM).n a).n b).n d).n e).trans (c9)).n a1)⟩
  .refine Ad λK=>?_;have V:MS p q A v J N M:=(h.lp ((((c1.trans a).trans b).trans d).trans e) K.new);refine qG 11 TM [true,true,false,false] ((V).call j (KB ((V).ns j) y _ (m.ch ((((c1.trans a).trans b).trans d).trans e) (by simp)))) ?_;rintro O e3 ⟨b0,rfl,Q,D⟩;refine⟨_,b0,rfl,D,Q.new,?_⟩;replace D:=D.ret (B:=w.heap.size);refine qR [] 1 [] λd6 b9 e4 a2=>qE (.tuple #[]) λK=>⟨_,rfl,(Q.lp a2 K.new),(((((((c1.nil TM).n a).n b).n d).n e).trans (D)).n a2)⟩
  .refine Ad λK=>?_;have X:MS p q A v J N M:=(h.lp ((((c1.trans a).trans b).trans d).trans e) K.new);refine qG 11 TM [true,true,false,false] ((X).call j (J6 ((X).ns j) (hB.ch (((((c1.nil TM).n a).n b).n d).n e) EZ) hT y _ (m.ch ((((c1.trans a).trans b).trans d).trans e) (by simp)) rfl u (by have:=s.vs.len;omega))) ?_;rintro O e5 ⟨b1,rfl,R,E⟩;refine⟨_,b1,rfl,E,R.new,?_⟩;replace E:=E.ret (B:=w.heap.size);refine qR [] 1 [] λd7 c0 e6 a3=>qE (.tuple #[]) λK=>⟨_,rfl,(R.lp a3 K.new),(((((((c1.nil TM).n a).n b).n d).n e).trans (E)).n a3)⟩
  .refine Ad λK=>?_;have Y:MS p q A v J N M:=(h.lp ((((c1.trans a).trans b).trans d).trans e) K.new);refine qG 11 TM [true,true,false,false] ((Y).call j (Po ((Y).ns j) (hB.ch (((((c1.nil TM).n a).n b).n d).n e) EZ) hT y _ (m.ch ((((c1.trans a).trans b).trans d).trans e) (by simp)) hs b6)) ?_;rintro O e7 ⟨b2,rfl,S,F⟩;refine⟨_,b2,rfl,F,S.new,?_⟩;replace F:=F.ret (B:=w.heap.size);refine qR [] 1 [] λd8 c2 e8 a4=>qE (.tuple #[]) λK=>⟨_,rfl,(S.lp a4 K.new),(((((((c1.nil TM).n a).n b).n d).n e).trans (F)).n a4)⟩
  .refine Ad λK=>?_;have Z:MS p q A v J N M:=(h.lp ((((c1.trans a).trans b).trans d).trans e) K.new);refine qG 11 TM [true,true,false,false] ((Z).call j (Pn ((Z).ns j) y _ (m.ch ((((c1.trans a).trans b).trans d).trans e) (by simp)) rfl u (by omega) (by show c.length<_;omega))) ?_;rintro O e9 ⟨b3,rfl,T,G⟩;refine⟨_,b3,rfl,G,T.new,?_⟩;replace G:=G.ret (B:=w.heap.size);refine qR [] 1 [] λd9 d0 f0 a5=>qE (.tuple #[]) λK=>⟨_,rfl,(T.lp a5 K.new),(((((((c1.nil TM).n a).n b).n d).n e).trans (G)).n a5)⟩
  .refine Ad λK=>?_;have a0:MS p q A v J N M:=(h.lp ((((c1.trans a).trans b).trans d).trans e) K.new);refine qG 11 TM [true,true,false,false] ((a0).call j (Mp ((a0).ns j) y _ (m.ch ((((c1.trans a).trans b).trans d).trans e) (by simp)) rfl u (by show c.length<_;omega) s.qu)) ?_;rintro O f1 ⟨b4,rfl,U,H⟩;refine⟨_,b4,rfl,H,U.new,?_⟩;replace H:=H.ret (B:=w.heap.size);refine qR [] 1 [] λe0 d1 f2 a6=>qE (.tuple #[]) λK=>⟨_,rfl,(U.lp a6 K.new),(((((((c1.nil TM).n a).n b).n d).n e).trans (H)).n a6)⟩
 .refine qI ((M.ao dst).up) false (by simpa using h1) (qR [] 1 [] λe1 d2 f3 a7=>qE (.tuple #[]) λK=>?_);rw[show M.rz (Let.mk P src dst C bW i o c)=M from if_neg h1];exact⟨_,rfl,(h.lp (((c1.trans a).trans b).trans a7) K.new),((((c1.nil TM).n a).n b).n a7)⟩
theorem sz1{W:World}:(Go.sizeOf (prog.elem 113)).run prog W=.ok 1 W:=by kernel_rfl
theorem unL:prog.underlying 113=some (.slice (prog.elem 113)):=by kernel_rfl
section
variable{fn:Func}{R:Ending->World->Prop}{B:Nat}{T:List Tg}{g:Gh}{w W:World}
section
theorem lx(b n c l h m:Nat)(a:l<=h)(d:h<=m)(e:m<=c)(f:l<m):(Instr.sliceAt 113 (.slice (some ⟨b,0,none⟩) n c) (some (iv (l:Int))) (some (iv (h:Int))) (some (iv (m:Int)))).run prog W=.ok (.slice (some ⟨b,l*1,none⟩) (h-l) (m-l)) W:=by
 rw[run_sliceAt_slice _ _ _ _ _ _ unL,run_slice_lhm (P:=prog) (w:=W) _ _ _ _ unL .i64 .i64 .i64 l h m (by omega) (by omega) (by omega) (by omega),sz1];simp[Result.andThen,sliced,Kr];omega
theorem lw(b n c l h:Nat)(a:l<=h)(d:h<=c)(e:l<c):(Instr.sliceAt 113 (.slice (some ⟨b,0,none⟩) n c) (some (iv (l:Int))) (some (iv (h:Int))) none).run prog W=.ok (.slice (some ⟨b,l*1,none⟩) (h-l) (c-l)) W:=by
 rw[run_sliceAt_slice _ _ _ _ _ _ unL,run_slice_lh (P:=prog) (w:=W) _ _ _ _ unL .i64 .i64 l h (by omega) (by omega) (by omega),sz1];simp[Result.andThen,sliced,Kr];omega
theorem l7(b n c h:Nat)(a:h<=c):(Instr.sliceAt 113 (.slice (some ⟨b,0,none⟩) n c) none (some (iv (h:Int))) none).run prog W=.ok (.slice (some ⟨b,0,none⟩) h c) W:=by
 rw[run_sliceAt_slice _ _ _ _ _ _ unL,run_slice_h (P:=prog) (w:=W) _ _ _ _ unL .i64 h (by omega) (by omega),sz1];simp[Result.andThen,sliced,Kr]
theorem l8(b n c l:Nat)(a:l<=n):(Instr.sliceAt 113 (.slice (some ⟨b,0,none⟩) n c) (some (iv (l:Int))) none none).run prog W=.ok (.slice (some ⟨b,if c=l then 0 else l*1,none⟩) (n-l) (c-l)) W:=by
 rw[run_sliceAt_slice _ _ _ _ _ _ unL,run_slice_l (P:=prog) (w:=W) _ _ _ _ unL .i64 l (by omega) (by omega),sz1];simp[Result.andThen,sliced,Kr];split<;>simp
variable{s:Xs}
theorem io(q:Nat){τ:Tg}{x:S3}{K:List Value}(J:TypeId)(a:Addr)(m c:Nat)(d:List Value)(X:OwnS g w τ false 187 1 x K)(f:Dw s q=some (Builtin.append_ #[113,113] J #[x.v,.slice (some a) m c]>>=λv=>pure (.value v)))(C:(nxt s q undef s.L).o.map Ob.l'=(nxt s q undef s.L).o.map Ob.r')(A:s.L.all (λy=>[τ].all λt=>y.t.ne t)=true)(U:0<x.c)(S:d.length=m*1)(M:∀ u∈d,u.oneCell'=true)(h:∀ j u,d[j]?=some u->w.cell? (a.add j)=some u)(k:x.n+m<=x.c)(Q:∀ w',OwnS g w' τ false 187 1 ⟨x.a,x.n+m,x.c⟩ (K++d)->(∀ B T,τ∈T->Cg B T g w g w')->w'.heap.size=w.heap.size->GG prog fn R B T (nxt s q (S3.v ⟨x.a,x.n+m,x.c⟩) s.L).s g w'):GG prog fn R B T s g w:=by
 refine L5 q s.L C (BO f) λH Y i o D=>?_;obtain⟨e,O,p⟩:∃ e,prog.info? 187=some e/\e.size=1:=by
  have r:(prog.info? 187).map (·.size)=some 1:=by kernel_rfl
  cases hh:prog.info? 187 with
  | none=>rw[hh]at r;cases r
  | some v=>rw[hh]at r;exact⟨v,rfl,by simpa using r⟩
 obtain⟨w',V,E,N,F⟩:=jO (P:=prog) (B:=w.heap.size) (T:=[τ]) 113 J 187 e underlying113 O (U'.2 rfl) (by rw[p];exact X) a m c d U (by rw[p];exact S) h M k;rw[p]at E
 have G:∀ B T,τ∈T->Cg B T g w g w':=λB T A=>(N.ret (B:=B)).mono λt W=>by rw[U'.1 W];exact A
 refine⟨S3.v ⟨x.a,x.n+m,x.c⟩,w',g,.inl ?_,H.ch (G _ [τ] (U'.2 rfl)) (λb I=>H.new b (by rw[F]at I;exact I)) A,Q w' E G F⟩;rw[Dn f D,Sem.run_bind,V,Result.andThen_ok];rfl
theorem jB(w:World):(zeroValue 187).run prog w=.ok (.pointer none) w:=by kernel_rfl
theorem ka(f:Nat){τ:Tg}{x:S3}{F:List Value}(E:TypeId){b:Nat}(m:x.a=some ⟨b,0,none⟩)(k c:Nat)(N:OwnS g w τ false 187 1 x F)(d:Dw s f=some (Builtin.clear_ #[113] E #[.slice (some ⟨b,x.n*1,none⟩) k c]>>=λv=>pure (.value v)))(r:(nxt s f undef s.L).o.map Ob.l'=(nxt s f undef s.L).o.map Ob.r')(p:s.L.all (λy=>[τ].all λt=>y.t.ne t)=true)(q:0<k)(e:x.n+k<=x.c)(J:∀ w',OwnS g w' τ false 187 1 x F->(∀ B T,τ∈T->Cg B T g w g w')->w'.heap.size=w.heap.size->GG prog fn R B T (nxt s f (.tuple #[]) s.L).s g w'):GG prog fn R B T s g w:=by
 refine L5 f s.L r (BO d) λD O i o u=>?_;obtain⟨w',K,G,H,A⟩:=jV (P:=prog) (B:=w.heap.size) (T:=[τ]) 113 E 187 (.pointer none) 1 underlying113 jB rfl (by decide) (λj I=>match j,I with|0,_=>rfl|j+1,h=>absurd h (by omega)) (U'.2 rfl) N m k c q e;have C:∀ B T,τ∈T->Cg B T g w g w':=λB T p=>(H.ret (B:=B)).mono λt M=>by rw[U'.1 M];exact p
 refine⟨.tuple #[],w',g,.inl ?_,D.ch (C _ [τ] (U'.2 rfl)) (λb m=>D.new b (by rw[A]at m;exact m)) p,J w' G C A⟩;rw[Dn d u,Sem.run_bind,K,Result.andThen_ok];rfl
end
end
theorem PO{g:Gh}{w:World}{b n c:Nat}{l:List Nat}(o:OwnS g w (.n 51 0) false 187 1 ⟨some ⟨b,0,none⟩,n,c⟩ (l.map (pt · 0)))(J:∀ b,w.heap.size<=b->g.t b=.z/\g.k b=0)(j:Nat)(Y:j<l.length)(W:l.length<100000000) :
  Calls prog 95 #[.slice (some ⟨b,0,none⟩) n c,iv (j:Int),iv ((j+1:Nat):Int)] w λe w'=>∃ (x':S3) (g':Gh),e=.returned x'.v/\OwnS g' w' (.n 51 0) false 187 1 x' ((l.eraseIdx j).map (pt · 0))/\(∀ b,w'.heap.size<=b->g'.t b=.z/\g'.k b=0)/\Cg w.heap.size [.n 51 0] g w g' w':=by
 have Z:n=l.length:=by have:=o.len;simp at this;omega
 have X:n<=c:=by rcases o.ex with⟨h,_⟩|⟨_,_,_,_,h,_⟩;cases h;exact h
 refine gI (fn:=f95) [.n 51 0] g func95 J (qR [] 11 [] λs1 R w1 c1=>qV 5 (.slice (some ⟨b,j*1,none⟩) (j+1-j) (n-j)) (lx b n c j (j+1) n (by omega) (by omega) (by omega) (by omega)) (qR [] 8 [] λs2 S w2 y=>qI (((j:Int)==((j+1:Nat):Int))) false (by simp;omega) (qR [] 11 [8,0,2] λs3 T w3 A=>qT 2 (.slice (some ⟨b,0,none⟩) j c) (λ_=>(l7 b n c j (by omega))) (qR [] 2 [6,8] λs4 U w4 B=>qT 5 (.slice (some ⟨b,if c=j+1 then 0 else(j+1)*1,none⟩) (n-(j+1)) (c-(j+1))) (λ_=>(l8 b n c (j+1) (by omega))) ?_))));have d:=o.ch (((c1.trans y).trans A).trans B) (by simp) (by simp);have p:=d.sq (k:=j) (by show j<=n;omega) (by show 0<n;omega);refine io 6 (x:=⟨some ⟨b,0,none⟩,j,c⟩) 113 ⟨b,if c=j+1 then 0 else(j+1)*1,none⟩ (n-(j+1)) (c-(j+1)) ((l.drop (j+1)).map (pt · 0)) p (by kernel_rfl) (by kernel_rfl) (by kernel_rfl) (by show 0<c;omega) (by simp;omega) (by intro u L;obtain⟨q,_,rfl⟩:=nG.1 L;rfl) (λq u r=>?_) (by show j+(n-(j+1))<=c;omega) ?_
 .have hlt:j+1<l.length:=by have h:=(Q'.1 r).1;simp at h;omega
  rw[if_neg (by omega),Kr];rw[List.map_drop,nN]at r
  obtain⟨Q,D,_,I⟩:=d.cell r;simp only[P',Addr.mk.injEq,and_true]at D;subst D;rw[show(j+1)*1+q=j+1+q by omega];exact I
 intro w6 s i M;have F:=i w.heap.size [.n 51 0] (U'.2 rfl);rw[show(l.map (pt · 0)).take (j*1)++(l.drop (j+1)).map (pt · 0)=(l.eraseIdx j).map (pt · 0)from by rw[rp,<- qA,<- mS,pS]]at s
 refine qR [] 8 [14] λs7 V w7 C=>qV 4 (.slice (some ⟨b,(j+(n-(j+1)))*1,none⟩) (n-(j+(n-(j+1)))) (c-(j+(n-(j+1))))) (lw b (j+(n-(j+1))) c (j+(n-(j+1))) n (by omega) (by omega) (by omega)) (ka 5 (x:=⟨some ⟨b,0,none⟩,(j+(n-(j+1))),c⟩) (b:=b) 0 rfl (n-(j+(n-(j+1)))) (c-(j+(n-(j+1)))) (s.ch C) (by kernel_rfl) (by kernel_rfl) (by kernel_rfl) (by omega) (by show(j+(n-(j+1)))+(n-(j+(n-(j+1))))<=c;omega) ?_);intro w9 E m N;have G:=m w.heap.size [.n 51 0] (U'.2 rfl);refine qR [] 6 [] λO H P a=>qE (S3.v ⟨some ⟨b,0,none⟩,(j+(n-(j+1))),c⟩) λK=>⟨_,_,rfl,(E.ch a),K.new,((((((((c1.nil [.n 51 0]).n y).n A).n B).trans F).n C).trans G).n a)⟩
end
section
section
variable{M:Meet}{k m n:Nat}{p:Nod}
theorem NOk.mono(h:NOk n p)(a:n<=m):NOk m p:={ h with wa:=mI h.wa a }
theorem NOk.zero(n:Nat):NOk n Dh:=⟨ng _,A' _,ng _,ng _,λc h=>(by cases h),⟨Int.le_refl _,by decide⟩,Bq.b0,BD.nil,λ_=>BD.nil,λq h=>(by cases h)⟩
theorem NOk.bare(n:Nat)(p:Nod)(i:Bool)(d:List Int)(g:Int){a:Acc}(b:Bq a.p)(e:BD a.vs)(l:List Pend)(f:∀ q∈l,POk 0 q):NOk n (p.bare i d g a l):=⟨ng _,A' _,ng _,ng _,λc h=>(by cases h),⟨Int.le_refl _,by show(0:Int)<=65536;decide⟩,b,e,λ_=>BD.nil,f⟩
theorem NOk.pc(h:NOk n p)(k:Int):NOk n (p.pc k)/\At (p.pc k).br<=At p.br/\(p.pc k).af.length<=p.af.length/\(p.pc k).bad=p.bad:=by
 unfold Nod.pc;split
 .exact⟨h,A' _,A' _,rfl⟩
 .exact⟨NOk.bare n p _ _ _ Bq.b0 BD.nil [] (λq a=>(by cases a)),ng _,ng _,rfl⟩
theorem NOk.start(h:NOk n p):NOk n p.start/\At p.start.br<=At p.br+4/\p.start.af.length<=p.af.length/\p.start.bad=p.bad:=by
 have b:=er p.d p.sy;have a:∀ q∈[Pend.start],POk 0 q:=λq a=>by rw[U'.1 a];trivial
 unfold Nod.start;split
 .exact⟨h,qW _ _,A' _,rfl⟩
 .split
  .exact⟨NOk.bare n p _ _ _ b.1 b.2 _ a,by show 4<=_;omega,ng _,rfl⟩
  .exact⟨NOk.bare n p _ _ _ b.1 b.2 _ a,by show 4<=_;omega,ng _,rfl⟩
theorem Fv(p:Nod)(b:Bal):(p.bn b).1.af=p.af/\(p.bn b).1.bad=p.bad/\(p.bn b).1.bu=p.bu/\(p.bn b).1.done=p.done/\(p.bn b).1.cl=p.cl:=by
 unfold Nod.bn;split
 .exact⟨rfl,rfl,rfl,rfl,rfl⟩
 .split
  .exact⟨rfl,rfl,rfl,rfl,rfl⟩
  .split<;>exact⟨rfl,rfl,rfl,rfl,rfl⟩
theorem NOk.lead(h:NOk n p)(i:Nat):NOk n (p.lead i)/\At (p.lead i).br<=At p.br+4/\(p.lead i).af=p.af/\(p.lead i).bad=p.bad:=by
 unfold Nod.lead;simp only;split
 .exact⟨h,qW _ _,rfl,rfl⟩
 .have hp:=h.bn ⟨max p.cl p.vo.p.r+1,(i:Int)⟩;have a:=Fv p ⟨max p.cl p.vo.p.r+1,(i:Int)⟩;have b:NOk n { (p.bn ⟨max p.cl p.vo.p.r+1,(i:Int)⟩).1 with bt:=⟨⟨max p.cl p.vo.p.r+1,(i:Int)⟩,λ_=>false,λ_=>E9,λ_=>p.ae.length,0,[]⟩ }:={ hp.1 with qu:=ng _,he:=λ_=>BD.nil };refine⟨b.wait hp.2.2.2.1,?_,a.1,a.2.1⟩;show At ((p.bn _).1.br++[_])<=_;rw[Fu,hp.2.1];exact A' _
theorem NOk.want(h:NOk n p)(c:Cmd):NOk (n+1) (p.want c)/\(p.want c).af.length<=p.af.length+1/\(p.want c).br=p.br/\(p.want c).bad=p.bad:=by
 unfold Nod.want;split
 .exact⟨h.mono (nU _),nU _,rfl,rfl⟩
 .refine⟨{ h with wa:=?_,ask:=λd a=>?_ },by simp,rfl,rfl⟩
  .have:=h.wa;simp;omega
  .unfold E6 at a;simp only at a ⊢;split at a
   .rename_i e;exact Z'.2 (.inr (U'.2 e))
   .exact Z'.2 (.inl (h.ask d a))
theorem NOk.rO(h:NOk n p)(i:Nat)(e:Int)(c:Cmd)(a:List Tol):NOk (n+1) (p.rF i e c a).1/\(p.rF i e c a).1.br=p.br/\(p.rF i e c a).2.length+(p.rF i e c a).1.af.length<=a.length+p.af.length+1/\(p.rF i e c a).1.bad<=p.bad+1:=by
 have b:=h.mono (nU n);unfold Nod.rF;split
 .exact⟨b,rfl,nU _,nU _⟩
 .split
  .exact⟨{ b with },rfl,nU _,A' _⟩
  .split
   .exact⟨b,rfl,by simp;omega,nU _⟩
   .have:=h.want c;exact⟨this.1,this.2.2.1,by have:=this.2.1;simp only;omega,by rw[this.2.2.2];exact nU _⟩
theorem Ot(p:Nod)(v:Vt):(p.bW v).1.af=p.af/\(p.bW v).1.bad=p.bad:=by
 unfold Nod.bW;split
 .exact⟨rfl,rfl⟩
 .split
  .exact⟨rfl,rfl⟩
  .split<;>exact⟨rfl,rfl⟩
theorem Kb(p:Nod)(a:Nat)(e:Int):(p.fa a e).af=p.af/\(p.fa a e).bad=p.bad:=by unfold Nod.fa;split<;>exact⟨rfl,rfl⟩
theorem Ff(p:Nod)(j:Nat)(v:Vt):(p.count j v).af=p.af/\(p.count j v).bad=p.bad/\(p.count j v).br=p.br:=by
 unfold Nod.count;split
 .exact⟨rfl,rfl,rfl⟩
 .split<;>exact⟨rfl,rfl,rfl⟩
theorem Fi(p:Nod)(l:List Cmd):(p.eN l).af=p.af/\(p.eN l).bad=p.bad:=by unfold Nod.eN;split<;>exact⟨rfl,rfl⟩
theorem Xe(p:Nod)(l:Let):(p.take l).af=p.af/\(p.take l).bad=p.bad:=by
 unfold Nod.take;split
 .split
  .exact Kb _ _ _
  .exact⟨(Fv p l.fw).1,(Fv p l.fw).2.1⟩
 .simp only;split<;>exact⟨rfl,rfl⟩
 .exact⟨rfl,rfl⟩
 .split
  .exact Kb _ _ _
  .exact Ot p l.bW
 .exact⟨(Ff p _ _).1,(Ff p _ _).2.1⟩
 .split<;>exact⟨rfl,rfl⟩
 .simp only;split
  .exact Fi p l.cx
  .exact Fi p l.cx
 .exact⟨rfl,rfl⟩
theorem WI(p:Nod)(i:Nat)(q:Pend):(p.qQ i q).af=p.af/\(p.qQ i q).bad=p.bad:=by
 cases q with
 | began b vs=>unfold Nod.qQ;simp only;split<;>exact⟨rfl,rfl⟩
 | prop v=>exact⟨(Ff p i v).1,(Ff p i v).2.1⟩
 | _=>exact⟨rfl,rfl⟩
theorem RV(i:Nat)(l:List Pend)(p:Nod)(a:List Let):(CQ i l p a).1.af=p.af/\(CQ i l p a).1.bad=p.bad:=by
 induction l generalizing p a with
 | nil=>exact⟨rfl,rfl⟩
 | cons q l ih =>
  have b:=ih (p.qQ i q) (a++p.pd i q);have c:=WI p i q;exact⟨b.1.trans c.1,b.2.trans c.2⟩
theorem cL(i:Nat)(l:List Cmd)(p:Nod)(a:List Tol):(doP i l p a).1.bad=p.bad:=by
 induction l generalizing p a with
 | nil=>rfl
 | cons c l ih =>
  rw[doP];split
  .rfl
  .rw[ih];unfold Nod.fv;split<;>rfl
theorem Tn(p:Nod)(i:Nat)(a:List Let)(b:List Tol):(p.piece i a b).1.af=(doP i (p.ae.drop p.done) p b).1.af/\(p.piece i a b).1.bad=p.bad:=by
 have c:∀ q:Nod,(q.ni i).1.af=q.af/\(q.ni i).1.bad=q.bad:=by
  intro q;unfold Nod.ni;split
  .exact⟨rfl,rfl⟩
  .split
   .exact Fi _ _
   .exact⟨rfl,rfl⟩
 have d:∀ q:Nod,q.dT.af=q.af/\q.dT.bad=q.bad:=by
  intro q;unfold Nod.dT;split
  .exact⟨rfl,rfl⟩
  .split
   .exact⟨rfl,rfl⟩
   .split
    .exact⟨rfl,rfl⟩
    .exact Ot q _
 have e:∀ (q:Nod) (a:List Let),(q.nr i a).1.af=q.af/\(q.nr i a).1.bad=q.bad:=by
  intro q a;unfold Nod.nr;split
  .exact⟨rfl,rfl⟩
  .have:=RV i q.br { q.rH with br:=[] } a;have g:q.rH.af=q.af/\q.rH.bad=q.bad:=by unfold Nod.rH;split<;>exact⟨rfl,rfl⟩
   exact⟨this.1.trans g.1,this.2.trans g.2⟩
 have f:∀ (q:Nod) (a:List Let),(q.bw i a).1.af=q.af/\(q.bw i a).1.bad=q.bad:=by
  intro q a;unfold Nod.bw;split<;>exact⟨rfl,rfl⟩
 have h:=cL i (p.ae.drop p.done) p b;unfold Nod.piece;simp only;rw[(f _ _).1,(e _ _).1,(d _).1,(c _).1,(f _ _).2,(e _ _).2,(d _).2,(c _).2];exact⟨rfl,h⟩
def pw(M:Meet):Nat:=At (M.ao 0).br+At (M.ao 1).br+At (M.ao 2).br+At (M.ao 3).br+At (M.ao 4).br
def ww(M:Meet):Nat:=(M.ao 0).af.length+(M.ao 1).af.length+(M.ao 2).af.length+(M.ao 3).af.length+(M.ao 4).af.length
theorem ZG(M:Meet){i:Nat}(a:i<5)(p:Nod)(b:List Let)(c:List Tol):pw (M.set i p b c)+At (M.ao i).br=pw M+At p.br:=by
 unfold pw Meet.set;rcases hZ a with rfl|rfl|rfl|rfl|rfl<;>simp[upN]<;>omega
theorem bM(M:Meet){i:Nat}(a:i<5)(p:Nod)(b:List Let)(c:List Tol):ww (M.set i p b c)+(M.ao i).af.length=ww M+p.af.length:=by
 unfold ww Meet.set;rcases hZ a with rfl|rfl|rfl|rfl|rfl<;>simp[upN]<;>omega
theorem QK(M:Meet){i:Nat}(a:i<5):At (M.ao i).br<=pw M:=by
 unfold pw;rcases hZ a with rfl|rfl|rfl|rfl|rfl<;>omega
theorem lS(M:Meet){i:Nat}(a:i<5):(M.ao i).af.length<=ww M:=by
 unfold ww;rcases hZ a with rfl|rfl|rfl|rfl|rfl<;>omega
structure MOk(n:Nat)(M:Meet):Prop where
 ao:∀ i,i<5->NOk n (M.ao i)
 bN:∀ l∈M.bN,LOk l
 wt:M.bN.length+pw M<=10*n
 cF:M.cF.length+ww M<=n
 bad:∀ i,i<5->(M.ao i).bad<=n
theorem MOk.zero:MOk 0 D3:=⟨λ_ _=>NOk.zero 0,λl h=>(by cases h),A' _,A' _,λ_ _=>A' _⟩
theorem MOk.mono(h:MOk n M)(b:n<=m):MOk m M:=⟨λi a=>(h.ao i a).mono b,h.bN,by have:=h.wt;omega,by have:=h.cF;omega,λi a=>mI (h.bad i a) b⟩
theorem MOk.set(h:MOk n M){i:Nat}(c:i<5){p:Nod}{a:List Let}{b:List Tol}(e:NOk (n+1) p)(f:∀ l∈a,LOk l)(m:a.length+At p.br<=M.bN.length+At (M.ao i).br+10)(o:b.length+p.af.length<=M.cF.length+(M.ao i).af.length+1)(q:p.bad<=(M.ao i).bad+1):MOk (n+1) (M.set i p a b):=by
 have g:=ZG M c p a b;have k:=bM M c p a b;have:=h.wt;have:=h.cF;refine⟨λj d=>?_,f,by show a.length+_<=_;omega,by show b.length+_<=_;omega,λj d=>?_⟩
 .show NOk (n+1) (upN M.ao i p j);unfold upN;split
  .exact e
  .exact(h.ao j d).mono (nU _)
 .show(upN M.ao i p j).bad<=n+1;unfold upN;split
  .have:=h.bad i c;omega
  .have:=h.bad j d;omega
structure COk(n k:Nat)(M:Meet):Prop where
 ao:∀ i,i<5->NOk n (M.ao i)
 wt:k+M.bN.length+pw M<=10*n
 cF:M.cF.length+ww M<=n
 bad:∀ i,i<5->(M.ao i).bad<=n
 bN:∀ l∈M.bN,LOk l
theorem COk.rz(h:COk n (k+1) M){l:Let}(a:LOk l):COk n k (M.rz l)/\(M.rz l).bN=M.bN:=by
 have i:=h.wt;unfold Meet.rz;split
 .have ht:=(h.ao l.dst a.dst).take a;have c:=Xe (M.ao l.dst) l;have e:=ZG M a.dst ((M.ao l.dst).take l) M.bN M.cF;have d:=bM M a.dst ((M.ao l.dst).take l) M.bN M.cF;have f:pw (M.put l.dst ((M.ao l.dst).take l))=pw (M.set l.dst ((M.ao l.dst).take l) M.bN M.cF):=rfl;have g:ww (M.put l.dst ((M.ao l.dst).take l))=ww (M.set l.dst ((M.ao l.dst).take l) M.bN M.cF):=rfl;have:=h.cF;rw[c.1]at d
  refine⟨⟨λj b=>?_,by show k+M.bN.length+_<=_;have:=ht.2.1;omega,by show M.cF.length+_<=_;omega,λj b=>?_,h.bN⟩,rfl⟩
  .show NOk n (upN M.ao l.dst _ j);unfold upN;split
   .exact ht.1
   .exact h.ao j b
  .show(upN M.ao l.dst _ j).bad<=n;unfold upN;split
   .rw[c.2];exact h.bad _ a.dst
   .exact h.bad j b
 .exact⟨⟨h.ao,by omega,h.cF,h.bad,h.bN⟩,rfl⟩
theorem COk.all(a:List Let){M:Meet}(h:COk n a.length M)(b:∀ l∈a,LOk l):COk n 0 (a.foldl (λM l=>M.rz l) M):=by
 induction a generalizing M with
 | nil=>exact h
 | cons l a ih=>exact ih ((h.rz (b l j')).1) λm c=>b m (V' _ c)
theorem COk.ok(h:COk n k M):MOk n M:=⟨h.ao,h.bN,by have:=h.wt;omega,h.cF,h.bad⟩
theorem MOk.ov(h:MOk n M):MOk n M.ov :=
 (COk.all M.bN (M:={ M with bN:=[] }) ⟨h.ao,by show M.bN.length+0+pw M<=_;exact h.wt,h.cF,h.bad,λl a=>(by cases a)⟩ h.bN).ok
theorem MOk.move(h:MOk n M)(k:Int)(a:Nat):MOk (n+1) (M.move k a):=by
 have i:=h.wt;have b:=h.mono (nU n);unfold Meet.move;split
 .exact b
 .rename_i l hl
  have c:LOk l:=h.bN l (nm hl);have f:∀ m∈M.bN.eraseIdx (a%M.bN.length),LOk m:=λm g=>h.bN m (List.mem_of_mem_eraseIdx g);have e:(M.bN.eraseIdx (a%M.bN.length)).length<=M.bN.length:=List.length_eraseIdx_le _ _;have d:COk (n+1) 1 (if k≠6 then{ M with bN:=M.bN.eraseIdx (a%M.bN.length) }else M):=by
   split
   .exact⟨b.ao,by show 1+(M.bN.eraseIdx _).length+pw M<=_;omega,b.cF,b.bad,f⟩
   .exact⟨b.ao,by omega,b.cF,b.bad,h.bN⟩
  simp only;split
  .exact(d.rz c).1.ok
  .exact d.ok
theorem MOk.act(h:MOk n M)(i:n<=1000000){x:Lac}(g:LacOk x):MOk (n+1) (M.act x):=by
 have a:x.n.toNat<5:=by
  cases hu:Aw x.k with
  | true=>have:=g.n hu;omega
  | false=>have:=g.n0 hu;omega
 have e:=h.ao _ a;have c:=e.mono (nU n);unfold Meet.act;simp only;split
 .have hs:=e.rO x.n.toNat (opE x.d ((M.ao x.n.toNat).done:Int)) (Wm x.d ((M.ao x.n.toNat).done:Int)) M.cF;exact h.set a hs.1 h.bN (by unfold Nod.rO;rw[hs.2.1];omega) (by unfold Nod.rO;omega) (by unfold Nod.rO;omega)
 .split
  .split
   .have hl:=c.lead x.n.toNat;exact h.set a hl.1 h.bN (by omega) (by rw[hl.2.2.1];omega) (by rw[hl.2.2.2];omega)
   .exact h.set a c h.bN (by omega) (by omega) (by omega)
  .split
   .by_cases hu:(M.ao x.n.toNat).up=true
    .rw[if_pos hu,if_pos hu,if_pos hu];have b:=c.piece a (ls:=M.bN) (ts:=M.cF) (by have:=QK M a;have:=h.wt;omega) h.bN;have f:=Tn (M.ao x.n.toNat) x.n.toNat M.bN M.cF;exact h.set a b.1 b.2.1 b.2.2.1 (by rw[f.1];have:=b.2.2.2;omega) (by rw[f.2];omega)
    .rw[if_neg hu,if_neg hu,if_neg hu];exact h.set a c h.bN (by omega) (by omega) (by omega)
   .split
    .exact h.move _ _
    .split
     .exact h.ov.mono (nU _)
     .split
      .split
       .have hc:=c.pc x.p;exact h.set a hc.1 h.bN (by omega) (by omega) (by rw[hc.2.2.2];omega)
       .exact h.set a c h.bN (by omega) (by omega) (by omega)
      .split
       .split
        .exact h.set a c h.bN (by omega) (by omega) (by omega)
        .have hc:=c.start;exact h.set a hc.1 h.bN (by omega) (by omega) (by rw[hc.2.2.2];omega)
       .exact h.mono (nU _)
end
end
section
open Go.RowKit
section
variable{M:Meet}{W w:World}{b j mb n ob tb:Nat}{g:Gh}{l:List Let}{nb:Nat->Nat}{x:S3}
theorem lu{P:Program}{x y:Operand}(a b:Nat)(h:P.underlying 3=some (.int .i64))(f:a<9223372036854775808)(g:0<b)(e:b<9223372036854775808):(do Go.eqGuard .rem 3 x y (iv (a:Int)) (iv (b:Int));Go.binOp .rem 3 (iv (a:Int)) (iv (b:Int)):Sem Value).run P W=.ok (iv ((a%b:Nat):Int)) W:=by
 have d:Int.tmod (a:Int) (b:Int)=((a%b:Nat):Int):=rfl;have c:¬ b=0:=by omega
 simp only[Go.eqGuard,go_sem,Op.intDiv];simp[c,d]
theorem gg{c:Nat}(j:Nat)(a:j<n):(Instr.indexAt 113 (.slice (some ⟨b,0,none⟩) n c) (iv (j:Int))).run prog W=.ok (pt b j) W :=
 MX (P:=prog) (e:=187) (z:=1) underlying113 (by kernel_rfl) (by kernel_rfl) a _ (by omega)
theorem iV(d:x.a=some ⟨b,0,none⟩)(j:Nat)(c:j<x.n):(Instr.indexAt 113 x.v (iv (j:Int))).run prog W=.ok (pt b j) W:=by
 unfold S3.v;rw[d];exact gg j c
theorem FzL.cell{e:List Value}(h:FzL g w x e){b j:Nat}(i:x.a=some ⟨b,0,none⟩){u:Value}(k:e[j]?=some u):w.cell? ⟨b,j,none⟩=some u:=by
 obtain⟨c,d,_,_,f⟩:=h.at_ j u k;rw[i]at d
 simp only[P',Addr.mk.injEq,and_true]at d;subst d;exact f
theorem MS.outs{a:Gh}{b:World}{B:Nat}(h:MS mb tb ob nb g w M)(c:Cg B [.n 50 0,.n 51 0] g w a b){lt e:S3}{d:List Let}(k:OutAt a b ob lt e d M.cF)(j:IR a b):MS mb tb ob nb a b { M with bN:=d } :=
 ⟨h.box.ch c,h.tk.ch c,λi f=>let ⟨x,hx⟩:=h.ao i f;⟨x,hx.ch c (by simp) (λr l=>by simp;omega)⟩,⟨lt,e,k⟩,j⟩
theorem Lets.erase{d:List Nat}(h:Lets g w d l)(j:Nat):Lets g w (d.eraseIdx j) (l.eraseIdx j):=by
 refine⟨by rw[List.length_eraseIdx,List.length_eraseIdx,h.len],λk b m c a=>?_⟩;rw[List.getElem?_eraseIdx]at c a
 split at c
 .rename_i hk;rw[if_pos hk]at a;exact h.at_ _ _ _ c a
 .rename_i hk;rw[if_neg hk]at a;exact h.at_ _ _ _ c a
theorem Yf{c:Let}(h:l[j]?=some c):l.drop j=c::l.drop (j+1):=by
 obtain⟨a,b⟩:=Q'.1 h;rw[<- b];exact nz a
theorem Zg(k:Int)(a:Nat)(h:M.bN.length=0):M.move k a=M:=by
 unfold Meet.move;rw[mG h];rfl
theorem dK{k:Int}{a:Nat}{l:Let}(h:M.bN[a%M.bN.length]?=some l):M.move k a=(if k≠5 then(if k≠6 then{ M with bN:=M.bN.eraseIdx (a%M.bN.length) }else M).rz l else if k≠6 then{ M with bN:=M.bN.eraseIdx (a%M.bN.length) }else M):=by
 unfold Meet.move;rw[h]
theorem LK(h:MS mb tb ob nb g w M){w0:World}(hB:Base w0 g w)(hT:Tabs w0)(k:Int)(a:Nat)(ha:a<=1048576){n:Nat}(hm:MOk n M)(hn:n<=1000000) :
  Calls prog 53 #[pt mb 0,iv k,iv (a:Int)] w (MP mb tb ob nb g w (.tuple #[]) (M.move k a)):=by
 obtain⟨lt,tl,hO⟩:=h.out;obtain⟨bs,hL,o⟩:=hO.bN;have X:lt.n=M.bN.length:=by have:=hL.len;have:=o.len;simp at *;omega
 have b7:=hm.wt;refine gI (fn:=f53) TM g func53 h.new (BS ⟨mb,_,.z,false⟩ (λ_=>⟨h.box.r,h.box.z,λh=>(by cases h),λh=>absurd rfl h⟩) (by kernel_rfl) ?_);refine qO hO (qR [] 18 [0,1] λs1 g1 w1 c1=>?_);by_cases h1:lt.n=0
 .refine qI (((lt.n:Int)==0)) true (by simp;omega) (qE (.tuple #[]) λK=>?_);rw[Zg k a (by omega)];exact⟨_,rfl,(h.lp c1 K.new),(c1.nil TM)⟩
 .refine qI (((lt.n:Int)==0)) false (by simp;omega) ?_;obtain⟨j,hj⟩:∃ j,j=a%M.bN.length:=⟨_,rfl⟩;have H:j<M.bN.length:=by rw[hj];exact Nat.mod_lt _ (by omega)
  obtain⟨l,hl⟩:∃ l,M.bN[j]?=some l:=⟨_,H' H⟩;obtain⟨I,V⟩:∃ I,bs[j]?=some I:=⟨_,H' (by rw[o.len];exact H)⟩;have q:=hm.bN l (nm hl);have U:=o.at_ j I l V hl;obtain⟨b,hb,a7,a6⟩:=hL.cell (j:=j) (u:=pt I 0) (by rw[ny,V];rfl);rw[dK (hj▸hl)];rw[<- hj];obtain⟨la,lq,lc⟩:=lt;simp only at hb X;subst hb;refine qR [] 5 [] λs3 g3 w3 i=>?_;have a8 {x y:Operand}:∀ {W:World},(do Go.eqGuard .rem 3 x y (iv (a:Int)) (iv (lq:Int));Go.binOp .rem 3 (iv (a:Int)) (iv (lq:Int)):Sem Value).run prog W=.ok (iv (j:Int)) W:=λ{W}=>by rw[hj,<- X];exact lu a lq underlying3 (by omega) (by omega) (by omega)
  refine qV 2 (iv (j:Int)) (a8 (x:=(.tmp 19)) (y:=(.tmp 20))) (qR [] 12 [0,1] λs4 g4 w4 m=>qV 8 (pt b j) (gg (b:=b) (n:=lq) (c:=lc) j (by omega)) (qV 9 (pt I 0) (BW underlying187 rfl ((Below.cell (Cg.ab ((c1.trans i).trans m) (λ_ _=>O')) (p:=⟨b,j,none⟩) a7).trans a6)) (qR [] 8 [] λs6 g6 w6 s=>?_)));by_cases Z:k≠6
  .refine qI ((k != 6)) true (by simpa using Z) ?_;have G:k≠6:=by simpa using Z
   rw[if_pos G];refine qR [] 14 [17,0,2,4,6,0,8,10,12,14,0,16,18,20,1,22,24] λs7 g7 w7 J=>qT 13 (iv ((j+1:Nat):Int)) (λ_=>(AZ 46 (j:Int) underlying3 (by omega))) (Ad λK=>qG 14 [.n 51 0] [true,true] (PO (hL.ch ((((c1.trans i).trans m).trans s).trans J) (by simp) (by simp)) K.new j (by rw[o.len];exact H) (by rw[o.len];omega)) ?_);rintro e' w9 ⟨y9,g9,rfl,a9,n9,F⟩;refine⟨_,g9,rfl,F,n9,?_⟩;replace F:=F.ret (B:=w.heap.size);refine qR [.n 50 0] 9 [30,32,35,1,1] λb8 T Y d=>Ad λK=>?_;have C9:Cg w.heap.size [.n 50 0,.n 51 0] g w T Y:=(((((((c1.nil [.n 50 0,.n 51 0]).n i).n m).n s).n J).trans (F.mono (by simp))).trans (d.mono (by simp)));obtain⟨o1,o2,o3⟩:=K.rI 1 ob (.cells #[S3.v y9,S3.v tl] 115) 50 0 (by kernel_rfl);have O:MS mb tb ob nb T Y { M with bN:=M.bN.eraseIdx j }:=h.outs C9 ⟨o1,o2,o3,⟨bs.eraseIdx j,(a9.ch d),(o.erase j).ch C9⟩,hO.cF.ch C9⟩ K.new;by_cases E:k≠5
   .refine qI ((k != 5)) true (by simpa using E) ?_;rw[if_pos (show k≠5 from by simpa using E)];refine qR [] 3 [] λb9 a2 b0 t=>Ad λK=>?_;have a0:MS mb tb ob nb a2 b0 ({ M with bN:=M.bN.eraseIdx j }):=(O.lp t K.new);refine qG 2 TM [true,false] (Lp a0 (hB.ch ((((((((c1.nil TM).n i).n m).n s).n J).trans (F.mono (by simp[TM,TN]))).trans (d.mono (by simp[TM,TN]))).n t) EZ) hT I l (U.ch ((((((((c1.nil TM).n i).n m).n s).n J).trans (F.mono (by simp[TM,TN]))).trans (d.mono (by simp[TM,TN]))).n t) EZ) q (hm.ao l.dst q.dst) (by have:=DH (M.ao l.dst).br;have:=QK M q.dst;show(M.ao l.dst).br.length<_;omega)) ?_;rintro e' d2 ⟨a3,rfl,L,A⟩;refine⟨_,a3,rfl,A,L.new,?_⟩;replace A:=A.ret (B:=w.heap.size);refine qR [] 1 [] λc0 b2 d3 P=>qE (.tuple #[]) λK=>⟨_,rfl,(L.lp P K.new),((((((((((c1.nil TM).n i).n m).n s).n J).trans (F.mono (by simp[TM,TN]))).trans (d.mono (by simp[TM,TN]))).n t).trans (A)).n P)⟩
   .refine qI ((k != 5)) false (by simpa using E) (qR [] 1 [] λc2 b3 d4 Q=>?_);rw[if_neg (show ¬ k≠5 from by simpa using E)];refine qE (.tuple #[]) λK=>⟨_,rfl,(O.lp Q K.new),((((((((c1.nil TM).n i).n m).n s).n J).trans (F.mono (by simp[TM,TN]))).trans (d.mono (by simp[TM,TN]))).n Q)⟩
  .refine qI ((k != 6)) false (by simpa using Z) ?_;have G:¬ k≠6:=by simpa using Z
   rw[if_neg G];refine qR [] 6 [] λc5 b4 d5 e=>?_;by_cases E:k≠5
   .refine qI ((k != 5)) true (by simpa using E) ?_;rw[if_pos (show k≠5 from by simpa using E)];refine qR [] 3 [] λc8 a4 b1 C=>Ad λK=>?_;have a1:MS mb tb ob nb a4 b1 M:=(h.lp (((((c1.trans i).trans m).trans s).trans e).trans C) K.new);refine qG 2 TM [true,false] (Lp a1 (hB.ch ((((((c1.nil TM).n i).n m).n s).n e).n C) EZ) hT I l (U.ch ((((((c1.nil TM).n i).n m).n s).n e).n C) EZ) q (hm.ao l.dst q.dst) (by have:=DH (M.ao l.dst).br;have:=QK M q.dst;show(M.ao l.dst).br.length<_;omega)) ?_;rintro e' d6 ⟨a5,rfl,N,D⟩;refine⟨_,a5,rfl,D,N.new,?_⟩;replace D:=D.ret (B:=w.heap.size);refine qR [] 1 [] λd0 b5 d7 R=>qE (.tuple #[]) λK=>⟨_,rfl,(N.lp R K.new),((((((((c1.nil TM).n i).n m).n s).n e).n C).trans (D)).n R)⟩
   .refine qI ((k != 5)) false (by simpa using E) (qR [] 1 [] λd1 b6 d8 S=>?_);rw[if_neg (show ¬ k≠5 from by simpa using E)];refine qE (.tuple #[]) λK=>⟨_,rfl,(h.lp (((((c1.trans i).trans m).trans s).trans e).trans S) K.new),((((((c1.nil TM).n i).n m).n s).n e).n S)⟩
theorem PJ(h:MS mb tb ob nb g w M){W:World}(hB:Base W g w)(hT:Tabs W){n:Nat}(u:MOk n M)(hn:n<=1000000) :
  Calls prog 54 #[pt mb 0] w (MP mb tb ob nb g w (.tuple #[]) M.ov):=by
 obtain⟨lt,tl,I⟩:=h.out;obtain⟨y,U,i⟩:=I.bN;have a1:lt.n=M.bN.length:=by have:=U.len;have:=i.len;simp at *;omega
 have P:=u.wt;refine gI (fn:=f54) TM g func54 h.new (BS ⟨mb,_,.z,false⟩ (λ_=>⟨h.box.r,h.box.z,λh=>(by cases h),λh=>absurd rfl h⟩) (by kernel_rfl) ?_);refine qO I (mn U (by kernel_rfl) λgF Y hF=>qR [.n 50 0] 28 [0,1,0,1,1] λs1 Z w1 c1=>Ad λG=>BJ 28 [(0,pt mb 0),(18,S3.v lt),(19,iv (lt.n:Int)),(20,iv 0)] [true,false] [⟨mb,.cells (mtA nb ob tb) 121,.z,false⟩] (λk E F e L=>∃ (j:Nat) (A:Meet),k=M.bN.length-j/\j<=M.bN.length/\e=[(0,pt mb 0),(18,S3.v lt),(19,iv (lt.n:Int)),(20,iv (j:Int))]/\L=[⟨mb,.cells (mtA nb ob tb) 121,.z,false⟩]/\MS mb tb ob nb E F A/\(M.bN.drop j).foldl (λM l=>M.rz l) A=M.ov/\COk n (M.bN.length-j) A/\FzL E F lt (y.map (pt · 0))/\Lets E F y M.bN/\Cg w.heap.size TM g w E F) (by kernel_rfl) (by kernel_rfl) (by kernel_rfl) (by kernel_rfl) M.bN.length (λK=>?_) ?_)
 .have C9:Cg w.heap.size [.n 50 0,.n 51 0] g w Z w1:=((Y.mono (by simp)).trans (c1.mono (by simp)));obtain⟨o1,o2,o3⟩:=G.rI 1 ob (.cells #[S3.v s30,S3.v tl] 115) 50 0 (by kernel_rfl);exact⟨0,{ M with bN:=[] },rfl,ng _,rfl,rfl,h.outs C9 ⟨o1,o2,o3,⟨[],OwnS.nil _ _ _ _ _ _,⟨rfl,λk b m h=>(by cases h)⟩⟩,I.cF.ch C9⟩ K.new,rfl,⟨u.ao,by show M.bN.length+0+pw M<=_;exact P,u.cF,u.bad,λl s=>(by cases s)⟩,(hF.fz.ch c1),i.ch C9,C9.mono (by simp[TM,TN])⟩
 .rintro k gr wr _ zr _ ⟨j,A,rfl,hj,rfl,rfl,hM,hI,hA,hFz,hLt,hC⟩ J hJ;have a0:=hFz.n;refine qR [] 5 [] λs2 g2 w2 a=>?_;by_cases T:j<M.bN.length
  .refine qI ((decide ((j:Int)<(lt.n:Int)))) true (N' (by omega)) ?_;obtain⟨l,s⟩:∃ l,M.bN[j]?=some l:=⟨_,H' T⟩;obtain⟨o,t⟩:∃ o,y[j]?=some o:=⟨_,H' (by rw[i.len];exact T)⟩;have c:=u.bN l (nm s);have H:=hLt.at_ j o l t s;have x:(y.map (pt · 0))[j]?=some (pt o 0):=by rw[ny,t];rfl
   obtain⟨b,V,_⟩:=hFz.at_ j (pt o 0) x;obtain⟨Q,O⟩:∃ Q,M.bN.length-j=Q+1:=⟨M.bN.length-j-1,by omega⟩;rw[O]at hA
   have N:=hA.rz c;rw[Yf s,List.foldl_cons]at hI
   refine qR [] 5 [] λs3 g3 w3 d=>qV 0 (pt b j) (iV V j (by omega)) (qV 1 (pt o 0) (BW underlying187 rfl (((hFz.ch a).ch d).cell V x)) (qR [] 5 [] λs5 g5 w5 p=>Ad λK=>?_));have X:MS mb tb ob nb g5 w5 A:=(hM.lp ((a.trans d).trans p) K.new);refine qG 2 TM [true] (Lp X (hB.ch ((((hC.n a).n d).n p)) EZ) hT o l (H.ch (((a.nil TM).n d).n p) EZ) c (hA.ao l.dst c.dst) (by have:=hA.wt;have:=DH (A.ao l.dst).br;have:=QK A c.dst;omega)) ?_;rintro e' w6 ⟨g6,rfl,R,q⟩;refine⟨_,g6,rfl,q,R.new,?_⟩;replace q:=q.ret (B:=w.heap.size);refine qR [] 3 [] λs7 g7 w7 C=>qV 0 (iv ((j:Int)+1)) (AZ 20 (j:Int) underlying3 (by omega)) (qR [] 2 [] λs8 g8 w8 D=>qB [true] λz G K=>hJ (M.bN.length-(j+1)) _ _ _ z _ (by omega) ⟨j+1,A.rz l,rfl,by omega,rfl,rfl,(R.lp (C.trans D) G.new),hI,(by rw[show M.bN.length-(j+1)=Q by omega];exact N.1),((((((hFz.ch a).ch d).ch p).ch q).ch C).ch D),hLt.ch ((((((a.nil TM).n d).n p).trans (q)).n C).n D) EZ,((((((hC.n a).n d).n p).trans q).n C).n D)⟩ K)
  .refine qI ((decide ((j:Int)<(lt.n:Int)))) false (G' (by omega)) (qR [] 1 [] λs9 g9 w9 S=>?_);obtain rfl:j=M.bN.length:=by omega
   rw[oH]at hI
   rw[<- hI];refine qE (.tuple #[]) λK=>⟨_,rfl,(hM.lp (a.trans S) K.new),((hC.n a).n S)⟩
end
end
end Go.Proofs.YtdjfdfpkkenjbabGreatDoor
