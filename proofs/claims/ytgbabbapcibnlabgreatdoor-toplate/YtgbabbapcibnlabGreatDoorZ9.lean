/- Part 9 of the walk. -/
import Derived.Test.YtgbabbapcibnlabGreatDoorZ8
set_option maxRecDepth 100000
set_option maxHeartbeats 4000000
open Go.Proofs.Tryz
set_option linter.unusedVariables false
namespace Go.Proofs.YtgbabbapcibnlabGreatDoor
section
open Go.RowKit
section
variable{key l:List Int}
theorem Sl.rP{w:World}{a:Option Addr}{n c:Nat}(h:Sl w (.slice a n c) l)(b:Nat)(d:b+4<=l.length)(m k:Int)(g:m=(b:Int))(f:k=(b:Int)+4) :
  ∃ a' c',(∀ W,(Instr.slice 24 (.slice a n c) (some (.int .i64 m)) (some (.int .i64 k)) none).run prog W=.ok (.slice a' 4 c') W)/\Sl w (.slice a' 4 c') ((l.take (b+4)).drop b):=by
 subst g;subst f;have i:=h.qX b (b+4) (by omega) d;obtain⟨⟨a',j,e,s,t,r⟩,q,p⟩:=h;simp only[Value.slice.injEq]at e;obtain⟨rfl,rfl,rfl⟩:=e;have o:b+4-b=4:=by omega
 unfold sliced at i;rw[o]at i
 refine⟨_,_,λW=>?_,i⟩;rw[run_slice_lh (P:=prog) W 24 a _ c underlying24 .i64 .i64 _ _ (by omega) (by omega) (by omega)];have e:prog.elem 24=5:=by kernel_rfl
 rw[e,FJ,show((b:Int)+4).toNat=b+4 by omega,mW];simp[Result.andThen,sliced]
theorem Qz(x b:Int)(f:0<=x/\x<36028797018963968)(d:0<=b/\b<256):bits .or .i64 (x*256) b=x*256+b:=by
 obtain⟨x,rfl⟩:=mO f.1;obtain⟨y,rfl⟩:=mO d.1;have e:(x:Int)*256=((x*256:Nat):Int):=by omega
 have key:(BitVec.ofInt 64 ((x*256:Nat):Int) ||| BitVec.ofInt 64 (y:Int)).toNat=x*256+y:=by
  rw[qd,pc,pc];have a:((y:Int)%((2^64:Nat):Int)).toNat=y:=by omega
  have c:(((x*256:Nat):Int)%((2^64:Nat):Int)).toNat=2^8*x:=by omega
  rw[a,c,<- oL (by omega:y<2^8)];omega
 rw[e];show IntKind.i64.wrap ((BitVec.ofInt 64 ((x*256:Nat):Int) ||| BitVec.ofInt 64 (y:Int)).toNat:Nat)=_;rw[key,IntKind.wrap_i64];omega
def Df(h:List Int):Nat->Int
 | 0=>0
 | k+1=>Df h k*256+h.getD k 0
theorem JK{h:List Int}(a:∀ x∈h,0<=x/\x<256)(k:Nat):0<=Df h k/\Df h k<256^k:=by
 induction k with
 | zero=>simp[Df]
 | succ k ih =>
  have:=Al a k;rw[Df,pz];omega
theorem LA(l:List Int)(a:Nat)(h:a+4<=l.length):Df ((l.take (a+4)).drop a) 4=Ac l a:=by
 show(((0*256+((l.take (a+4)).drop a).getD 0 0)*256+((l.take (a+4)).drop a).getD 1 0)*256+((l.take (a+4)).drop a).getD 2 0)*256+((l.take (a+4)).drop a).getD 3 0=_;rw[Dn,Dn,Dn,Dn,B9 _ _ _ (by omega),B9 _ _ _ (by omega),B9 _ _ _ (by omega),B9 _ _ _ (by omega)];unfold Ac;rw[ol];omega
theorem I5(v:Value)(l:List Int)(b:Nat)(w:World)(h:Sl w v l)(o:b+4<=l.length)(f:Int)(g:f=(b:Int)) :
  Calls prog 162 #[v,.int .i64 f] w λe w'=>e=.returned (.int .i64 (Ac l b))/\w'=w:=by
 have s:Hid (Df ((l.take (b+4)).drop b) 4=Ac l b):=LA l b o;have d:=h.len;have H:0<=f:=by omega
 have I:f<=140737488351232:=by omega
 obtain⟨a,c,rfl⟩:=h.shape;obtain⟨D,F,y,k⟩:=h.rP b o f (f+4) g (by omega);have m:Hid (∀ x∈(l.take (b+4)).drop b,0<=x/\x<256):=k.byte;have t:Hid (((l.take (b+4)).drop b).length=4):=by unfold Hid;rw[mm,X'];omega
 generalize (l.take (b+4)).drop b=L at s k m t;generalize l.length=N at y d ⊢;clear h o g d;go_enter func162,ntmps162
 go_wp2_with fail
 go_loopw [5,14] (λv iv wr=>∃ j:Nat,j<=4/\iv=.int .i64 (j:Int)/\v=.int .i64 (Df L j)/\wr=w) (λ_ iv _=>(4-intOf iv).toNat)
 case atStart=>exact⟨0,by omega,rfl,rfl,rfl⟩
 case round =>
  obtain⟨j,G,rfl,rfl,rfl⟩:=hrel;by_cases C:j<4
  .have hii:(j:Int)<4:=by omega
   have p:=JK m.out j;have r:Df L j<16777216:=by
    have:(256:Int)^j<=256^3:=by
     rcases(by omega:j=0\/j=1\/j=2\/j=3)with rfl|rfl|rfl|rfl<;>decide
    omega
   have u:=Al m.out j;obtain⟨E,od,rfl,z,A⟩:=k.rk j (by have:=t.out;omega);have i:=Qz (Df L j) (L.getD j 0) ⟨p.1,by omega⟩ u;have n:Hid (Df L j*256+L.getD j 0=Df L (j+1)):=rfl;have q:=p.1;clear p k y;generalize Df L j=X at q r i n;generalize L.getD j 0=B at u A i n;go_wp2
   go_roundw
   case rel=>exact⟨j+1,by omega,by go_num,by rw[<- n.out],trivial⟩
   case measure=>simp[intOf];omega
  .obtain rfl:j=4:=by omega
   rw[show((4:Nat):Int)=4 from rfl,s.out];go_wp2
   go_ret;exact⟨rfl,rfl⟩
def RI(l:List Int)(j:Nat):List Int:=(List.range 5).map λi=>if i<j then Ac l (4*i)else 0
def rowOf(m:List Int):Array Value:=(m.map (Value.int .i64)).toArray
theorem XD(l:List Int)(j:Nat)(a:j<5):(rowOf (RI l j)).setIfInBounds j (.int .i64 (Ac l (4*j)))=rowOf (RI l (j+1)):=by
 rcases(by omega:j=0\/j=1\/j=2\/j=3\/j=4)with rfl|rfl|rfl|rfl|rfl
 all_goals rfl
theorem Lb(v:Value)(l:List Int)(w:World)(h:Sl w v l)(ht:NTab w) :
  Calls prog 128 #[v] w λe w'=>e=.returned (.tuple #[.agg (Kh l),.int .i64 (Cr l)])/\Bw w w':=by
 have G:=h.len;obtain⟨a,cp,rfl⟩:=h.shape;by_cases E:l.length=20
 .have i:Hid (Cr l=Bm (Ac l 0) (Ac l 4) (Ac l 8) (Ac l 12) (Ac l 16)):=if_neg (λg=>g E);have Z:=h;have HL:Hid (l.length=20):=E;rw[E]at Z ⊢
  clear h E G;have b0:Bw w (w.alloc (.cells (cmA 0 0 0 0 0) 49)):=(Below.refl _ _).alloc (A' _) _;have z0:(w.alloc (.cells (cmA 0 0 0 0 0) 49)).heap.size=w.heap.size+1:=by simp
  have B:=heap_alloc_new w (.cells (cmA 0 0 0 0 0) 49);have N:Below (w.heap.size+1) (w.alloc (.cells (cmA 0 0 0 0 0) 49)) ((w.alloc (.cells (cmA 0 0 0 0 0) 49)).alloc (.cells (cmA 0 0 0 0 0) 49)):=(Below.refl _ _).alloc (by omega) _;have C:=heap_alloc_new (w.alloc (.cells (cmA 0 0 0 0 0) 49)) (.cells (cmA 0 0 0 0 0) 49);rw[z0]at C
  replace B:=(N.block w.heap.size (by omega)).trans B;have J:=b0.trans (N.mono (nf _));have z1:((w.alloc (.cells (cmA 0 0 0 0 0) 49)).alloc (.cells (cmA 0 0 0 0 0) 49)).heap.size=w.heap.size+1+1:=by simp
  have Y:(w.alloc (.cells zV5 49)).alloc (.cells zV5 49)=(w.alloc (.cells (cmA 0 0 0 0 0) 49)).alloc (.cells (cmA 0 0 0 0 0) 49):=rfl;clear b0 N z0;generalize (w.alloc (.cells (cmA 0 0 0 0 0) 49)).alloc (.cells (cmA 0 0 0 0 0) 49)=W at B C J z1 Y;go_enter func128,ntmps128
  go_wp2_with fail
  clear Y;refine(Hg (w.heap.size+1) W).mono ?_;rintro e w2 ⟨rfl,H⟩;replace B:=(H.block w.heap.size (by omega)).trans B;replace C:=(H.block (w.heap.size+1) (by omega)).trans C;have d2:=J.trans (H.mono J.size);have o:Hid _:=B;have q:Hid (w2.heap[w.heap.size+1]?=some (.cells (rowOf (RI l 0)) 49)):=C;clear B C H J z1;have y:=Q8 (w.heap.size+1);go_wp2_with fail
  go_loopw [13] (λiv wr=>∃ j:Nat,j<=5/\iv=.int .i64 (j:Int)/\wr.heap[w.heap.size]?=some (.cells (cmA 0 0 0 0 0) 49)/\wr.heap[w.heap.size+1]?=some (.cells (rowOf (RI l j)) 49)/\Bw w wr) (λiv _=>(5-intOf iv).toNat)
  case atStart=>exact⟨0,by omega,rfl,o.out,q.out,d2⟩
  case round =>
   obtain⟨j,hj,rfl,r,m,d⟩:=hrel;clear o q;by_cases z:j<5
   .have hji:(j:Int)<5:=by omega
    have a1:=y j z;have u:∃ x,wr.cell? ⟨w.heap.size+1,j,none⟩=some (.int .i64 x):=⟨(RI l j).getD j 0,(cell_of_row _ _ j _ _ _ m).trans (by simp[rowOf,RI,z])⟩;obtain⟨x,hx⟩:=u;have a0:=frozen_of_row wr _ j _ _ m;have o:Hid _:=r;have q:Hid _:=m;have R:=XD l j z;clear y r m;go_wp2_with fail
    refine(I5 (.slice a 20 cp) l (4*j) wr (Z.af d) (by rw[HL.out];omega) _ (by omega)).mono ?_;rintro e Q ⟨rfl,rfl⟩;have A:(Q.setCell ⟨w.heap.size+1,j,none⟩ (.int .i64 (Ac l (4*j)))).heap[w.heap.size]?=some (.cells (cmA 0 0 0 0 0) 49):=(heap_setCell_other _ _ _ _ (by simp)).trans o.out;have M:(Q.setCell ⟨w.heap.size+1,j,none⟩ (.int .i64 (Ac l (4*j)))).heap[w.heap.size+1]?=some (.cells (rowOf (RI l (j+1))) 49):=by
     rw[heap_setCell_same _ _ _ _ _ _ q.out,R]
    have q2:Bw w (Q.setCell ⟨w.heap.size+1,j,none⟩ (.int .i64 (Ac l (4*j)))):=d.setCell (p:=⟨w.heap.size+1,j,none⟩) (nf _) _;have S:Hid _:=A;have T:Hid _:=M;clear R A M o q;generalize Ac l (4*j)=X at S T q2 ⊢;go_wp2
    go_roundw
    case rel=>exact⟨j+1,by omega,by go_num,S.out,T.out,q2⟩
    case measure=>simp[intOf];omega
   .obtain rfl:j=5:=by omega
    rw[show((5:Nat):Int)=5 from rfl];have b:wr.heap[w.heap.size+1]?=some (.cells (cmA (Ac l 0) (Ac l 4) (Ac l 8) (Ac l 12) (Ac l 16)) 49):=m;clear m y;have f:Hid (Cr l=0->Kh l=cmA (Ac l 0) (Ac l 4) (Ac l 8) (Ac l 12) (Ac l 16)):=λh=>if_pos h;have t:Hid (¬ Cr l=0->Kh l=cmA 0 0 0 0 0):=λh=>if_neg h;have V:=ht.af d;generalize Ac l 0=k at i f b;generalize Ac l 4=c at i f b;generalize Ac l 8=s at i f b;generalize Ac l 12=n at i f b;generalize Ac l 16=v at i f b;have L:=GF k c s n v;have F:=GF 0 0 0 0 0;have O:=(U'.1 b).1;go_wp2_with (refine wpList_load_row rfl 49 _ rfl (w.heap.size+1) rfl 49 _ (0,0) _ b underlying49 rfl L ?_)
    refine(El k c s n v wr V).mono ?_;rintro e w6 ⟨rfl,I⟩;have U:=d.trans (I.mono d.size);have A:=(I.block w.heap.size (by omega)).trans r;have M:=(I.block (w.heap.size+1) O).trans b;clear r b I V d;by_cases K:Bm k c s n v=0
    .have HZ:Hid (Cr l=0):=i.out.trans K;have D:Hid (Kh l=cmA k c s n v):=f.out HZ.out;rw[K];clear K i f t;go_wp2_with (first|(refine wpList_load_row rfl 49 _ rfl (w.heap.size+1) rfl 49 _ (0,0) _ M underlying49 rfl L ?_)|(refine wpList_store_row rfl 49 (.tmp 2) (.tmp 30) rfl w.heap.size (cmA k c s n v) rfl rfl 49 _ A L rfl (TG k c s n v) ?_))
     have P:=setRow_heap w6 w.heap.size _ (cmA k c s n v) 49 _ A;refine bodyPost_ret (JL rfl _ _ w.heap.size 49 _ (0,0) _ rfl P underlying49 rfl L) rfl ?_;rw[HZ.out,D.out];exact⟨rfl,Cv U (A' _) _⟩
    .have HZ:Hid (Cr l=Bm k c s n v):=i.out;have D:Hid (Kh l=cmA 0 0 0 0 0):=t.out (by rw[i.out];exact K);clear i f t;go_wp2_with (refine wpList_store_row rfl 49 (.tmp 2) (.tmp 28) rfl w.heap.size (cmA 0 0 0 0 0) rfl rfl 49 _ A F rfl (TG 0 0 0 0 0) ?_)
     have P:=setRow_heap w6 w.heap.size _ (cmA 0 0 0 0 0) 49 _ A;refine bodyPost_ret (JL rfl _ _ w.heap.size 49 _ (0,0) _ rfl P underlying49 rfl F) rfl ?_;rw[HZ.out,D.out];exact⟨rfl,Cv U (A' _) _⟩
 .have h1':¬ (l.length:Int)=20:=by omega
  have i:Hid (Cr l=1):=if_pos E;have D:Hid (Kh l=cmA 0 0 0 0 0):=if_neg (by rw[i.out];omega);have bb:Bw w (w.alloc (.cells (cmA 0 0 0 0 0) 49)):=(Below.refl _ _).alloc (A' _) _;have bc:=Bc.made w 0 0 0 0 0;go_enter func128,ntmps128
  go_wp2
  refine bodyPost_ret (JL rfl _ _ w.heap.size 49 _ (0,0) _ rfl (heap_alloc_new _ _) underlying49 rfl (GF 0 0 0 0 0)) rfl ?_;rw[i.out,D.out];exact⟨rfl,bb⟩
theorem IL(c r u:Int):(tkA c r u).all (·.oneCell')=true:=by simp[tkA,Value.oneCell']
theorem Rf(v:Value)(l:List Int)(w:World)(h:Sl w v l)(x:6<=l.length) :
  Calls prog 161 #[v] w λe w'=>e=.returned (.agg (tkA (l.getD 0 0) (l.getD 1 0) (Ac l 2)))/\Bw w w':=by
 have d:=h.len;obtain⟨a,t,rfl⟩:=h.shape;have i:Bw w (w.alloc (.cells (tkA 0 0 0) 59)):=(Below.refl _ _).alloc (A' _) _;have j:=heap_alloc_new w (.cells (tkA 0 0 0) 59);have f:=h.af i;have o:w.alloc (.cells #[.int .i64 0,.int .i64 0,.int .i64 0] 59)=w.alloc (.cells (tkA 0 0 0) 59):=rfl;generalize w.alloc (.cells (tkA 0 0 0) 59)=W0 at i j f o;obtain⟨r,od,rfl,u,k⟩:=f.rk 0 (by omega);obtain⟨s,A,m,_,q⟩:=f.rk 1 (by omega);simp only[Y',Addr.mk.injEq,and_true]at m;obtain⟨rfl,rfl⟩:=m;rw[ol]at k
 have C:=Al h.byte 0;have D:=Al h.byte 1;have y:(0:Int)<(l.length:Int):=by omega
 have z:(1:Int)<(l.length:Int):=by omega
 have n:Calls prog 162 #[.slice (some ⟨r,od,none⟩) l.length t,.int .i64 2] W0.drew λe w'=>e=.returned (.int .i64 (Ac l 2))/\w'=W0.drew :=
  I5 _ l 2 _ (f.af (Below.refl _ _).drew) (by omega) 2 rfl
 have g:Hid _:=n;clear n;generalize l.getD 0 0=b0 at k C;generalize l.getD 1 0=b1 at q D;generalize Ac l 2=b2 at g;generalize l.length=N at d x y z g ⊢;clear h f;have p:=IM b0 b1 b2;go_enter func161,ntmps161
 go_wp2_with fail
 refine Au 11 (by kernel_rfl) (by kernel_rfl) ?_;simp only[nk,nw,ny,nU]
 repeat (go_big_quiet_step (fail))
 go_big_quiet_want
 go_big_quiet_op
 refine⟨_,g.out,?_⟩
 go_big_quiet_on
 repeat (go_big_quiet_step (fail))
 refine wpQuiet_nil ?_;clear o;have b:W0.drew.heap[w.heap.size]?=some (.cells (tkA 0 0 0) 59):=j;have c:Bw w W0.drew:=i.drew;clear j i k q g;generalize W0.drew=W at b c ⊢;go_wp2_with (refine wpList_store_row rfl 59 (.tmp 2) (.tmp 13) rfl w.heap.size (tkA b0 b1 b2) rfl rfl 59 _ b p rfl (IL b0 b1 b2) ?_)
 have B:=setRow_heap W w.heap.size _ (tkA b0 b1 b2) 59 _ b;exact bodyPost_ret (v:=.agg (tkA b0 b1 b2)) (results_cell_row rfl _ _ w.heap.size 59 _ (0,0) _ rfl B underlying59 rfl p) rfl ⟨rfl,Cv c (A' _) _⟩
def Ey(key l:List Int):Int :=
 if key.length≠32\/l.length≠22 then 1
 else if(Ew key (l.take 6)).take 16≠l.drop 6 then 6
 else Nf (l.getD 0 0) (l.getD 1 0) (Ac l 2)
def MT(key l:List Int):Array Value:=if Ey key l=0 then tkA (l.getD 0 0) (l.getD 1 0) (Ac l 2)else tkA 0 0 0
theorem NT(h:key.length≠32\/l.length≠22):Ey key l=1:=if_pos h
theorem Zm(a:key.length=32)(b:l.length=22)(h:¬ (Ew key (l.take 6)).take 16=l.drop 6):Ey key l=6:=by
 unfold Ey;rw[if_neg (by omega),if_pos h]
theorem Zn(a:key.length=32)(b:l.length=22)(h:(Ew key (l.take 6)).take 16=l.drop 6):Ey key l=Nf (l.getD 0 0) (l.getD 1 0) (Ac l 2):=by
 unfold Ey;rw[if_neg (by omega),if_neg (λg=>g h)]
theorem Uo(h:Ey key l=0):MT key l=tkA (l.getD 0 0) (l.getD 1 0) (Ac l 2):=if_pos h
theorem I7(h:¬ Ey key l=0):MT key l=tkA 0 0 0:=if_neg h
theorem S9(l:List Int):Ac (l.take 6) 2=Ac l 2:=by
 unfold Ac;rw[B9 _ _ _ (by omega),B9 _ _ _ (by omega),B9 _ _ _ (by omega),B9 _ _ _ (by omega)]
theorem VW(vk vb:Value)(key l:List Int)(w:World)(z:Sl w vk key)(x:Sl w vb l)(ht:AJ w) :
  Calls prog 127 #[vk,vb] w λe w'=>e=.returned (.tuple #[.agg (MT key l),.int .i64 (Ey key l)])/\Bw w w':=by
 have lk:=z.len;have ll:=x.len;obtain⟨ak,ck,rfl⟩:=z.shape;obtain⟨U,Y,rfl⟩:=x.shape;have i:Bw w (w.alloc (.cells (tkA 0 0 0) 59)):=(Below.refl _ _).alloc (A' _) _;have L:=heap_alloc_new w (.cells (tkA 0 0 0) 59);have d:=IM 0 0 0;by_cases o:key.length=32
 .by_cases h2:l.length=22
  .have H1:Hid (key.length=32):=o;have t:Hid (l.length=22):=h2;rw[o]at z ⊢
   rw[h2]at x ⊢
   clear lk ll o h2;have v:w.alloc (.cells #[.int .i64 0,.int .i64 0,.int .i64 0] 59)=w.alloc (.cells (tkA 0 0 0) 59):=rfl;generalize w.alloc (.cells (tkA 0 0 0) 59)=W at i L v;obtain⟨S,V,C,s6⟩:=x.qp 6 (by have:=t.out;omega);have r6:∀ W,(Instr.slice 24 (.slice U 22 Y) none (some (.int .i64 6)) none).run prog W=.ok (.slice S 6 V) W:=C;obtain⟨T,X,D,s7⟩:=x.from 6 (by have:=t.out;omega);have r7:∀ W,(Instr.slice 24 (.slice U 22 Y) (some (.int .i64 6)) none none).run prog W=.ok (.slice T 16 X) W:=D;clear C D;have R:Hid ((l.take 6).length=6):=by unfold Hid;rw[X',t.out];rfl
   go_enter func127,ntmps127
   go_wp2_with fail
   clear v;refine(QX _ _ key (l.take 6) W (z.af i) (s6.af i) (by rw[H1.out];omega) (by rw[R.out];omega) (ht.af i)).mono ?_;rintro e M ⟨v1,rfl,s1,N⟩;have P:=i.trans (N.mono i.size);have q1:=(N.block w.heap.size (U'.1 L).1).trans L;have E:=s7.af P;clear N i L;go_wp2_with fail
   refine(IC v1 (.slice T 16 X) _ _ M s1 E).mono ?_;rintro e w2 ⟨rfl,m,rfl⟩;have n:Bw w (M.drewN m):=Ar P m;have s:(M.drewN m).heap[w.heap.size]?=some (.cells (tkA 0 0 0) 59):=q1;clear q1 P s1 E;generalize M.drewN m=W2 at n s ⊢;by_cases p:(Ew key (l.take 6)).take 16=l.drop 6
   .have HE:=Zn H1.out t.out p;have b:Hid (Ey key l=0->MT key l=tkA (l.getD 0 0) (l.getD 1 0) (Ac l 2)):=Uo;have j:Hid (¬ Ey key l=0->MT key l=tkA 0 0 0):=I7;have F:Hid ((l.take 6).getD 0 0=l.getD 0 0/\(l.take 6).getD 1 0=l.getD 1 0/\Ac (l.take 6) 2=Ac l 2):=⟨B9 _ _ _ (by omega),B9 _ _ _ (by omega),S9 l⟩;rw[O' p];clear p;go_wp2_with fail
    refine(Rf (.slice S 6 V) (l.take 6) W2 (s6.af n) (by rw[R.out];omega)).mono ?_;rintro e g ⟨rfl,O⟩;rw[F.out.1,F.out.2.1,F.out.2.2];have Q:=n.trans (O.mono n.size);have f:=(O.block w.heap.size (U'.1 s).1).trans s;clear O s n F;generalize l.getD 0 0=c at HE b ⊢;generalize l.getD 1 0=r at HE b ⊢;generalize Ac l 2=u at HE b ⊢;have y:=IM c r u;have H:Bw g (g.alloc (.cells (tkA 0 0 0) 59)):=(Below.refl _ _).alloc (A' _) _;have K:=heap_alloc_new g (.cells (tkA 0 0 0) 59);have v:g.alloc (.cells #[.int .i64 0,.int .i64 0,.int .i64 0] 59)=g.alloc (.cells (tkA 0 0 0) 59):=rfl;generalize g.alloc (.cells (tkA 0 0 0) 59)=W4 at H K v;have A:w.heap.size<g.heap.size:=(U'.1 f).1
    go_upto_region 10 with(refine wpList_store_row rfl 59 (.tmp 9) (.tmp 38) rfl g.heap.size (tkA c r u) rfl rfl 59 _ K y rfl (IL c r u) ?_)
    clear v;have k:=setRow_heap W4 g.heap.size _ (tkA c r u) 59 _ K;replace f:=((H.block w.heap.size A).trans f);replace f:=(setRow_other W4 g.heap.size w.heap.size (tkA c r u) (by omega)).trans f;have J:=Cv (Q.trans (H.mono Q.size)) (show w.heap.size<=g.heap.size by omega) (tkA c r u);generalize W4.setRow g.heap.size (tkA c r u)=W5 at f k J ⊢;clear K H Q;generalize g.heap.size=G at k A ⊢;go_wp2_with (refine wpList_load_row rfl 59 _ rfl G rfl 59 _ (0,0) _ k underlying59 rfl y ?_)
    refine(Jj c r u W5).mono ?_;rintro e w6 ⟨rfl,I⟩;have Z:=J.trans (I.mono J.size);replace f:=(I.block w.heap.size (U'.1 f).1).trans f;replace k:=(I.block G (U'.1 k).1).trans k;clear I J;by_cases q:Dy c r u
    .have a:Hid (Ey key l=0):=HE.trans (KG q);have h:Hid (MT key l=tkA c r u):=b.out a.out;rw[O' q];clear HE b j q;go_wp2_with (first|(refine wpList_load_row rfl 59 _ rfl G rfl 59 _ (0,0) _ k underlying59 rfl y ?_)|(refine wpList_store_row rfl 59 (.tmp 4) (.tmp 43) rfl w.heap.size (tkA c r u) rfl rfl 59 _ f y rfl (IL c r u) ?_))
     have B:=setRow_heap w6 w.heap.size _ (tkA c r u) 59 _ f;refine bodyPost_ret (JL rfl _ _ w.heap.size 59 _ (0,0) _ rfl B underlying59 rfl y) rfl ?_;rw[a.out,h.out];exact⟨rfl,Cv Z (A' _) _⟩
    .have a:Hid (Ey key l=2):=HE.trans (U6 q);have h:Hid (MT key l=tkA 0 0 0):=j.out (by rw[a.out];omega);rw[E' q];clear HE b j q;go_wp2_with (refine wpList_store_row rfl 59 (.tmp 4) (.tmp 42) rfl w.heap.size (tkA 0 0 0) rfl rfl 59 _ f d rfl (IL 0 0 0) ?_)
     have B:=setRow_heap w6 w.heap.size _ (tkA 0 0 0) 59 _ f;refine bodyPost_ret (JL rfl _ _ w.heap.size 59 _ (0,0) _ rfl B underlying59 rfl d) rfl ?_;rw[a.out,h.out];exact⟨rfl,Cv Z (A' _) _⟩
   .have a:Hid (Ey key l=6):=Zm H1.out t.out p;have h:Hid (MT key l=tkA 0 0 0):=I7 (by rw[a.out];omega);rw[E' p];clear p;go_wp2_with (refine wpList_store_row rfl 59 (.tmp 4) (.tmp 36) rfl w.heap.size (tkA 0 0 0) rfl rfl 59 _ s d rfl (IL 0 0 0) ?_)
    have B:=setRow_heap W2 w.heap.size _ (tkA 0 0 0) 59 _ s;refine bodyPost_ret (JL rfl _ _ w.heap.size 59 _ (0,0) _ rfl B underlying59 rfl d) rfl ?_;rw[a.out,h.out];exact⟨rfl,Cv n (A' _) _⟩
  .have h2':¬ (l.length:Int)=22:=by omega
   have a:Hid (Ey key l=1):=NT (.inr h2);have h:Hid (MT key l=tkA 0 0 0):=I7 (by rw[a.out];omega);rw[o]at z ⊢
   clear o;go_enter func127,ntmps127
   go_wp2
   refine bodyPost_ret (JL rfl _ _ w.heap.size 59 _ (0,0) _ rfl (heap_alloc_new _ _) underlying59 rfl d) rfl ?_;rw[a.out,h.out];exact⟨rfl,i⟩
 .have h1':¬ (key.length:Int)=32:=by omega
  have a:Hid (Ey key l=1):=NT (.inl o);have h:Hid (MT key l=tkA 0 0 0):=I7 (by rw[a.out];omega);go_enter func127,ntmps127
  go_wp2
  refine bodyPost_ret (JL rfl _ _ w.heap.size 59 _ (0,0) _ rfl (heap_alloc_new _ _) underlying59 rfl d) rfl ?_;rw[a.out,h.out];exact⟨rfl,i⟩
end
end
section
section
def OP(l:List Int):Int:=if l=[]then 13 else if 7<l.getD 0 0 then 2 else Ka (Ji (l.getD 0 0)) 0 0 noB (l.drop 1)
def SH(l:List Int):List Int:=if OP l=0 then Mg (Ji (l.getD 0 0)) (l.drop 1)else[]
def unT(l:List Int):List Int:=(SH l).take 22
def unQ(l:List Int):List Int:=(SH l).drop 22
def unB(l:List Int):Prop:=OP l=0/\(SH l).length=42/\Ey F6 (unT l)=0
instance (l:List Int):Decidable (unB l):=by unfold unB;exact inferInstance
def unE(l:List Int):Int:=if OP l≠0 then OP l else if(SH l).length≠42 then 3 else if Ey F6 (unT l)≠0 then Ey F6 (unT l)else Cr (unQ l)
variable{i:Nat}{l:List Int}{now:Int}
theorem Rh(h:unE l=0):unB l/\Cr (unQ l)=0:=by
 unfold unE at h;split at h
 .rename_i g;exact absurd h g
 .rename_i g1
  split at h
  .cases h
  .rename_i g2
   split at h
   .rename_i g;exact absurd h g
   .rename_i g3
    exact⟨⟨mg.1 g1,mg.1 g2,mg.1 g3⟩,h⟩
theorem kM(h:unE l=0):0<l.length:=by
 obtain⟨⟨a,_⟩,_⟩:=Rh h;cases l with
 | nil=>cases a
 | cons x r=>simp
def opE(l:List Int)(now:Int):Int :=
 if unE l≠0 then unE l
 else if Ac (unQ l) 0≠0/\Ac (unQ l) 4≠l.getD 0 0 then 11
 else FV ((unT l).getD 0 0) ((unT l).getD 1 0) (Ac (unT l) 2) (Ac (unQ l) 0) (Ac (unQ l) 4) (Ac (unQ l) 8) (Ac (unQ l) 12) (Ac (unQ l) 16) now
def opA(l:List Int)(now:Int):Array Value:=if opE l now=0 then cmA (Ac (unQ l) 0) (Ac (unQ l) 4) (Ac (unQ l) 8) (Ac (unQ l) 12) (Ac (unQ l) 16)else cmA 0 0 0 0 0
theorem ik(h:opE l now≠0):opA l now=cmA 0 0 0 0 0:=if_neg h
theorem il(h:opE l now=0):opA l now=cmA (Ac (unQ l) 0) (Ac (unQ l) 4) (Ac (unQ l) 8) (Ac (unQ l) 12) (Ac (unQ l) 16):=if_pos h
def Nod.hZ(p:Nod)(i:Nat):Nod × List Let :=
 if(AZ p.vo.p p.bN (p.bn.take 40)).1=[]then({ p with bN:=(AZ p.vo.p p.bN (p.bn.take 40)).2 },[])
 else if p.vo.p.n=(i:Int)then(Nod.dT { p with bN:=(AZ p.vo.p p.bN (p.bn.take 40)).2 } (AZ p.vo.p p.bN (p.bn.take 40)).1,[])
 else({ p with bN:=(AZ p.vo.p p.bN (p.bn.take 40)).2 },[{ BC 6 with bt:=p.ae.length,fa:=(AZ p.vo.p p.bN (p.bn.take 40)).1,src:=i,dst:=p.vo.p.n.toNat }])
noncomputable def qD(i:Nat):List Cmd->Nod->List Tol->Nod × List Tol
 | [],p,ts=>(p,ts)
 | c::l,p,ts =>
  if doE p.lr c≠0 then(p,ts)
  else qD i l (Nod.gC { p with lr:=doS p.lr c,done:=p.done+1 } c) (if(p.bN c).isSome=true then ts++[⟨i,c.c,c.s,doC p.lr c,doA p.lr c⟩]else ts)
def Nod.ni(p:Nod)(i:Nat)(ls:List Let):Nod × List Let:=if p.sy<(p.d.length:Int)/\CY p.d p.sy≠0 then(p,ls)else nn i p.bu { p.qA with bu:=[] } ls
def Nod.bw(p:Nod)(i:Nat)(ls:List Let):Nod × List Let:=if p.leads then(Eu p i 5,ls++Dl p i 5)else(p,ls)
noncomputable def Nod.piece(p:Nod)(i:Nat)(ls:List Let)(ts:List Tol):Nod × List Let × List Tol :=
 let a:=qD i (p.ae.drop p.done) p ts
 let b:=a.1.hZ i
 let c:=b.1.cn.ni i (ls++b.2)
 let d:=c.1.bw i c.2
 (d.1,d.2,a.2)
noncomputable def Nod.qP(p:Nod)(i:Nat)(e:Int)(c:Cmd)(ts:List Tol):Nod × List Tol :=
 if p.up=false then(p,ts)
 else if e≠0 then({ p with bad:=p.bad+1 },ts)
 else if c∈p.ae.take p.done then(p,ts++[⟨i,c.c,c.s,doC p.lr c,doA p.lr c⟩])
 else(p.want c,ts)
def GW(l:List Int)(now:Int):Cmd:=if opE l now=0 then⟨Ac (unQ l) 0,Ac (unQ l) 4,Ac (unQ l) 8,Ac (unQ l) 12,Ac (unQ l) 16⟩else UX
theorem ij(l:List Int)(a:Int):opA l a=cmC (GW l a):=by unfold opA GW;split<;>rfl
noncomputable def Nod.qM(p:Nod)(i:Nat)(d:List Int)(ts:List Tol):Nod × List Tol:=p.qP i (opE d (p.done:Int)) (GW d (p.done:Int)) ts
def Meet.set(M:Meet)(i:Nat)(p:Nod)(ls:List Let)(ts:List Tol):Meet:=⟨upN M.ab i p,ls,ts⟩
noncomputable def Meet.act(M:Meet)(x:Lac):Meet :=
 let i:=x.n.toNat
 if x.k=1 then M.set i ((M.ab i).qM i x.d M.eo).1 M.br ((M.ab i).qM i x.d M.eo).2
 else if x.k=2 then M.set i (if(M.ab i).up then(M.ab i).lead i else M.ab i) M.br M.eo
 else if x.k=3 then M.set i (if(M.ab i).up then((M.ab i).piece i M.br M.eo).1 else M.ab i) (if(M.ab i).up then((M.ab i).piece i M.br M.eo).2.1 else M.br) (if(M.ab i).up then((M.ab i).piece i M.br M.eo).2.2 else M.eo)
 else if x.k=4\/x.k=5\/x.k=6 then M.move x.k x.a.toNat
 else if x.k=7 then M.qz
 else if x.k=8 then M.set i (if(M.ab i).up then(M.ab i).kc x.p else M.ab i) M.br M.eo
 else if x.k=9 then M.set i (if(M.ab i).up then M.ab i else(M.ab i).start) M.br M.eo
 else M
noncomputable def Meet.dc(M:Meet)(l:List Lac):Meet:=l.foldl Meet.act M
theorem dO(r:List Int):Ap (DY r).2.p/\BO (DY r).2.vs:=by
 have h:∀ k,Ap (itR r k).2.p/\BO (itR r k).2.vs:=by
  intro k;induction k with
  | zero=>exact⟨.inr ⟨rfl,rfl⟩,BO.nil⟩
  | succ k ih =>
   rw[itR];unfold JJ;split
   .exact ih
   .rename_i c m hs
    have d:∃ b,DG (itR r k).2 b=some c:=by
     unfold BW at hs;split at hs
     .cases hs
     .split at hs
      .cases hs
      .split at hs
       .cases hs
       .obtain⟨x,hx,e⟩:=nE.1 hs;injection e with e1 e2
        subst e1;exact⟨_,hx⟩
    obtain⟨b,a⟩:=d;unfold DG at a;split at a
    .split at a
     .rename_i h1
      injection a with a;subst a
      exact⟨.inl (Ci h1).2.1,ih.2⟩
     .cases a
    .split at a
     .split at a
      .split at a
       .rename_i h1
        injection a with a;subst a
        exact⟨.inl (Aq h1).2.1.2.1,Gl ih.2 (Aq h1).2.1⟩
       .cases a
      .cases a
     .cases a
 exact h r.length
theorem dN(d:List Int)(s:Int):Ap (Gt d s).p/\BO (Gt d s).vs:=by
 unfold Gt;split
 .exact dO d
 .exact⟨.inr ⟨rfl,rfl⟩,BO.nil⟩
theorem CB{l m:Let}{k:Nat}(h:m∈BT i l k):∃ to,to<k/\m={ l with src:=i,dst:=to }:=by
 unfold BT at h;obtain⟨to,a,rfl⟩:=mA.1 h;exact⟨to,nW.1 (o8.1 a).1,rfl⟩
theorem Js(a:i<5)(l:Let):(BT i l 5).length<=4:=by
 unfold BT;rw[mw];rcases qq a with rfl|rfl|rfl|rfl|rfl<;>decide
end
section
variable{n i:Nat}{p:Nod}
theorem NOk.ln(h:NOk n p)(a:i<5){q:Pend}(c:POk p.ae.length q):NOk n (p.ln i q)/\(p.ln i q).bu=p.bu/\p.ae.length<=(p.ln i q).ae.length/\Ro p i q/\(∀ m∈p.qt i q,LOk m)/\(p.qt i q).length<=q.wt:=by
 have g:=h.ag;have one:∀ {l:Let},LOk l->∀ m∈[l],LOk m:=λj m d=>by rw[D'.1 d];exact j
 cases q with
 | began b vs =>
  unfold Nod.ln Nod.qt;refine⟨?_,?_,?_,pN (h.he i).len (by decide),?_,?_⟩
  .simp only;split
   .exact h
   .exact h.qJ i c
  .simp only;split<;>rfl
  .simp only;split<;>exact A' _
  .simp only;split
   .exact λm d=>by cases d
   .rename_i h1
    intro m d;obtain⟨to,e,rfl⟩:=CB d;exact⟨by show 0<7;decide,a,e,by show Ap b;rw[<- mR h1];exact h.vp,BO.nil,by show 0<=40;decide,λh=>by cases h⟩
  .simp only;split
   .exact mH _
   .exact Js a _
 | prom to b vs=>exact⟨h,rfl,A' _,trivial,one ⟨by show 1<7;decide,a,c.1,c.2.1,c.2.2,g,λh=>by cases h⟩,A' _⟩
 | voted to v=>exact⟨h,rfl,A' _,trivial,one ⟨by show 4<7;decide,a,c,Ap.b0,BO.nil,by show 0<=40;decide,λh=>by cases h⟩,A' _⟩
 | ed to b=>exact⟨h,rfl,A' _,trivial,one ⟨by show 2<7;decide,a,c.1,c.2,BO.nil,by show 0<=40;decide,λh=>by cases h⟩,A' _⟩
 | prop v =>
  have f:=h.count i v;refine⟨f.1,f.2.1,f.2.2,g,λm d=>?_,Js a _⟩;obtain⟨to,e,rfl⟩:=CB d;exact⟨by show 3<7;decide,a,e,Ap.b0,BO.nil,by show 0<=40;decide,λh=>by cases h⟩
 | askNews to=>exact⟨h,rfl,A' _,trivial,one ⟨by show 6<7;decide,a,c,Ap.b0,BO.nil,by show 0<=40;decide,λh=>by cases h⟩,A' _⟩
 | start =>
  refine⟨h,rfl,A' _,trivial,λm d=>?_,Js a _⟩;obtain⟨to,e,rfl⟩:=CB d;exact⟨by show 6<7;decide,a,e,Ap.b0,BO.nil,by show 0<=40;decide,λh=>by cases h⟩
 | tell to bt=>exact⟨h,rfl,A' _,c.2,one ⟨by show 5<7;decide,a,c.1,Ap.b0,BO.nil,by show(p.ae.drop bt).length<=40;rw[mm];omega,λ_=>by show bt+(p.ae.drop bt).length<=40;rw[mm];have:=c.2;omega⟩,A' _⟩
theorem XK(k:i<5)(l:List Pend)(p:Nod)(a:List Let)(h:NOk n p)(c:∀ q∈l,POk p.ae.length q)(z:a.length+Az l<90000000)(b:∀ m∈a,LOk m) :
  NOk n (nn i l p a).1/\(nn i l p a).1.bu=p.bu/\(∀ m∈(nn i l p a).2,LOk m)/\(nn i l p a).2.length<=a.length+Az l/\GC i l p a:=by
 induction l generalizing p a with
 | nil=>exact⟨h,rfl,b,A' _,trivial⟩
 | cons q l ih =>
  obtain⟨d,e,f,g,j,y⟩:=h.ln k (c q M');have A:Az (q::l)=q.wt+Az l:=rfl;obtain⟨t,u,v,w,x⟩:=ih (p.ln i q) (a++p.qt i q) d (λr s=>(c r (I' _ s)).mono f) (by rw[H'];omega) (λm o=>by
   rcases P'.1 o with h|h
   .exact b m h
   .exact j m h)
  refine⟨t,u.trans e,v,?_,g,by omega,x⟩;show(nn i l (p.ln i q) (a++p.qt i q)).2.length<=_;rw[H']at w;omega
theorem NOk.qA(h:NOk n p):NOk n { p.qA with bu:=[] }:=by
 unfold Nod.qA;split
 .exact{ h with pe:=λq a=>by cases a }
 .exact{ h with pe:=λq a=>by cases a }
theorem Tt(p:Nod):p.qA.ae=p.ae:=by unfold Nod.qA;split<;>rfl
theorem NOk.ni(h:NOk n p)(d:i<5){ls:List Let}(c:ls.length+Az p.bu<90000000)(b:∀ m∈ls,LOk m) :
  NOk n (p.ni i ls).1/\(∀ m∈(p.ni i ls).2,LOk m)/\(p.ni i ls).2.length+Az (p.ni i ls).1.bu<=ls.length+Az p.bu/\GC i p.bu { p.qA with bu:=[] } ls:=by
 have a:=XK d p.bu { p.qA with bu:=[] } ls h.qA (λq e=>by show POk p.qA.ae.length q;rw[Tt];exact h.pe q e) c b;unfold Nod.ni;split
 .exact⟨h,b,A' _,a.2.2.2.2⟩
 .exact⟨a.1,a.2.2.1,by rw[a.2.1];exact a.2.2.2.1,a.2.2.2.2⟩
theorem Xf(b:Bal)(f:Cmd->Option Bal)(l:List Cmd):(AZ b f l).1.length<=l.length:=by
 induction l generalizing f with
 | nil=>exact A' _
 | cons c l ih =>
  rw[AZ];split
  .have:=ih (BU f c (some b));simp only[mE];omega
  .have:=ih f;simp only[mE];omega
theorem UR(b:Bal)(f:Cmd->Option Bal)(l:List Cmd)(c:Cmd)(h:((AZ b f l).2 c).isSome=true):(f c).isSome=true\/c∈l:=by
 induction l generalizing f with
 | nil=>exact .inl h
 | cons d l ih =>
  rw[AZ]at h
  split at h
  .rcases ih _ h with h1|h1
   .unfold BU at h1;split at h1
    .rename_i e;exact .inr (e▸M')
    .exact .inl h1
   .exact .inr (I' _ h1)
  .rcases ih _ h with h1|h1
   .exact .inl h1
   .exact .inr (I' _ h1)
theorem NOk.asks(h:NOk n p):NOk n { p with bN:=(AZ p.vo.p p.bN (p.bn.take 40)).2 } :=
 { h with ask:=λc a=>(UR _ _ _ c a).elim (h.ask c) mr }
theorem NOk.hZ(h:NOk n p)(c:i<5):NOk n (p.hZ i).1/\(p.hZ i).1.bu=p.bu/\(p.hZ i).1.ae=p.ae/\(∀ m∈(p.hZ i).2,LOk m)/\(p.hZ i).2.length<=1:=by
 have b:(AZ p.vo.p p.bN (p.bn.take 40)).1.length<=40:=me (Xf _ _ _) (by rw[X'];omega);unfold Nod.hZ;split
 .exact⟨h.asks,rfl,rfl,λm a=>(by cases a),mH _⟩
 .split
  .have:=h.asks.dT (AZ p.vo.p p.bN (p.bn.take 40)).1;exact⟨this.1,this.2.1,this.2.2,λm a=>(by cases a),mH _⟩
  .have hr:=h.vp.sO;refine⟨h.asks,rfl,rfl,λm a=>?_,A' _⟩;rw[D'.1 a];exact⟨by show 6<7;decide,c,by show p.vo.p.n.toNat<5;omega,Ap.b0,BO.nil,b,λh=>by cases h⟩
theorem NOk.cn(h:NOk n p):NOk n p.cn/\Az p.cn.bu<=Az p.bu+4/\p.cn.ae=p.ae:=by
 unfold Nod.cn;split
 .exact⟨h,by omega,rfl⟩
 .split
  .exact⟨h,by omega,rfl⟩
  .rename_i c _
   split
   .exact⟨h,by omega,rfl⟩
   .have hv:=h.cl ⟨(p.ae.length:Int),p.av.fv,c⟩;have a:NOk n { (p.cl ⟨(p.ae.length:Int),p.av.fv,c⟩).1 with av:={ p.av with next:=p.ae.length+1 } }:={ hv.1 with qu:=h.qu,he:=h.he };refine⟨a.wait trivial,?_,hv.2.2.1⟩;show Az ((p.cl ⟨(p.ae.length:Int),p.av.fv,c⟩).1.bu++[_])<=_;rw[FF,hv.2.1];exact A' _
theorem NOk.bw(h:NOk n p)(e:i<5)(a:List Let)(d:∀ m∈a,LOk m):NOk n (p.bw i a).1/\(p.bw i a).1.bu=p.bu/\(∀ m∈(p.bw i a).2,LOk m)/\(p.bw i a).2.length<=a.length+5:=by
 have g:=h.ag;have f:∀ k,k<=5->∀ m∈Dl p i k,LOk m:=by
  intro k;induction k with
  | zero=>exact λ_ m b=>by cases b
  | succ k ih =>
   intro j m b;rw[Dl]at b
   rcases P'.1 b with h1|h1
   .exact ih (by omega) m h1
   .split at h1
    .rename_i c
     have c:=mI c;rw[D'.1 h1];exact⟨by show 5<7;decide,e,by show k<5;omega,Ap.b0,BO.nil,by show(p.ae.drop _).length<=40;rw[mm];omega,λ_=>by show p.av.bw k+(p.ae.drop _).length<=40;rw[mm];omega⟩
    .cases h1
 unfold Nod.bw;split
 .refine⟨{ h with qu:=h.qu,he:=h.he },rfl,λm b=>?_,by show(a++Dl p i 5).length<=_;rw[H'];have:=U0 p i 5;omega⟩;rcases P'.1 b with h1|h1
  .exact d m h1
  .exact f 5 (A' _) m h1
 .exact⟨h,rfl,d,p9 _ _⟩
theorem NOk.gC(h:NOk n p)(c:Cmd):NOk n (p.gC c)/\(p.gC c).bn.length+(if(p.bN c).isSome=true then 1 else 0)<=p.bn.length:=by
 unfold Nod.gC;split
 .rename_i h1
  have b:=h.ask c h1;have e:(p.bn.erase c).length=p.bn.length-1:=List.length_erase_of_mem b;have f:0<p.bn.length:=List.length_pos_of_mem b;refine⟨{ h with wa:=?_,ask:=λd a=>?_ },by show(p.bn.erase c).length+1<=_;omega⟩
  .show(p.bn.erase c).length<=n;have:=h.wa;omega
  .unfold BU at a;simp only at a;split at a
   .cases a
   .rename_i hne;exact(List.mem_erase_of_ne hne).2 (h.ask d a)
 .exact⟨h,A' _⟩
theorem G4(p:Nod)(c:Cmd):(p.gC c).up=p.up/\(p.gC c).bu=p.bu/\(p.gC c).ae=p.ae/\(p.gC c).done=p.done/\(p.gC c).lr=p.lr:=by
 unfold Nod.gC;split<;>exact⟨rfl,rfl,rfl,rfl,rfl⟩
theorem XG(i:Nat)(l:List Cmd)(p:Nod)(a:List Tol)(h:NOk n p)(j:p.done+l.length<=p.ae.length) :
  NOk n (qD i l p a).1/\(qD i l p a).1.bu=p.bu/\(qD i l p a).1.ae=p.ae/\(qD i l p a).2.length+(qD i l p a).1.bn.length<=a.length+p.bn.length:=by
 induction l generalizing p a with
 | nil=>exact⟨h,rfl,rfl,A' _⟩
 | cons c l ih =>
  rw[qD];split
  .exact⟨h,rfl,rfl,A' _⟩
  .rw[mE]at j
   have g:NOk n { p with lr:=doS p.lr c,done:=p.done+1 }:={ h with dn:=by show p.done+1<=p.ae.length;omega };have e:=g.gC c;have b:=G4 { p with lr:=doS p.lr c,done:=p.done+1 } c;obtain⟨k,m,o,q⟩:=ih (Nod.gC { p with lr:=doS p.lr c,done:=p.done+1 } c) (if(p.bN c).isSome=true then a++[⟨i,c.c,c.s,doC p.lr c,doA p.lr c⟩]else a) e.1 (by rw[b.2.2.2.1,b.2.2.1];show p.done+1+l.length<=p.ae.length;omega);refine⟨k,m.trans b.2.1,o.trans b.2.2.1,me q ?_⟩;have d:=e.2;simp only at d;by_cases f:(p.bN c).isSome=true
   .rw[if_pos f]at d ⊢
    rw[H'];show a.length+1+_<=_;omega
   .rw[if_neg f]at d ⊢;omega
theorem NOk.piece(h:NOk n p)(f:i<5){ls:List Let}{ts:List Tol}(r:ls.length+Az p.bu<80000000)(k:∀ m∈ls,LOk m) :
  NOk n (p.piece i ls ts).1/\(∀ m∈(p.piece i ls ts).2.1,LOk m)/\(p.piece i ls ts).2.1.length+Az (p.piece i ls ts).1.bu<=ls.length+Az p.bu+10/\(p.piece i ls ts).2.2.length+(qD i (p.ae.drop p.done) p ts).1.bn.length<=ts.length+p.bn.length:=by
 have b:=XG i (p.ae.drop p.done) p ts h (by rw[mm];have:=h.dn;omega);have a:=b.1.hZ f;have d:=a.1.cn;have e:=d.1.ni f (ls:=ls++((qD i (p.ae.drop p.done) p ts).1.hZ i).2) (by rw[H'];have:=d.2.1;have:=a.2.2.2.2;rw[a.2.1,b.2.1]at *;omega) (λm l=>by
  rcases P'.1 l with h|h
  .exact k m h
  .exact a.2.2.2.1 m h)
 have c:=e.1.bw f _ e.2.1;refine⟨c.1,c.2.2.1,?_,b.2.2.2⟩;have o:=c.2.2.2;have g:=e.2.2.1;have j:=d.2.1;have q:=a.2.2.2.2;rw[a.2.1,b.2.1]at j
 rw[H']at g
 show(Nod.bw _ i _).2.length+Az (Nod.bw _ i _).1.bu<=_;rw[c.2.1];omega
end
end
section
open Go.RowKit
theorem Ty{g:Gh}{w:World}(M:∀ b,w.heap.size<=b->g.t b=.z/\g.k b=0) :
  Calls prog 24 #[] w λe w'=>∃ (b:Nat) (g':Gh),e=.returned (.map (some b))/\TkAt g' w' b 7/\IS g' w'/\Cg w.heap.size [.n 70 0] g w g' w':=by
 refine gI (fn:=f24) [.n 70 0] g func24 M (qR [] 6 [] λX U Y F=>j5 0 (by kernel_rfl) (by kernel_rfl) ?_);intro a V Z N v q W;have G:=q w.heap.size [];refine Hu 1 (b:=a) v (by decide) (by kernel_rfl) (by kernel_rfl) (by kernel_rfl) ?_;intro w4 x r;have H:=r w.heap.size [.n 70 0] (D'.2 rfl);refine Hu 2 (b:=a) x (by decide) (by kernel_rfl) (by kernel_rfl) (by kernel_rfl) ?_;intro w6 y s;have I:=s w.heap.size [.n 70 0] (D'.2 rfl);refine Hu 3 (b:=a) y (by decide) (by kernel_rfl) (by kernel_rfl) (by kernel_rfl) ?_;intro w8 A u;have J:=u w.heap.size [.n 70 0] (D'.2 rfl);refine Hu 4 (b:=a) A (by decide) (by kernel_rfl) (by kernel_rfl) (by kernel_rfl) ?_;intro P B d;have l:=d w.heap.size [.n 70 0] (D'.2 rfl);refine Hu 5 (b:=a) B (by decide) (by kernel_rfl) (by kernel_rfl) (by kernel_rfl) ?_;intro Q C h;have m:=h w.heap.size [.n 70 0] (D'.2 rfl);refine Hu 6 (b:=a) C (by decide) (by kernel_rfl) (by kernel_rfl) (by kernel_rfl) ?_;intro R D i;have o:=i w.heap.size [.n 70 0] (D'.2 rfl);refine Hu 7 (b:=a) D (by decide) (by kernel_rfl) (by kernel_rfl) (by kernel_rfl) ?_;intro S E j;have p:=j w.heap.size [.n 70 0] (D'.2 rfl);refine qR [] 3 [] λO L T c=>qE (.map (some a)) λK=>⟨a,_,rfl,(E.ch c),K.new,((((((((((F.nil [.n 70 0]).n G).trans H).trans I).trans J).trans l).trans m).trans o).trans p).n c)⟩
theorem KW{g:Gh}{w:World}{q s A:Nat}{nb:Nat->Nat}{M:Meet}(h:MS q s A nb g w M){w0:World}(hB:Base w0 g w)(hT:Tabs w0)(y:Nat)(l:Let)(hl:CK g w y l)(I:LOk l){n:Nat}(u:NOk n (M.ab l.dst))(v:(M.ab l.dst).bu.length<100000000) :
  Calls prog 67 #[pt q 0,pt y 0] w (MP q s A nb g w (.tuple #[]) (M.mv l)):=by
 have o:=hl;obtain⟨P,src,dst,C,cl,j,p,d⟩:=l;have hs:src<5:=I.src;have m:dst<5:=I.dst;have a8:P<7:=I.kd;have b7:d.length<=40:=I.wh;simp only at u v;obtain⟨x,hN⟩:=h.ab dst m;have b6:=u.ag;refine gI (fn:=f67) TM g func67 h.new (Cl ⟨q,_,.z,false⟩ (λ_=>⟨h.box.r,h.box.z,λh=>(by cases h),λh=>absurd rfl h⟩) (by kernel_rfl) ?_);obtain⟨vs,wh,a9,d3,d4⟩:=hl;refine Cl ⟨y,.cells (F7 (Let.mk P src dst C cl j p d) vs wh) 142,.z,false⟩ (λ_=>⟨a9.r,a9.z,λh=>(by cases h),λh=>absurd rfl h⟩) (by kernel_rfl) ?_;refine qR [] 9 [10,0,2,4,6,8,1,10,12] λs1 g1 w1 a=>?_;refine PY 7 (pt q dst) false (λW hW=>(by rcases qq m with rfl|rfl|rfl|rfl|rfl<;>kernel_rfl)) (by kernel_rfl) ?_;refine qU 8 (pt (nb dst) 0) (λW hW=>(CP underlying70 rfl (Ul (AV.at (hW rfl) 0 q (.cells (mtA nb A s) 73) .z (by kernel_rfl)) m))) (qR [] 7 [18] λs3 g3 w3 b=>?_);have b5:=hN.ch (a.trans b);refine qN b5 (qR [] 2 [2] λs4 g4 w4 c=>?_);by_cases h1:(M.ab dst).up=true
 .refine qI ((M.ab dst).up) true h1 ?_;have L:=h.tk.ch ((a.trans b).trans c) (by simp);refine Iq s _ 70 0 L.row L.t L.k (by kernel_rfl) ?_;rw[show M.mv (Let.mk P src dst C cl j p d)=M.set dst ((M.ab dst).take (Let.mk P src dst C cl j p d)) M.br M.eo from if_pos h1];refine qR [] 9 [11,0,2,4,6,0,8,10,12,14,1] λs5 g5 w5 e=>qU 8 (tkV P) (λW hW=>(rTk (AV.at (hW rfl) 3 s (.map (tkL 7).toArray 7) (.n 70 0) (by kernel_rfl)) a8)) (qR [] 2 [18,20] λs6 J N i=>?_);rcases ZO a8 with rfl|rfl|rfl|rfl|rfl|rfl|rfl
  .refine Ag λK=>?_;have N7:MS q s A nb J N M:=(h.qH ((((a.trans b).trans c).trans e).trans i) K.new);refine qG 11 TM [true,true,false,false] ((N7).call m (IJ ((N7).ns m) (hB.ch (((((a.nil TM).n b).n c).n e).n i) Fq) hT y _ (o.ch ((((a.trans b).trans c).trans e).trans i) (by simp)) rfl v)) ?_;rintro O w7 ⟨g7,rfl,M7,c7⟩;refine⟨_,g7,rfl,c7,M7.new,?_⟩;replace c7:=c7.ret (B:=w.heap.size);refine qR [] 1 [] λs8 g8 w8 c8=>qE (.tuple #[]) λK=>⟨_,rfl,(M7.qH c8 K.new),(((((((a.nil TM).n b).n c).n e).n i).trans (c7)).n c8)⟩
  .refine Ag λK=>?_;have N9:MS q s A nb J N M:=(h.qH ((((a.trans b).trans c).trans e).trans i) K.new);refine qG 11 TM [true,true,false,false] ((N9).call m (Kw ((N9).ns m) (hB.ch (((((a.nil TM).n b).n c).n e).n i) Fq) hT y _ (o.ch ((((a.trans b).trans c).trans e).trans i) (by simp)) rfl hs (by show((M.ab dst).ae++d.drop ((M.ab dst).ae.length-0)).length<=40;rw[H',mm];omega) b7 (pN (u.he src).len (by decide)))) ?_;rintro O w9 ⟨g9,rfl,M9,c9⟩;refine⟨_,g9,rfl,c9,M9.new,?_⟩;replace c9:=c9.ret (B:=w.heap.size);refine qR [] 1 [] λd5 b8 e2 a1=>qE (.tuple #[]) λK=>⟨_,rfl,(M9.qH a1 K.new),(((((((a.nil TM).n b).n c).n e).n i).trans (c9)).n a1)⟩
  .refine Ag λK=>?_;have V:MS q s A nb J N M:=(h.qH ((((a.trans b).trans c).trans e).trans i) K.new);refine qG 11 TM [true,true,false,false] ((V).call m (Kx ((V).ns m) y _ (o.ch ((((a.trans b).trans c).trans e).trans i) (by simp)))) ?_;rintro O e3 ⟨b0,rfl,Q,D⟩;refine⟨_,b0,rfl,D,Q.new,?_⟩;replace D:=D.ret (B:=w.heap.size);refine qR [] 1 [] λd6 b9 e4 a2=>qE (.tuple #[]) λK=>⟨_,rfl,(Q.qH a2 K.new),(((((((a.nil TM).n b).n c).n e).n i).trans (D)).n a2)⟩
  .refine Ag λK=>?_;have X:MS q s A nb J N M:=(h.qH ((((a.trans b).trans c).trans e).trans i) K.new);refine qG 11 TM [true,true,false,false] ((X).call m (J0 ((X).ns m) (hB.ch (((((a.nil TM).n b).n c).n e).n i) Fq) hT y _ (o.ch ((((a.trans b).trans c).trans e).trans i) (by simp)) rfl v (by have:=u.vs.len;omega))) ?_;rintro O e5 ⟨b1,rfl,R,E⟩;refine⟨_,b1,rfl,E,R.new,?_⟩;replace E:=E.ret (B:=w.heap.size);refine qR [] 1 [] λd7 c0 e6 a3=>qE (.tuple #[]) λK=>⟨_,rfl,(R.qH a3 K.new),(((((((a.nil TM).n b).n c).n e).n i).trans (E)).n a3)⟩
  .refine Ag λK=>?_;have Y:MS q s A nb J N M:=(h.qH ((((a.trans b).trans c).trans e).trans i) K.new);refine qG 11 TM [true,true,false,false] ((Y).call m (Pn ((Y).ns m) (hB.ch (((((a.nil TM).n b).n c).n e).n i) Fq) hT y _ (o.ch ((((a.trans b).trans c).trans e).trans i) (by simp)) hs b6)) ?_;rintro O e7 ⟨b2,rfl,S,F⟩;refine⟨_,b2,rfl,F,S.new,?_⟩;replace F:=F.ret (B:=w.heap.size);refine qR [] 1 [] λd8 c2 e8 a4=>qE (.tuple #[]) λK=>⟨_,rfl,(S.qH a4 K.new),(((((((a.nil TM).n b).n c).n e).n i).trans (F)).n a4)⟩
  .refine Ag λK=>?_;have Z:MS q s A nb J N M:=(h.qH ((((a.trans b).trans c).trans e).trans i) K.new);refine qG 11 TM [true,true,false,false] ((Z).call m (Pm ((Z).ns m) y _ (o.ch ((((a.trans b).trans c).trans e).trans i) (by simp)) rfl v (by omega) (by show d.length<_;omega))) ?_;rintro O e9 ⟨b3,rfl,T,G⟩;refine⟨_,b3,rfl,G,T.new,?_⟩;replace G:=G.ret (B:=w.heap.size);refine qR [] 1 [] λd9 d0 f0 a5=>qE (.tuple #[]) λK=>⟨_,rfl,(T.qH a5 K.new),(((((((a.nil TM).n b).n c).n e).n i).trans (G)).n a5)⟩
  .refine Ag λK=>?_;have a0:MS q s A nb J N M:=(h.qH ((((a.trans b).trans c).trans e).trans i) K.new);refine qG 11 TM [true,true,false,false] ((a0).call m (Mf ((a0).ns m) y _ (o.ch ((((a.trans b).trans c).trans e).trans i) (by simp)) rfl v (by show d.length<_;omega) u.qu)) ?_;rintro O f1 ⟨b4,rfl,U,H⟩;refine⟨_,b4,rfl,H,U.new,?_⟩;replace H:=H.ret (B:=w.heap.size);refine qR [] 1 [] λe0 d1 f2 a6=>qE (.tuple #[]) λK=>⟨_,rfl,(U.qH a6 K.new),(((((((a.nil TM).n b).n c).n e).n i).trans (H)).n a6)⟩
 .refine qI ((M.ab dst).up) false (by simpa using h1) (qR [] 1 [] λe1 d2 f3 a7=>qE (.tuple #[]) λK=>?_);rw[show M.mv (Let.mk P src dst C cl j p d)=M from if_neg h1];exact⟨_,rfl,(h.qH (((a.trans b).trans c).trans a7) K.new),((((a.nil TM).n b).n c).n a7)⟩
section
variable{P:Program}{B:Nat}{T:List Tg}{g:Gh}{w:World}
section
variable{x:S3}{xs:List Value}{τ:Tg}
theorem OwnS.sa{e:TypeId}{d:Nat}(h:OwnS g w τ false e d x xs){k:Nat}(f:k<=x.n)(i:0<x.n):OwnS g w τ false e d ⟨x.a,k,x.c⟩ (xs.take (k*d)):=by
 have l:=h.len;have j:k*d<=x.n*d:=nY _ f;refine⟨by rw[X'];show min _ _=k*d;omega,?_⟩;rcases h.ex with⟨h1,h2,h3⟩|⟨b,cur,h1,h2,h3,h4,h5,h6,h7,h8⟩
 .omega
 .refine .inr ⟨b,cur,h1,h2,me f h3,h4,h5,?_,h7,h8⟩;show cur.toList.take (k*d)=xs.take (k*d);rw[<- h6,oE,nm j]
theorem jp(t A e:TypeId)(i:TypeInfo)(I:P.underlying t=some (.slice e))(E:P.info? e=some i)(s:τ∈T)(z:OwnS g w τ false e i.size x xs)(a:Addr)(m c:Nat)(news:List Value)(G:0<x.c)(r:news.length=m*i.size)(l:∀ j u,news[j]?=some u->w.cell? (a.add j)=some u)(C:∀ u∈news,u.oneCell'=true)(f:x.n+m<=x.c) :
  ∃ w',(Builtin.append_ #[t,t] A #[x.v,.slice (some a) m c]).run P w=.ok (S3.v ⟨x.a,x.n+m,x.c⟩) w'/\OwnS g w' τ false e i.size ⟨x.a,x.n+m,x.c⟩ (xs++news)/\Cg B T g w g w'/\w'.heap.size=w.heap.size:=by
 obtain⟨K,y,J⟩:=x;have h:(xs++news).length=(y+m)*i.size:=by rw[H',z.len,r,pi]
 rcases z.ex with⟨h2,h3,h4⟩|⟨b,cur,h2,h3,h4,h5,h6,h7,h8,h9⟩
 .simp only at h4 f G;omega
 .simp only at h2 h4 h5 h6 h7 f;subst h2;have p:y*i.size+news.length<=cur.size:=by rw[r,h6,<- pi];exact nY _ f
  have H:=run_append_room (P:=P) w t A e i I E b y J cur h3 a m c news r l C f p;have o:g.k b=0:=by simpa using h9
  refine⟨_,H,⟨h,.inr ⟨b,_,rfl,setRow_heap w b cur _ e _ h3,f,h5,?_,?_,h8,by rw[o];rfl⟩⟩,⟨rfl,rfl,rfl,by simp,λ_ _=>.inl rfl,λ_ _=>A' _,λ_ _ _ _=>rfl,λd D q _=>setRow_other w b d _ (λe=>q (by rw[e,h8];exact s)),λd D j F=>?_⟩,by simp⟩
  .simp only[nZ,H',X',mm,nz];omega
  .rw[h7,<- h];exact pP
  .exact World.cell?_of_block (w:=w) (setRow_other w b d _ (λe=>by rw[e,o]at F;omega))
theorem jw(t J e:TypeId)(z:Value)(f:Nat)(H:P.underlying t=some (.slice e))(I:∀ w,(zeroValue e).run P w=.ok z w)(r:z.cells.size=f)(A:0<f)(C:∀ j,j<f->(z.cells[j]!).oneCell'=true)(D:τ∈T)(E:OwnS g w τ false e f x xs){b:Nat}(s:x.a=some ⟨b,0,none⟩)(k c:Nat)(K:0<k)(i:x.n+k<=x.c) :
  ∃ w',(Builtin.clear_ #[t] J #[.slice (some ⟨b,x.n*f,none⟩) k c]).run P w=.ok (.tuple #[]) w'/\OwnS g w' τ false e f x xs/\Cg B T g w g w'/\w'.heap.size=w.heap.size:=by
 rcases E.ex with⟨h2,h3,h4⟩|⟨b',cur,h2,h3,h4,h5,h6,h7,h8,h9⟩
 .rw[h2]at s;cases s
 .rw[s]at h2
  simp only[Y',Addr.mk.injEq,and_true]at h2;subst h2;have u:g.k b=0:=by simpa using h9
  have l:(Builtin.zeroCells z.cells k).toList.length=k*f:=by rw[nz,size_zeroCells,r]
  have h:x.n*f+0+(Builtin.zeroCells z.cells k).toList.length<=cur.size:=by rw[l,h6,ol,<- pi];exact nY _ i
  have o:∀ v∈(Builtin.zeroCells z.cells k).toList,v.oneCell'=true:=by
   intro v q;simp only[Builtin.zeroCells,Array.toList_map,mA]at q;obtain⟨j,_,rfl⟩:=q;exact C _ (by rw[r];exact Nat.mod_lt _ A)
  have p:=run_storeCells_at (P:=P) b (x.n*f) e (Builtin.zeroCells z.cells k).toList 0 cur w h3 h o;simp only[ol]at p;obtain⟨m,rfl⟩:∃ m,k=m+1:=⟨k-1,by omega⟩;refine⟨_,by simp only[Builtin.clear_,m7,nt,Sem.run_bind,run_underlying H,Result.andThen_ok,I,p];rfl,⟨E.len,.inr ⟨b,_,s,setRow_heap w b cur _ e _ h3,h4,h5,?_,?_,h8,h9⟩⟩,⟨rfl,rfl,rfl,by simp,λ_ _=>.inl rfl,λ_ _=>A' _,λ_ _ _ _=>rfl,λd F y _=>setRow_other w b d _ (λe=>y (by rw[e,h8];exact D)),λd F j G=>?_⟩,by simp⟩
  .rw[l]at h ⊢
   simp only[nZ,H',X',mm,nz,l];simp only[ol]at h;omega
  .have hle:x.n*f<=cur.toList.length:=by rw[nz,h6];exact nY _ h4
   show(cur.toList.take (x.n*f)++_++_).take (x.n*f)=xs;rw[mf,mK (by rw[X'];omega),oE,Nat.min_self,h7]
  .exact World.cell?_of_block (w:=w) (setRow_other w b d _ (λe=>by rw[e,u]at G;omega))
end
end
section
variable{fn:Func}{R:Ending->World->Prop}{B:Nat}{T:List Tg}{g:Gh}{w W:World}
section
theorem Kd(b o k:Nat):(⟨b,o,none⟩:Addr).add k=⟨b,o+k,none⟩:=by
 unfold Addr.add;split
 .rename_i h;simp[]
 .rfl
theorem lM(b n c l h m:Nat)(a:l<=h)(d:h<=m)(e:m<=c)(f:l<m):(Instr.sliceAt 38 (.slice (some ⟨b,0,none⟩) n c) (some (iv (l:Int))) (some (iv (h:Int))) (some (iv (m:Int)))).run prog W=.ok (.slice (some ⟨b,l*5,none⟩) (h-l) (m-l)) W:=by
 rw[run_sliceAt_slice _ _ _ _ _ _ unC,run_slice_lhm (P:=prog) (w:=W) _ _ _ _ unC .i64 .i64 .i64 l h m (by omega) (by omega) (by omega) (by omega),sz5];simp[Result.andThen,sliced,Kd];omega
theorem lL(b n c l h:Nat)(a:l<=h)(d:h<=c)(e:l<c):(Instr.sliceAt 38 (.slice (some ⟨b,0,none⟩) n c) (some (iv (l:Int))) (some (iv (h:Int))) none).run prog W=.ok (.slice (some ⟨b,l*5,none⟩) (h-l) (c-l)) W:=by
 rw[run_sliceAt_slice _ _ _ _ _ _ unC,run_slice_lh (P:=prog) (w:=W) _ _ _ _ unC .i64 .i64 l h (by omega) (by omega) (by omega),sz5];simp[Result.andThen,sliced,Kd];omega
theorem lN(b n c h:Nat)(a:h<=c):(Instr.sliceAt 38 (.slice (some ⟨b,0,none⟩) n c) none (some (iv (h:Int))) none).run prog W=.ok (.slice (some ⟨b,0,none⟩) h c) W:=by
 rw[run_sliceAt_slice _ _ _ _ _ _ unC,run_slice_h (P:=prog) (w:=W) _ _ _ _ unC .i64 h (by omega) (by omega),sz5];simp[Result.andThen,sliced,Kd]
theorem lO(b n c l:Nat)(a:l<=n):(Instr.sliceAt 38 (.slice (some ⟨b,0,none⟩) n c) (some (iv (l:Int))) none none).run prog W=.ok (.slice (some ⟨b,if c=l then 0 else l*5,none⟩) (n-l) (c-l)) W:=by
 rw[run_sliceAt_slice _ _ _ _ _ _ unC,run_slice_l (P:=prog) (w:=W) _ _ _ _ unC .i64 l (by omega) (by omega),sz5];simp[Result.andThen,sliced,Kd];split<;>simp
variable{s:Xs}
theorem jz(p:Nat){τ:Tg}{x:S3}{J:List Value}(I:TypeId)(a:Addr)(m c:Nat)(news:List Value)(W:OwnS g w τ false 49 5 x J)(e:Dw s p=some (Builtin.append_ #[38,38] I #[x.v,.slice (some a) m c]>>=λv=>pure (.value v)))(A:(nxt s p undef s.L).o.map Ob.l'=(nxt s p undef s.L).o.map Ob.r')(r:s.L.all (λy=>[τ].all λt=>y.t.ne t)=true)(S:0<x.c)(Q:news.length=m*5)(K:∀ u∈news,u.oneCell'=true)(f:∀ j u,news[j]?=some u->w.cell? (a.add j)=some u)(h:x.n+m<=x.c)(O:∀ w',OwnS g w' τ false 49 5 ⟨x.a,x.n+m,x.c⟩ (J++news)->(∀ B T,τ∈T->Cg B T g w g w')->w'.heap.size=w.heap.size->GG prog fn R B T (nxt s p (S3.v ⟨x.a,x.n+m,x.c⟩) s.L).s g w'):GG prog fn R B T s g w:=by
 refine Lq p s.L A (Cj e) λG X i o C=>?_;obtain⟨d,N,k⟩:∃ d,prog.info? 49=some d/\d.size=5:=by
  have q:(prog.info? 49).map (·.size)=some 5:=by kernel_rfl
  cases hh:prog.info? 49 with
  | none=>rw[hh]at q;cases q
  | some v=>rw[hh]at q;exact⟨v,rfl,by simpa using q⟩
 obtain⟨w',U,D,M,E⟩:=jp (P:=prog) (B:=w.heap.size) (T:=[τ]) 38 I 49 d underlying38 N (D'.2 rfl) (by rw[k];exact W) a m c news S (by rw[k];exact Q) f K h;rw[k]at D
 have F:∀ B T,τ∈T->Cg B T g w g w':=λB T r=>(M.ret (B:=B)).mono λt V=>by rw[D'.1 V];exact r
 refine⟨S3.v ⟨x.a,x.n+m,x.c⟩,w',g,.inl ?_,G.ch (F _ [τ] (D'.2 rfl)) (λb H=>G.new b (by rw[E]at H;exact H)) r,O w' D F E⟩;rw[DB e C,Sem.run_bind,U,Result.andThen_ok];rfl
theorem kW(w:World):(zeroValue 49).run prog w=.ok (.agg #[iv 0,iv 0,iv 0,iv 0,iv 0]) w:=by kernel_rfl
theorem l9(f:Nat){τ:Tg}{x:S3}{E:List Value}(D:TypeId){b:Nat}(h:x.a=some ⟨b,0,none⟩)(k c:Nat)(M:OwnS g w τ false 49 5 x E)(d:Dw s f=some (Builtin.clear_ #[38] D #[.slice (some ⟨b,x.n*5,none⟩) k c]>>=λv=>pure (.value v)))(q:(nxt s f undef s.L).o.map Ob.l'=(nxt s f undef s.L).o.map Ob.r')(m:s.L.all (λy=>[τ].all λt=>y.t.ne t)=true)(p:0<k)(e:x.n+k<=x.c)(I:∀ w',OwnS g w' τ false 49 5 x E->(∀ B T,τ∈T->Cg B T g w g w')->w'.heap.size=w.heap.size->GG prog fn R B T (nxt s f (.tuple #[]) s.L).s g w'):GG prog fn R B T s g w:=by
 refine Lq f s.L q (Cj d) λC N i o r=>?_;obtain⟨w',J,F,G,u⟩:=jw (P:=prog) (B:=w.heap.size) (T:=[τ]) 38 D 49 (.agg #[iv 0,iv 0,iv 0,iv 0,iv 0]) 5 underlying38 kW rfl (by decide) (λj H=>by rcases qq H with rfl|rfl|rfl|rfl|rfl<;>rfl) (D'.2 rfl) M h k c p e;have A:∀ B T,τ∈T->Cg B T g w g w':=λB T m=>(G.ret (B:=B)).mono λt K=>by rw[D'.1 K];exact m
 refine⟨.tuple #[],w',g,.inl ?_,C.ch (A _ [τ] (D'.2 rfl)) (λb h=>C.new b (by rw[u]at h;exact h)) m,I w' F A u⟩;rw[DB d r,Sem.run_bind,J,Result.andThen_ok];rfl
end
end
theorem sz1{W:World}:(Go.sizeOf (prog.elem 65)).run prog W=.ok 1 W:=by kernel_rfl
theorem unL:prog.underlying 65=some (.slice (prog.elem 65)):=by kernel_rfl
section
variable{fn:Func}{R:Ending->World->Prop}{B:Nat}{T:List Tg}{g:Gh}{w W:World}
section
theorem ki(b n c l h m:Nat)(a:l<=h)(d:h<=m)(e:m<=c)(f:l<m):(Instr.sliceAt 65 (.slice (some ⟨b,0,none⟩) n c) (some (iv (l:Int))) (some (iv (h:Int))) (some (iv (m:Int)))).run prog W=.ok (.slice (some ⟨b,l*1,none⟩) (h-l) (m-l)) W:=by
 rw[run_sliceAt_slice _ _ _ _ _ _ unL,run_slice_lhm (P:=prog) (w:=W) _ _ _ _ unL .i64 .i64 .i64 l h m (by omega) (by omega) (by omega) (by omega),sz1];simp[Result.andThen,sliced,Kd];omega
theorem kh(b n c l h:Nat)(a:l<=h)(d:h<=c)(e:l<c):(Instr.sliceAt 65 (.slice (some ⟨b,0,none⟩) n c) (some (iv (l:Int))) (some (iv (h:Int))) none).run prog W=.ok (.slice (some ⟨b,l*1,none⟩) (h-l) (c-l)) W:=by
 rw[run_sliceAt_slice _ _ _ _ _ _ unL,run_slice_lh (P:=prog) (w:=W) _ _ _ _ unL .i64 .i64 l h (by omega) (by omega) (by omega),sz1];simp[Result.andThen,sliced,Kd];omega
theorem km(b n c h:Nat)(a:h<=c):(Instr.sliceAt 65 (.slice (some ⟨b,0,none⟩) n c) none (some (iv (h:Int))) none).run prog W=.ok (.slice (some ⟨b,0,none⟩) h c) W:=by
 rw[run_sliceAt_slice _ _ _ _ _ _ unL,run_slice_h (P:=prog) (w:=W) _ _ _ _ unL .i64 h (by omega) (by omega),sz1];simp[Result.andThen,sliced,Kd]
theorem kn(b n c l:Nat)(a:l<=n):(Instr.sliceAt 65 (.slice (some ⟨b,0,none⟩) n c) (some (iv (l:Int))) none none).run prog W=.ok (.slice (some ⟨b,if c=l then 0 else l*1,none⟩) (n-l) (c-l)) W:=by
 rw[run_sliceAt_slice _ _ _ _ _ _ unL,run_slice_l (P:=prog) (w:=W) _ _ _ _ unL .i64 l (by omega) (by omega),sz1];simp[Result.andThen,sliced,Kd];split<;>simp
variable{s:Xs}
theorem gD(p:Nat){τ:Tg}{x:S3}{J:List Value}(I:TypeId)(a:Addr)(m c:Nat)(news:List Value)(W:OwnS g w τ false 143 1 x J)(e:Dw s p=some (Builtin.append_ #[65,65] I #[x.v,.slice (some a) m c]>>=λv=>pure (.value v)))(A:(nxt s p undef s.L).o.map Ob.l'=(nxt s p undef s.L).o.map Ob.r')(r:s.L.all (λy=>[τ].all λt=>y.t.ne t)=true)(S:0<x.c)(Q:news.length=m*1)(K:∀ u∈news,u.oneCell'=true)(f:∀ j u,news[j]?=some u->w.cell? (a.add j)=some u)(h:x.n+m<=x.c)(O:∀ w',OwnS g w' τ false 143 1 ⟨x.a,x.n+m,x.c⟩ (J++news)->(∀ B T,τ∈T->Cg B T g w g w')->w'.heap.size=w.heap.size->GG prog fn R B T (nxt s p (S3.v ⟨x.a,x.n+m,x.c⟩) s.L).s g w'):GG prog fn R B T s g w:=by
 refine Lq p s.L A (Cj e) λG X i o C=>?_;obtain⟨d,N,k⟩:∃ d,prog.info? 143=some d/\d.size=1:=by
  have q:(prog.info? 143).map (·.size)=some 1:=by kernel_rfl
  cases hh:prog.info? 143 with
  | none=>rw[hh]at q;cases q
  | some v=>rw[hh]at q;exact⟨v,rfl,by simpa using q⟩
 obtain⟨w',U,D,M,E⟩:=jp (P:=prog) (B:=w.heap.size) (T:=[τ]) 65 I 143 d underlying65 N (D'.2 rfl) (by rw[k];exact W) a m c news S (by rw[k];exact Q) f K h;rw[k]at D
 have F:∀ B T,τ∈T->Cg B T g w g w':=λB T r=>(M.ret (B:=B)).mono λt V=>by rw[D'.1 V];exact r
 refine⟨S3.v ⟨x.a,x.n+m,x.c⟩,w',g,.inl ?_,G.ch (F _ [τ] (D'.2 rfl)) (λb H=>G.new b (by rw[E]at H;exact H)) r,O w' D F E⟩;rw[DB e C,Sem.run_bind,U,Result.andThen_ok];rfl
theorem je(w:World):(zeroValue 143).run prog w=.ok (.pointer none) w:=by kernel_rfl
theorem j0(f:Nat){τ:Tg}{x:S3}{F:List Value}(E:TypeId){b:Nat}(m:x.a=some ⟨b,0,none⟩)(k c:Nat)(N:OwnS g w τ false 143 1 x F)(d:Dw s f=some (Builtin.clear_ #[65] E #[.slice (some ⟨b,x.n*1,none⟩) k c]>>=λv=>pure (.value v)))(r:(nxt s f undef s.L).o.map Ob.l'=(nxt s f undef s.L).o.map Ob.r')(p:s.L.all (λy=>[τ].all λt=>y.t.ne t)=true)(q:0<k)(e:x.n+k<=x.c)(J:∀ w',OwnS g w' τ false 143 1 x F->(∀ B T,τ∈T->Cg B T g w g w')->w'.heap.size=w.heap.size->GG prog fn R B T (nxt s f (.tuple #[]) s.L).s g w'):GG prog fn R B T s g w:=by
 refine Lq f s.L r (Cj d) λD O i o u=>?_;obtain⟨w',K,G,H,A⟩:=jw (P:=prog) (B:=w.heap.size) (T:=[τ]) 65 E 143 (.pointer none) 1 underlying65 je rfl (by decide) (λj I=>match j,I with|0,_=>rfl|j+1,h=>absurd h (by omega)) (D'.2 rfl) N m k c q e;have C:∀ B T,τ∈T->Cg B T g w g w':=λB T p=>(H.ret (B:=B)).mono λt M=>by rw[D'.1 M];exact p
 refine⟨.tuple #[],w',g,.inl ?_,D.ch (C _ [τ] (D'.2 rfl)) (λb m=>D.new b (by rw[A]at m;exact m)) p,J w' G C A⟩;rw[DB d u,Sem.run_bind,K,Result.andThen_ok];rfl
end
end
theorem PK{g:Gh}{w:World}{b n c:Nat}{l:List Nat}(o:OwnS g w (.n 51 0) false 143 1 ⟨some ⟨b,0,none⟩,n,c⟩ (l.map (pt · 0)))(L:∀ b,w.heap.size<=b->g.t b=.z/\g.k b=0)(j:Nat)(Z:j<l.length)(X:l.length<100000000) :
  Calls prog 66 #[.slice (some ⟨b,0,none⟩) n c,iv (j:Int),iv ((j+1:Nat):Int)] w λe w'=>∃ (x':S3) (g':Gh),e=.returned x'.v/\OwnS g' w' (.n 51 0) false 143 1 x' ((l.eraseIdx j).map (pt · 0))/\(∀ b,w'.heap.size<=b->g'.t b=.z/\g'.k b=0)/\Cg w.heap.size [.n 51 0] g w g' w':=by
 have hn:n=l.length:=by have:=o.len;simp at this;omega
 have Y:n<=c:=by rcases o.ex with⟨h,_⟩|⟨_,_,_,_,h,_⟩;cases h;exact h
 refine gI (fn:=f66) [.n 51 0] g func66 L (qR [] 11 [] λs1 S w1 y=>qV 5 (.slice (some ⟨b,j*1,none⟩) (j+1-j) (n-j)) (ki b n c j (j+1) n (by omega) (by omega) (by omega) (by omega)) (qR [] 8 [] λs2 T w2 A=>qI (((j:Int)==((j+1:Nat):Int))) false (by simp;omega) (qR [] 11 [8,0,2] λs3 U w3 B=>qT 2 (.slice (some ⟨b,0,none⟩) j c) (λ_=>(km b n c j (by omega))) (qR [] 2 [6,8] λs4 V w4 C=>qT 5 (.slice (some ⟨b,if c=j+1 then 0 else(j+1)*1,none⟩) (n-(j+1)) (c-(j+1))) (λ_=>(kn b n c (j+1) (by omega))) ?_))));have d:=o.ch (((y.trans A).trans B).trans C) (by simp) (by simp);have p:=d.sa (k:=j) (by show j<=n;omega) (by show 0<n;omega);refine gD 6 (x:=⟨some ⟨b,0,none⟩,j,c⟩) 65 ⟨b,if c=j+1 then 0 else(j+1)*1,none⟩ (n-(j+1)) (c-(j+1)) ((l.drop (j+1)).map (pt · 0)) p (by kernel_rfl) (by kernel_rfl) (by kernel_rfl) (by show 0<c;omega) (by simp;omega) (by intro u M;obtain⟨q,_,rfl⟩:=mA.1 M;rfl) (λq u r=>?_) (by show j+(n-(j+1))<=c;omega) ?_
 .have hlt:j+1<l.length:=by have h:=(V'.1 r).1;simp at h;omega
  rw[if_neg (by omega),Kd];rw[List.map_drop,nc]at r
  obtain⟨R,E,_,J⟩:=d.cell r;simp only[Y',Addr.mk.injEq,and_true]at E;subst E;rw[show(j+1)*1+q=j+1+q by omega];exact J
 intro w6 s i N;have G:=i w.heap.size [.n 51 0] (D'.2 rfl);rw[show(l.map (pt · 0)).take (j*1)++(l.drop (j+1)).map (pt · 0)=(l.eraseIdx j).map (pt · 0)from by rw[Nat.mul_one,<- pE,<- mB,pl]]at s
 refine qR [] 8 [14] λs7 W w7 D=>qV 4 (.slice (some ⟨b,(j+(n-(j+1)))*1,none⟩) (n-(j+(n-(j+1)))) (c-(j+(n-(j+1))))) (kh b (j+(n-(j+1))) c (j+(n-(j+1))) n (by omega) (by omega) (by omega)) (j0 5 (x:=⟨some ⟨b,0,none⟩,(j+(n-(j+1))),c⟩) (b:=b) 0 rfl (n-(j+(n-(j+1)))) (c-(j+(n-(j+1)))) (s.ch D) (by kernel_rfl) (by kernel_rfl) (by kernel_rfl) (by omega) (by show(j+(n-(j+1)))+(n-(j+(n-(j+1))))<=c;omega) ?_);intro w9 F m O;have H:=m w.heap.size [.n 51 0] (D'.2 rfl);refine qR [] 6 [] λP I Q a=>qE (S3.v ⟨some ⟨b,0,none⟩,(j+(n-(j+1))),c⟩) λK=>⟨_,_,rfl,(F.ch a),K.new,((((((((y.nil [.n 51 0]).n A).n B).n C).trans G).n D).trans H).n a)⟩
end
section
section
variable{M:Meet}{k m n:Nat}{p:Nod}
theorem NOk.mono(h:NOk n p)(a:n<=m):NOk m p:={ h with wa:=me h.wa a }
theorem NOk.zero(n:Nat):NOk n CW:=⟨mH _,A' _,mH _,mH _,λc h=>(by cases h),⟨mc _,by decide⟩,Ap.b0,BO.nil,λ_=>BO.nil,λq h=>(by cases h)⟩
theorem NOk.bare(n:Nat)(p:Nod)(up:Bool)(d:List Int)(g:Int){a:Acc}(b:Ap a.p)(e:BO a.vs)(l:List Pend)(f:∀ q∈l,POk 0 q):NOk n (p.bare up d g a l):=⟨mH _,A' _,mH _,mH _,λc h=>(by cases h),⟨mc _,by show(0:Int)<=65536;decide⟩,b,e,λ_=>BO.nil,f⟩
theorem NOk.kc(h:NOk n p)(k:Int):NOk n (p.kc k)/\Az (p.kc k).bu<=Az p.bu/\(p.kc k).bn.length<=p.bn.length/\(p.kc k).bad=p.bad:=by
 unfold Nod.kc;split
 .exact⟨h,A' _,A' _,rfl⟩
 .exact⟨NOk.bare n p _ _ _ Ap.b0 BO.nil [] (λq a=>(by cases a)),mH _,mH _,rfl⟩
theorem NOk.start(h:NOk n p):NOk n p.start/\Az p.start.bu<=Az p.bu+4/\p.start.bn.length<=p.bn.length/\p.start.bad=p.bad:=by
 have b:=dN p.d p.sy;have a:∀ q∈[Pend.start],POk 0 q:=λq a=>by rw[D'.1 a];trivial
 unfold Nod.start;split
 .exact⟨h,p9 _ _,A' _,rfl⟩
 .split
  .exact⟨NOk.bare n p _ _ _ b.1 b.2 _ a,by show 4<=_;omega,mH _,rfl⟩
  .exact⟨NOk.bare n p _ _ _ b.1 b.2 _ a,by show 4<=_;omega,mH _,rfl⟩
theorem FH(p:Nod)(b:Bal):(p.au b).1.bn=p.bn/\(p.au b).1.bad=p.bad/\(p.au b).1.bN=p.bN/\(p.au b).1.done=p.done/\(p.au b).1.cF=p.cF:=by
 unfold Nod.au;split
 .exact⟨rfl,rfl,rfl,rfl,rfl⟩
 .split
  .exact⟨rfl,rfl,rfl,rfl,rfl⟩
  .split<;>exact⟨rfl,rfl,rfl,rfl,rfl⟩
theorem NOk.lead(h:NOk n p)(i:Nat):NOk n (p.lead i)/\Az (p.lead i).bu<=Az p.bu+4/\(p.lead i).bn=p.bn/\(p.lead i).bad=p.bad:=by
 unfold Nod.lead;simp only;split
 .exact⟨h,p9 _ _,rfl,rfl⟩
 .have hp:=h.au ⟨max p.cF p.vo.p.r+1,(i:Int)⟩;have a:=FH p ⟨max p.cF p.vo.p.r+1,(i:Int)⟩;have b:NOk n { (p.au ⟨max p.cF p.vo.p.r+1,(i:Int)⟩).1 with av:=⟨⟨max p.cF p.vo.p.r+1,(i:Int)⟩,λ_=>false,λ_=>DS,λ_=>p.ae.length,0,[]⟩ }:={ hp.1 with qu:=mH _,he:=λ_=>BO.nil };refine⟨b.wait hp.2.2.2.1,?_,a.1,a.2.1⟩;show Az ((p.au _).1.bu++[_])<=_;rw[FF,hp.2.1];exact A' _
theorem NOk.want(h:NOk n p)(c:Cmd):NOk (n+1) (p.want c)/\(p.want c).bn.length<=p.bn.length+1/\(p.want c).bu=p.bu/\(p.want c).bad=p.bad:=by
 unfold Nod.want;split
 .exact⟨h.mono (nf _),nf _,rfl,rfl⟩
 .refine⟨{ h with wa:=?_,ask:=λd a=>?_ },by simp,rfl,rfl⟩
  .have:=h.wa;simp;omega
  .unfold BU at a;simp only at a ⊢;split at a
   .rename_i e;exact P'.2 (.inr (D'.2 e))
   .exact P'.2 (.inl (h.ask d a))
theorem NOk.qM(h:NOk n p)(i:Nat)(e:Int)(c:Cmd)(a:List Tol):NOk (n+1) (p.qP i e c a).1/\(p.qP i e c a).1.bu=p.bu/\(p.qP i e c a).2.length+(p.qP i e c a).1.bn.length<=a.length+p.bn.length+1/\(p.qP i e c a).1.bad<=p.bad+1:=by
 have b:=h.mono (nf n);unfold Nod.qP;split
 .exact⟨b,rfl,nf _,nf _⟩
 .split
  .exact⟨{ b with },rfl,nf _,A' _⟩
  .split
   .exact⟨b,rfl,by simp;omega,nf _⟩
   .have:=h.want c;exact⟨this.1,this.2.2.1,by have:=this.2.1;simp only;omega,by rw[this.2.2.2];exact nf _⟩
theorem Oo(p:Nod)(v:Vt):(p.cl v).1.bn=p.bn/\(p.cl v).1.bad=p.bad:=by
 unfold Nod.cl;split
 .exact⟨rfl,rfl⟩
 .split
  .exact⟨rfl,rfl⟩
  .split<;>exact⟨rfl,rfl⟩
theorem JU(p:Nod)(to:Nat)(e:Int):(p.ed to e).bn=p.bn/\(p.ed to e).bad=p.bad:=by unfold Nod.ed;split<;>exact⟨rfl,rfl⟩
theorem Fv(p:Nod)(j:Nat)(v:Vt):(p.count j v).bn=p.bn/\(p.count j v).bad=p.bad/\(p.count j v).bu=p.bu:=by
 unfold Nod.count;split
 .exact⟨rfl,rfl,rfl⟩
 .split<;>exact⟨rfl,rfl,rfl⟩
theorem F4(p:Nod)(l:List Cmd):(p.dT l).bn=p.bn/\(p.dT l).bad=p.bad:=by unfold Nod.dT;split<;>exact⟨rfl,rfl⟩
theorem WB(p:Nod)(l:Let):(p.take l).bn=p.bn/\(p.take l).bad=p.bad:=by
 unfold Nod.take;split
 .split
  .exact JU _ _ _
  .exact⟨(FH p l.fv).1,(FH p l.fv).2.1⟩
 .simp only;split<;>exact⟨rfl,rfl⟩
 .exact⟨rfl,rfl⟩
 .split
  .exact JU _ _ _
  .exact Oo p l.cl
 .exact⟨(Fv p _ _).1,(Fv p _ _).2.1⟩
 .split<;>exact⟨rfl,rfl⟩
 .simp only;split
  .exact F4 p l.fa
  .exact F4 p l.fa
 .exact⟨rfl,rfl⟩
theorem Wi(p:Nod)(i:Nat)(q:Pend):(p.ln i q).bn=p.bn/\(p.ln i q).bad=p.bad:=by
 cases q with
 | began b vs=>unfold Nod.ln;simp only;split<;>exact⟨rfl,rfl⟩
 | prop v=>exact⟨(Fv p i v).1,(Fv p i v).2.1⟩
 | _=>exact⟨rfl,rfl⟩
theorem RM(i:Nat)(l:List Pend)(p:Nod)(a:List Let):(nn i l p a).1.bn=p.bn/\(nn i l p a).1.bad=p.bad:=by
 induction l generalizing p a with
 | nil=>exact⟨rfl,rfl⟩
 | cons q l ih =>
  have b:=ih (p.ln i q) (a++p.qt i q);have c:=Wi p i q;exact⟨b.1.trans c.1,b.2.trans c.2⟩
theorem bU(i:Nat)(l:List Cmd)(p:Nod)(a:List Tol):(qD i l p a).1.bad=p.bad:=by
 induction l generalizing p a with
 | nil=>rfl
 | cons c l ih =>
  rw[qD];split
  .rfl
  .rw[ih];unfold Nod.gC;split<;>rfl
theorem SY(p:Nod)(i:Nat)(a:List Let)(b:List Tol):(p.piece i a b).1.bn=(qD i (p.ae.drop p.done) p b).1.bn/\(p.piece i a b).1.bad=p.bad:=by
 have c:∀ q:Nod,(q.hZ i).1.bn=q.bn/\(q.hZ i).1.bad=q.bad:=by
  intro q;unfold Nod.hZ;split
  .exact⟨rfl,rfl⟩
  .split
   .exact F4 _ _
   .exact⟨rfl,rfl⟩
 have d:∀ q:Nod,q.cn.bn=q.bn/\q.cn.bad=q.bad:=by
  intro q;unfold Nod.cn;split
  .exact⟨rfl,rfl⟩
  .split
   .exact⟨rfl,rfl⟩
   .split
    .exact⟨rfl,rfl⟩
    .exact Oo q _
 have e:∀ (q:Nod) (a:List Let),(q.ni i a).1.bn=q.bn/\(q.ni i a).1.bad=q.bad:=by
  intro q a;unfold Nod.ni;split
  .exact⟨rfl,rfl⟩
  .have:=RM i q.bu { q.qA with bu:=[] } a;have g:q.qA.bn=q.bn/\q.qA.bad=q.bad:=by unfold Nod.qA;split<;>exact⟨rfl,rfl⟩
   exact⟨this.1.trans g.1,this.2.trans g.2⟩
 have f:∀ (q:Nod) (a:List Let),(q.bw i a).1.bn=q.bn/\(q.bw i a).1.bad=q.bad:=by
  intro q a;unfold Nod.bw;split<;>exact⟨rfl,rfl⟩
 have h:=bU i (p.ae.drop p.done) p b;unfold Nod.piece;simp only;rw[(f _ _).1,(e _ _).1,(d _).1,(c _).1,(f _ _).2,(e _ _).2,(d _).2,(c _).2];exact⟨rfl,h⟩
def pw(M:Meet):Nat:=Az (M.ab 0).bu+Az (M.ab 1).bu+Az (M.ab 2).bu+Az (M.ab 3).bu+Az (M.ab 4).bu
def ww(M:Meet):Nat:=(M.ab 0).bn.length+(M.ab 1).bn.length+(M.ab 2).bn.length+(M.ab 3).bn.length+(M.ab 4).bn.length
theorem Zo(M:Meet){i:Nat}(a:i<5)(p:Nod)(b:List Let)(c:List Tol):pw (M.set i p b c)+Az (M.ab i).bu=pw M+Az p.bu:=by
 unfold pw Meet.set;rcases qq a with rfl|rfl|rfl|rfl|rfl<;>simp[upN]<;>omega
theorem be(M:Meet){i:Nat}(a:i<5)(p:Nod)(b:List Let)(c:List Tol):ww (M.set i p b c)+(M.ab i).bn.length=ww M+p.bn.length:=by
 unfold ww Meet.set;rcases qq a with rfl|rfl|rfl|rfl|rfl<;>simp[upN]<;>omega
theorem Q9(M:Meet){i:Nat}(a:i<5):Az (M.ab i).bu<=pw M:=by
 unfold pw;rcases qq a with rfl|rfl|rfl|rfl|rfl<;>omega
theorem kO(M:Meet){i:Nat}(a:i<5):(M.ab i).bn.length<=ww M:=by
 unfold ww;rcases qq a with rfl|rfl|rfl|rfl|rfl<;>omega
structure MOk(n:Nat)(M:Meet):Prop where
 ab:∀ i,i<5->NOk n (M.ab i)
 br:∀ l∈M.br,LOk l
 wt:M.br.length+pw M<=10*n
 eo:M.eo.length+ww M<=n
 bad:∀ i,i<5->(M.ab i).bad<=n
theorem MOk.zero:MOk 0 Ao:=⟨λ_ _=>NOk.zero 0,λl h=>(by cases h),A' _,A' _,λ_ _=>A' _⟩
theorem MOk.mono(h:MOk n M)(b:n<=m):MOk m M:=⟨λi a=>(h.ab i a).mono b,h.br,by have:=h.wt;omega,by have:=h.eo;omega,λi a=>me (h.bad i a) b⟩
theorem MOk.set(h:MOk n M){i:Nat}(a:i<5){p:Nod}{ls:List Let}{ts:List Tol}(c:NOk (n+1) p)(d:∀ l∈ls,LOk l)(g:ls.length+Az p.bu<=M.br.length+Az (M.ab i).bu+10)(k:ts.length+p.bn.length<=M.eo.length+(M.ab i).bn.length+1)(m:p.bad<=(M.ab i).bad+1):MOk (n+1) (M.set i p ls ts):=by
 have e:=Zo M a p ls ts;have f:=be M a p ls ts;have:=h.wt;have:=h.eo;refine⟨λj b=>?_,d,by show ls.length+_<=_;omega,by show ts.length+_<=_;omega,λj b=>?_⟩
 .show NOk (n+1) (upN M.ab i p j);unfold upN;split
  .exact c
  .exact(h.ab j b).mono (nf _)
 .show(upN M.ab i p j).bad<=n+1;unfold upN;split
  .have:=h.bad i a;omega
  .have:=h.bad j b;omega
structure COk(n k:Nat)(M:Meet):Prop where
 ab:∀ i,i<5->NOk n (M.ab i)
 wt:k+M.br.length+pw M<=10*n
 eo:M.eo.length+ww M<=n
 bad:∀ i,i<5->(M.ab i).bad<=n
 br:∀ l∈M.br,LOk l
theorem COk.mv(h:COk n (k+1) M){l:Let}(a:LOk l):COk n k (M.mv l)/\(M.mv l).br=M.br:=by
 have i:=h.wt;unfold Meet.mv;split
 .have ht:=(h.ab l.dst a.dst).take a;have c:=WB (M.ab l.dst) l;have e:=Zo M a.dst ((M.ab l.dst).take l) M.br M.eo;have d:=be M a.dst ((M.ab l.dst).take l) M.br M.eo;have f:pw (M.put l.dst ((M.ab l.dst).take l))=pw (M.set l.dst ((M.ab l.dst).take l) M.br M.eo):=rfl;have g:ww (M.put l.dst ((M.ab l.dst).take l))=ww (M.set l.dst ((M.ab l.dst).take l) M.br M.eo):=rfl;have:=h.eo;rw[c.1]at d
  refine⟨⟨λj b=>?_,by show k+M.br.length+_<=_;have:=ht.2.1;omega,by show M.eo.length+_<=_;omega,λj b=>?_,h.br⟩,rfl⟩
  .show NOk n (upN M.ab l.dst _ j);unfold upN;split
   .exact ht.1
   .exact h.ab j b
  .show(upN M.ab l.dst _ j).bad<=n;unfold upN;split
   .rw[c.2];exact h.bad _ a.dst
   .exact h.bad j b
 .exact⟨⟨h.ab,by omega,h.eo,h.bad,h.br⟩,rfl⟩
theorem COk.all(a:List Let){M:Meet}(h:COk n a.length M)(b:∀ l∈a,LOk l):COk n 0 (a.foldl (λM l=>M.mv l) M):=by
 induction a generalizing M with
 | nil=>exact h
 | cons l a ih=>exact ih ((h.mv (b l M')).1) λm c=>b m (I' _ c)
theorem COk.ok(h:COk n k M):MOk n M:=⟨h.ab,h.br,by have:=h.wt;omega,h.eo,h.bad⟩
theorem MOk.qz(h:MOk n M):MOk n M.qz :=
 (COk.all M.br (M:={ M with br:=[] }) ⟨h.ab,by show M.br.length+0+pw M<=_;exact h.wt,h.eo,h.bad,λl a=>(by cases a)⟩ h.br).ok
theorem MOk.move(h:MOk n M)(k:Int)(a:Nat):MOk (n+1) (M.move k a):=by
 have i:=h.wt;have b:=h.mono (nf n);unfold Meet.move;split
 .exact b
 .rename_i l hl
  have c:LOk l:=h.br l (mG hl);have f:∀ m∈M.br.eraseIdx (a%M.br.length),LOk m:=λm g=>h.br m (oU g);have e:(M.br.eraseIdx (a%M.br.length)).length<=M.br.length:=List.length_eraseIdx_le _ _;have d:COk (n+1) 1 (if k≠6 then{ M with br:=M.br.eraseIdx (a%M.br.length) }else M):=by
   split
   .exact⟨b.ab,by show 1+(M.br.eraseIdx _).length+pw M<=_;omega,b.eo,b.bad,f⟩
   .exact⟨b.ab,by omega,b.eo,b.bad,h.br⟩
  simp only;split
  .exact(d.mv c).1.ok
  .exact d.ok
theorem MOk.act(h:MOk n M)(i:n<=1000000){x:Lac}(g:LacOk x):MOk (n+1) (M.act x):=by
 have a:x.n.toNat<5:=by
  cases hu:FP x.k with
  | true=>have:=g.n hu;omega
  | false=>have:=g.n0 hu;omega
 have e:=h.ab _ a;have c:=e.mono (nf n);unfold Meet.act;simp only;split
 .have hs:=e.qM x.n.toNat (opE x.d ((M.ab x.n.toNat).done:Int)) (GW x.d ((M.ab x.n.toNat).done:Int)) M.eo;exact h.set a hs.1 h.br (by unfold Nod.qM;rw[hs.2.1];omega) (by unfold Nod.qM;omega) (by unfold Nod.qM;omega)
 .split
  .split
   .have hl:=c.lead x.n.toNat;exact h.set a hl.1 h.br (by omega) (by rw[hl.2.2.1];omega) (by rw[hl.2.2.2];omega)
   .exact h.set a c h.br (by omega) (by omega) (by omega)
  .split
   .by_cases hu:(M.ab x.n.toNat).up=true
    .rw[if_pos hu,if_pos hu,if_pos hu];have b:=c.piece a (ls:=M.br) (ts:=M.eo) (by have:=Q9 M a;have:=h.wt;omega) h.br;have f:=SY (M.ab x.n.toNat) x.n.toNat M.br M.eo;exact h.set a b.1 b.2.1 b.2.2.1 (by rw[f.1];have:=b.2.2.2;omega) (by rw[f.2];omega)
    .rw[if_neg hu,if_neg hu,if_neg hu];exact h.set a c h.br (by omega) (by omega) (by omega)
   .split
    .exact h.move _ _
    .split
     .exact h.qz.mono (nf _)
     .split
      .split
       .have hc:=c.kc x.p;exact h.set a hc.1 h.br (by omega) (by omega) (by rw[hc.2.2.2];omega)
       .exact h.set a c h.br (by omega) (by omega) (by omega)
      .split
       .split
        .exact h.set a c h.br (by omega) (by omega) (by omega)
        .have hc:=c.start;exact h.set a hc.1 h.br (by omega) (by omega) (by rw[hc.2.2.2];omega)
       .exact h.mono (nf _)
end
end
section
open Go.RowKit
section
variable{M:Meet}{W w:World}{b j mb n ob tb:Nat}{g:Gh}{l:List Let}{nb:Nat->Nat}{x:S3}
theorem kg{P:Program}{x y:Operand}(a b:Nat)(h:P.underlying 3=some (.int .i64))(f:a<9223372036854775808)(g:0<b)(e:b<9223372036854775808):(do Go.eqGuard .rem 3 x y (iv (a:Int)) (iv (b:Int));Go.binOp .rem 3 (iv (a:Int)) (iv (b:Int)):Sem Value).run P W=.ok (iv ((a%b:Nat):Int)) W:=by
 have d:Int.tmod (a:Int) (b:Int)=((a%b:Nat):Int):=rfl;have c:¬ b=0:=by omega
 simp only[Go.eqGuard,go_sem,Op.intDiv];simp[c,d]
theorem fB{c:Nat}(j:Nat)(a:j<n):(Instr.indexAt 65 (.slice (some ⟨b,0,none⟩) n c) (iv (j:Int))).run prog W=.ok (pt b j) W :=
 MV (P:=prog) (e:=143) (z:=1) underlying65 (by kernel_rfl) (by kernel_rfl) a _ (by omega)
theorem i6(d:x.a=some ⟨b,0,none⟩)(j:Nat)(c:j<x.n):(Instr.indexAt 65 x.v (iv (j:Int))).run prog W=.ok (pt b j) W:=by
 unfold S3.v;rw[d];exact fB j c
theorem FzL.cell{e:List Value}(h:FzL g w x e){b j:Nat}(i:x.a=some ⟨b,0,none⟩){u:Value}(k:e[j]?=some u):w.cell? ⟨b,j,none⟩=some u:=by
 obtain⟨c,d,_,_,f⟩:=h.at_ j u k;rw[i]at d
 simp only[Y',Addr.mk.injEq,and_true]at d;subst d;exact f
theorem MS.outs{a:Gh}{b:World}{B:Nat}(h:MS mb tb ob nb g w M)(c:Cg B [.n 50 0,.n 51 0] g w a b){lt e:S3}{d:List Let}(k:OutAt a b ob lt e d M.eo)(j:IS a b):MS mb tb ob nb a b { M with br:=d } :=
 ⟨h.box.ch c,h.tk.ch c,λi f=>let ⟨x,hx⟩:=h.ab i f;⟨x,hx.ch c (by simp) (λr l=>by simp;omega)⟩,⟨lt,e,k⟩,j⟩
theorem Lets.erase{d:List Nat}(h:Lets g w d l)(j:Nat):Lets g w (d.eraseIdx j) (l.eraseIdx j):=by
 refine⟨by rw[List.length_eraseIdx,List.length_eraseIdx,h.len],λk b m c a=>?_⟩;rw[List.getElem?_eraseIdx]at c a
 split at c
 .rename_i hk;rw[if_pos hk]at a;exact h.at_ _ _ _ c a
 .rename_i hk;rw[if_neg hk]at a;exact h.at_ _ _ _ c a
theorem XQ{c:Let}(h:l[j]?=some c):l.drop j=c::l.drop (j+1):=by
 obtain⟨a,b⟩:=V'.1 h;rw[<- b];exact mQ a
theorem YP(k:Int)(a:Nat)(h:M.br.length=0):M.move k a=M:=by
 unfold Meet.move;rw[Z' h];rfl
theorem dg{k:Int}{a:Nat}{l:Let}(h:M.br[a%M.br.length]?=some l):M.move k a=(if k≠5 then(if k≠6 then{ M with br:=M.br.eraseIdx (a%M.br.length) }else M).mv l else if k≠6 then{ M with br:=M.br.eraseIdx (a%M.br.length) }else M):=by
 unfold Meet.move;rw[h]
theorem L3(h:MS mb tb ob nb g w M){w0:World}(hB:Base w0 g w)(hT:Tabs w0)(k:Int)(a:Nat)(ha:a<=1048576){n:Nat}(hm:MOk n M)(hn:n<=1000000) :
  Calls prog 29 #[pt mb 0,iv k,iv (a:Int)] w (MP mb tb ob nb g w (.tuple #[]) (M.move k a)):=by
 obtain⟨lt,tl,hO⟩:=h.out;obtain⟨bs,hL,q⟩:=hO.br;have Y:lt.n=M.br.length:=by have:=hL.len;have:=q.len;simp at *;omega
 have b7:=hm.wt;refine gI (fn:=f29) TM g func29 h.new (Cl ⟨mb,_,.z,false⟩ (λ_=>⟨h.box.r,h.box.z,λh=>(by cases h),λh=>absurd rfl h⟩) (by kernel_rfl) ?_);refine qO hO (qR [] 18 [0,1] λs1 g1 w1 d=>?_);by_cases h1:lt.n=0
 .refine qI (((lt.n:Int)==0)) true (by simp;omega) (qE (.tuple #[]) λK=>?_);rw[YP k a (by omega)];exact⟨_,rfl,(h.qH d K.new),(d.nil TM)⟩
 .refine qI (((lt.n:Int)==0)) false (by simp;omega) ?_;obtain⟨j,hj⟩:∃ j,j=a%M.br.length:=⟨_,rfl⟩;have I:j<M.br.length:=by rw[hj];exact Nat.mod_lt _ (by omega)
  obtain⟨l,hl⟩:∃ l,M.br[j]?=some l:=⟨_,G' I⟩;obtain⟨J,X⟩:∃ J,bs[j]?=some J:=⟨_,G' (by rw[q.len];exact I)⟩;have s:=hm.br l (mG hl);have V:=q.at_ j J l X hl;obtain⟨b,hb,a7,a6⟩:=hL.cell (j:=j) (u:=pt J 0) (by rw[mV,X];rfl);rw[dg (hj▸hl)];rw[<- hj];obtain⟨la,lq,lc⟩:=lt;simp only at hb Y;subst hb;refine qR [] 5 [] λs3 g3 w3 m=>?_;have a8 {x y:Operand}:∀ {W:World},(do Go.eqGuard .rem 3 x y (iv (a:Int)) (iv (lq:Int));Go.binOp .rem 3 (iv (a:Int)) (iv (lq:Int)):Sem Value).run prog W=.ok (iv (j:Int)) W:=λ{W}=>by rw[hj,<- Y];exact kg a lq underlying3 (by omega) (by omega) (by omega)
  refine qV 2 (iv (j:Int)) (a8 (x:=(.tmp 19)) (y:=(.tmp 20))) (qR [] 12 [0,1] λs4 g4 w4 o=>qV 8 (pt b j) (fB (b:=b) (n:=lq) (c:=lc) j (by omega)) (qV 9 (pt J 0) (CP underlying143 rfl ((Below.cell (Cg.af ((d.trans m).trans o) (λ_ _=>Q')) (p:=⟨b,j,none⟩) a7).trans a6)) (qR [] 8 [] λs6 g6 w6 t=>?_)));by_cases h2:k≠6
  .refine qI ((k != 6)) true (by simpa using h2) ?_;have H:k≠6:=by simpa using h2
   rw[if_pos H];refine qR [] 14 [17,0,2,4,6,0,8,10,12,14,0,16,18,20,1,22,24] λs7 g7 w7 L=>qT 13 (iv ((j+1:Nat):Int)) (λ_=>(AK 46 (j:Int) underlying3 (by omega))) (Ag λK=>qG 14 [.n 51 0] [true,true] (PK (hL.ch ((((d.trans m).trans o).trans t).trans L) (by simp) (by simp)) K.new j (by rw[q.len];exact I) (by rw[q.len];omega)) ?_);rintro e' w9 ⟨y9,g9,rfl,a9,n9,G⟩;refine⟨_,g9,rfl,G,n9,?_⟩;replace G:=G.ret (B:=w.heap.size);refine qR [.n 50 0] 9 [30,32,35,1,1] λb8 U Z e=>Ag λK=>?_;have C9:Cg w.heap.size [.n 50 0,.n 51 0] g w U Z:=(((((((d.nil [.n 50 0,.n 51 0]).n m).n o).n t).n L).trans (G.mono (by simp))).trans (e.mono (by simp)));obtain⟨o1,o2,o3⟩:=K.rh 1 ob (.cells #[S3.v y9,S3.v tl] 67) 50 0 (by kernel_rfl);have P:MS mb tb ob nb U Z { M with br:=M.br.eraseIdx j }:=h.outs C9 ⟨o1,o2,o3,⟨bs.eraseIdx j,(a9.ch e),(q.erase j).ch C9⟩,hO.eo.ch C9⟩ K.new;by_cases F:k≠5
   .refine qI ((k != 5)) true (by simpa using F) ?_;rw[if_pos (show k≠5 from by simpa using F)];refine qR [] 3 [] λb9 a2 b0 A=>Ag λK=>?_;have a0:MS mb tb ob nb a2 b0 ({ M with br:=M.br.eraseIdx j }):=(P.qH A K.new);refine qG 2 TM [true,false] (KW a0 (hB.ch ((((((((d.nil TM).n m).n o).n t).n L).trans (G.mono (by simp[TM,TN]))).trans (e.mono (by simp[TM,TN]))).n A) Fq) hT J l (V.ch ((((((((d.nil TM).n m).n o).n t).n L).trans (G.mono (by simp[TM,TN]))).trans (e.mono (by simp[TM,TN]))).n A) Fq) s (hm.ab l.dst s.dst) (by have:=Ec (M.ab l.dst).bu;have:=Q9 M s.dst;show(M.ab l.dst).bu.length<_;omega)) ?_;rintro e' d2 ⟨a3,rfl,N,C⟩;refine⟨_,a3,rfl,C,N.new,?_⟩;replace C:=C.ret (B:=w.heap.size);refine qR [] 1 [] λc0 b2 d3 Q=>qE (.tuple #[]) λK=>⟨_,rfl,(N.qH Q K.new),((((((((((d.nil TM).n m).n o).n t).n L).trans (G.mono (by simp[TM,TN]))).trans (e.mono (by simp[TM,TN]))).n A).trans (C)).n Q)⟩
   .refine qI ((k != 5)) false (by simpa using F) (qR [] 1 [] λc2 b3 d4 R=>?_);rw[if_neg (show ¬ k≠5 from by simpa using F)];refine qE (.tuple #[]) λK=>⟨_,rfl,(P.qH R K.new),((((((((d.nil TM).n m).n o).n t).n L).trans (G.mono (by simp[TM,TN]))).trans (e.mono (by simp[TM,TN]))).n R)⟩
  .refine qI ((k != 6)) false (by simpa using h2) ?_;have H:¬ k≠6:=by simpa using h2
   rw[if_neg H];refine qR [] 6 [] λc5 b4 d5 i=>?_;by_cases F:k≠5
   .refine qI ((k != 5)) true (by simpa using F) ?_;rw[if_pos (show k≠5 from by simpa using F)];refine qR [] 3 [] λc8 a4 b1 D=>Ag λK=>?_;have a1:MS mb tb ob nb a4 b1 M:=(h.qH (((((d.trans m).trans o).trans t).trans i).trans D) K.new);refine qG 2 TM [true,false] (KW a1 (hB.ch ((((((d.nil TM).n m).n o).n t).n i).n D) Fq) hT J l (V.ch ((((((d.nil TM).n m).n o).n t).n i).n D) Fq) s (hm.ab l.dst s.dst) (by have:=Ec (M.ab l.dst).bu;have:=Q9 M s.dst;show(M.ab l.dst).bu.length<_;omega)) ?_;rintro e' d6 ⟨a5,rfl,O,E⟩;refine⟨_,a5,rfl,E,O.new,?_⟩;replace E:=E.ret (B:=w.heap.size);refine qR [] 1 [] λd0 b5 d7 S=>qE (.tuple #[]) λK=>⟨_,rfl,(O.qH S K.new),((((((((d.nil TM).n m).n o).n t).n i).n D).trans (E)).n S)⟩
   .refine qI ((k != 5)) false (by simpa using F) (qR [] 1 [] λd1 b6 d8 T=>?_);rw[if_neg (show ¬ k≠5 from by simpa using F)];refine qE (.tuple #[]) λK=>⟨_,rfl,(h.qH (((((d.trans m).trans o).trans t).trans i).trans T) K.new),((((((d.nil TM).n m).n o).n t).n i).n T)⟩
theorem PG(h:MS mb tb ob nb g w M){X:World}(hB:Base X g w)(hT:Tabs X){n:Nat}(u:MOk n M)(hn:n<=1000000) :
  Calls prog 30 #[pt mb 0] w (MP mb tb ob nb g w (.tuple #[]) M.qz):=by
 obtain⟨lt,tl,I⟩:=h.out;obtain⟨y,V,i⟩:=I.br;have a1:lt.n=M.br.length:=by have:=V.len;have:=i.len;simp at *;omega
 have P:=u.wt;refine gI (fn:=f30) TM g func30 h.new (Cl ⟨mb,_,.z,false⟩ (λ_=>⟨h.box.r,h.box.z,λh=>(by cases h),λh=>absurd rfl h⟩) (by kernel_rfl) ?_);refine qO I (lA V (by kernel_rfl) λgF Z hF=>qR [.n 50 0] 28 [0,1,0,1,1] λs1 g1 w1 S=>Ag λG=>BY 28 [(0,pt mb 0),(18,S3.v lt),(19,iv (lt.n:Int)),(20,iv 0)] [true,false] [⟨mb,.cells (mtA nb ob tb) 73,.z,false⟩] (λk E F e L=>∃ (j:Nat) (A:Meet),k=M.br.length-j/\j<=M.br.length/\e=[(0,pt mb 0),(18,S3.v lt),(19,iv (lt.n:Int)),(20,iv (j:Int))]/\L=[⟨mb,.cells (mtA nb ob tb) 73,.z,false⟩]/\MS mb tb ob nb E F A/\(M.br.drop j).foldl (λM l=>M.mv l) A=M.qz/\COk n (M.br.length-j) A/\FzL E F lt (y.map (pt · 0))/\Lets E F y M.br/\Cg w.heap.size TM g w E F) (by kernel_rfl) (by kernel_rfl) (by kernel_rfl) (by kernel_rfl) M.br.length (λK=>?_) ?_)
 .have C9:Cg w.heap.size [.n 50 0,.n 51 0] g w g1 w1:=((Z.mono (by simp)).trans (S.mono (by simp)));obtain⟨o1,o2,o3⟩:=G.rh 1 ob (.cells #[S3.v s30,S3.v tl] 67) 50 0 (by kernel_rfl);exact⟨0,{ M with br:=[] },rfl,mH _,rfl,rfl,h.outs C9 ⟨o1,o2,o3,⟨[],OwnS.nil _ _ _ _ _ _,⟨rfl,λk b m h=>(by cases h)⟩⟩,I.eo.ch C9⟩ K.new,rfl,⟨u.ab,by show M.br.length+0+pw M<=_;exact P,u.eo,u.bad,λl s=>(by cases s)⟩,(hF.fz.ch S),i.ch C9,C9.mono (by simp[TM,TN])⟩
 .rintro k gr wr _ zr _ ⟨j,A,rfl,hj,rfl,rfl,hM,hI,hA,hFz,hLt,hC⟩ J hJ;have a0:=hFz.n;refine qR [] 5 [] λs2 g2 w2 a=>?_;by_cases U:j<M.br.length
  .refine qI ((decide ((j:Int)<(lt.n:Int)))) true (O' (by omega)) ?_;obtain⟨l,s⟩:∃ l,M.br[j]?=some l:=⟨_,G' U⟩;obtain⟨o,t⟩:∃ o,y[j]?=some o:=⟨_,G' (by rw[i.len];exact U)⟩;have c:=u.br l (mG s);have H:=hLt.at_ j o l t s;have x:(y.map (pt · 0))[j]?=some (pt o 0):=by rw[mV,t];rfl
   obtain⟨b,W,_⟩:=hFz.at_ j (pt o 0) x;obtain⟨Q,O⟩:∃ Q,M.br.length-j=Q+1:=⟨M.br.length-j-1,by omega⟩;rw[O]at hA
   have N:=hA.mv c;rw[XQ s,qi]at hI
   refine qR [] 5 [] λs3 g3 w3 d=>qV 0 (pt b j) (i6 W j (by omega)) (qV 1 (pt o 0) (CP underlying143 rfl (((hFz.ch a).ch d).cell W x)) (qR [] 5 [] λs5 g5 w5 p=>Ag λK=>?_));have Y:MS mb tb ob nb g5 w5 A:=(hM.qH ((a.trans d).trans p) K.new);refine qG 2 TM [true] (KW Y (hB.ch ((((hC.n a).n d).n p)) Fq) hT o l (H.ch (((a.nil TM).n d).n p) Fq) c (hA.ab l.dst c.dst) (by have:=hA.wt;have:=Ec (A.ab l.dst).bu;have:=Q9 A c.dst;omega)) ?_;rintro e' w6 ⟨g6,rfl,R,q⟩;refine⟨_,g6,rfl,q,R.new,?_⟩;replace q:=q.ret (B:=w.heap.size);refine qR [] 3 [] λs7 g7 w7 C=>qV 0 (iv ((j:Int)+1)) (AK 20 (j:Int) underlying3 (by omega)) (qR [] 2 [] λs8 g8 w8 D=>qB [true] λz G K=>hJ (M.br.length-(j+1)) _ _ _ z _ (by omega) ⟨j+1,A.mv l,rfl,by omega,rfl,rfl,(R.qH (C.trans D) G.new),hI,(by rw[show M.br.length-(j+1)=Q by omega];exact N.1),((((((hFz.ch a).ch d).ch p).ch q).ch C).ch D),hLt.ch ((((((a.nil TM).n d).n p).trans (q)).n C).n D) Fq,((((((hC.n a).n d).n p).trans q).n C).n D)⟩ K)
  .refine qI ((decide ((j:Int)<(lt.n:Int)))) false (E' (by omega)) (qR [] 1 [] λs9 g9 w9 T=>?_);obtain rfl:j=M.br.length:=by omega
   rw[nN]at hI
   rw[<- hI];refine qE (.tuple #[]) λK=>⟨_,rfl,(hM.qH (a.trans T) K.new),((hC.n a).n T)⟩
end
end
end Go.Proofs.YtgbabbapcibnlabGreatDoor
