/- Part 8 of the walk. -/
import Derived.Deep.OwnRows
import Derived.Laws.OwnMore
import Derived.Maps.AppendAt
import Derived.Test.YtgbabbapcibnlabGreatDoorZ7
set_option maxRecDepth 100000
set_option maxHeartbeats 4000000
open Go.Proofs.Tryz
set_option linter.unusedVariables false
namespace Go.Proofs.YtgbabbapcibnlabGreatDoor
section
open Go.RowKit
section
def GE(t:Nat)(x:Int):Int:=if t%4=3 then x%16 else if t%4=0/\0<t then x/4*4 else x
def DM(l:List Int):List Int:=(List.range 16).map λt=>GE t (l.getD t 0)
theorem MD(l:List Int):(DM l).length=16:=by simp[DM]
theorem R5(l:List Int)(t:Nat)(h:t<16):(DM l).getD t 0=GE t (l.getD t 0):=by
 simp[DM,List.getD,List.getElem?_map,List.getElem?_range h]
theorem O5(t:Nat){x:Int}(h:0<=x/\x<256):0<=GE t x/\GE t x<256:=by
 unfold GE;split
 .omega
 .split<;>omega
variable{a key l m nonce:List Int}{e j n:Nat}{v:Value}{w:World}{xs:List Value}
theorem PD(h:∀ x∈l,0<=x/\x<256):∀ x∈DM l,0<=x/\x<256:=by
 intro x a;obtain⟨t,_,rfl⟩:=mA.1 a;exact O5 t (Al h t)
theorem RS(h:l.length=m.length)(c:∀ t,t<l.length->l.getD t 0=m.getD t 0):l=m:=by
 apply oA h;intro t a b;have:=c t a
 rwa [AY a,AY b]at this
theorem jm(x:Int)(a:0<=x)(b:x<256):bits .and .u8 x 15=x%16:=by
 obtain⟨n,rfl⟩:=mO a;rw[show(15:Int)=((15:Nat):Int)from rfl,u8_and_nat _ _ (by omega) (by omega),show(15:Nat)=2^4-1 from rfl,pu];omega
theorem Ru:∀ n:Fin 256,n.val &&& 252=n.val/4*4:=by decide +kernel
theorem fV(x:Int)(a:0<=x)(b:x<256):bits .and .u8 x 252=x/4*4:=by
 obtain⟨n,rfl⟩:=mO a;have e:n &&& 252=n/4*4:=Ru ⟨n,by omega⟩;rw[show(252:Int)=((252:Nat):Int)from rfl,u8_and_nat _ _ (by omega) (by omega),e];omega
structure Upper(l m:List Int)(j:Nat):Prop where
 len:m.length=16
 at_:∀ t,m.getD t 0=if t%4=3/\t<3+4*j then l.getD t 0%16 else l.getD t 0
theorem Upper.zero(h:l.length=16):Upper l l 0:=by
 refine⟨h,λt=>?_⟩;rw[if_neg (by omega)]
theorem Upper.succ(h:Upper l m j)(a:j<4):Upper l (m.set (3+4*j) (m.getD (3+4*j) 0%16)) (j+1):=by
 refine⟨by simpa using h.len,λt=>?_⟩;by_cases e:3+4*j=t
 .subst e;rw[AN (by rw[h.len];omega),h.at_,if_neg (by omega),if_pos (by omega)]
 .rw[AE e,h.at_];by_cases c:t%4=3/\t<3+4*j
  .rw[if_pos c,if_pos (by omega)]
  .rw[if_neg c,if_neg (by omega)]
structure Lower(l m:List Int)(j:Nat):Prop where
 len:m.length=16
 at_:∀ t,t<16->m.getD t 0=if t%4=3 then l.getD t 0%16 else if t%4=0/\0<t/\t<4+4*j then l.getD t 0/4*4 else l.getD t 0
theorem Upper.lower(h:Upper l m 4):Lower l m 0:=by
 refine⟨h.len,λt a=>?_⟩;rw[h.at_];by_cases c:t%4=3
 .rw[if_pos (by omega),if_pos c]
 .rw[if_neg (by omega),if_neg c,if_neg (by omega)]
theorem Lower.succ(h:Lower l m j)(b:j<3):Lower l (m.set (4+4*j) (m.getD (4+4*j) 0/4*4)) (j+1):=by
 refine⟨by simpa using h.len,λt a=>?_⟩;by_cases e:4+4*j=t
 .subst e;rw[AN (by rw[h.len];omega),h.at_ _ a,if_neg (by omega),if_neg (by omega),if_neg (by omega),if_pos (by omega)]
 .rw[AE e,h.at_ _ a];by_cases c:t%4=3
  .rw[if_pos c,if_pos c]
  .rw[if_neg c,if_neg c];by_cases d:t%4=0/\0<t/\t<4+4*j
   .rw[if_pos d,if_pos (by omega)]
   .rw[if_neg d,if_neg (by omega)]
theorem Lower.sC(h:Lower l m 3):m=DM l:=by
 refine RS (by rw[h.len,MD]) (λt a=>?_);rw[h.len]at a
 rw[h.at_ t a,R5 l t a,GE];by_cases c:t%4=3
 .rw[if_pos c,if_pos c]
 .rw[if_neg c,if_neg c];by_cases d:t%4=0/\0<t
  .rw[if_pos d,if_pos (by omega)]
  .rw[if_neg d,if_neg (by omega)]
theorem Upper.byte(h:Upper l m j)(a:∀ x∈l,0<=x/\x<256)(t:Nat):0<=m.getD t 0/\m.getD t 0<256:=by
 have:=Al a t;rw[h.at_];split<;>omega
theorem Lower.byte(h:Lower l m j)(a:∀ x∈l,0<=x/\x<256)(t:Nat)(b:t<16):0<=m.getD t 0/\m.getD t 0<256:=by
 have:=Al a t;rw[h.at_ t b];split
 .omega
 .split<;>omega
theorem RV(v:Value)(l:List Int)(w:World)(h:Sl w v l)(S:l.length=16) :
  Calls prog 192 #[v] w λe w'=>∃ r,e=.returned (.agg (Aj r))/\Lim 67108864 r/\val r%pp=leN (DM l)%pp/\Bw w w':=by
 have T:=h;obtain⟨⟨a,Y,rfl,hc,hn,Z⟩,M,A⟩:=h;have n:Hid (∀ x∈l,0<=x/\x<256):=A;clear Z A hn M;have W:Hid (l.length=16):=S;go_enter func192,ntmps192
 go_wp2_with (refine wpList_copy_splice rfl _ _ 24 24 rfl 5 underlying24 Ys _ _ _ _ _ _ rfl rfl (w.heap.size+1) 0 ((List.replicate 16 (0:Int)).map (Value.int .u8)) 284 (heap_alloc2_new _ _ _) (l.map (Value.int .u8)) (by rw[mw];exact(nm (show l.length<=16 by omega)).symm) (λhp=>⟨rfl,(T.af (((Below.refl _ _).alloc (A' _) _).alloc (by simp) _)).src (by simpa using hp)⟩) (by rw[mw,mw,nB];omega) (EY _) (w.heap.size+1) _ (Below.refl _ _) (A' _) ?_)
 intro F Q q;have E:F.heap[w.heap.size+1]?=some (.cells (byA l) 284 (0,0)):=by
  have R:F.heap[w.heap.size+1]?=some (.cells (splice ((List.replicate 16 (0:Int)).map (Value.int .u8)) 0 (l.map (Value.int .u8))).toArray 284 (0,0)):=Q.out;rw[IE,S]at R
  simpa[byA]using R
 have y:Bw w F:=(((Below.refl _ _).alloc (A' _) _).alloc (by simp) _).trans (q.mono (by omega));have C:F.heap[w.heap.size]?=some (.cells (Aj [0,0,0,0,0]) 272 (0,0)):=by
  rw[q.block _ (by omega)];exact heap_alloc2_old _ _ _
 clear Q q T;go_wp2_with fail
 go_loopw [4] (λi wr=>∃ (j:Nat) (m:List Int),j<=4/\i=.int .i64 (3+4*(j:Int))/\Upper l m j/\wr.heap[w.heap.size]?=some (.cells (Aj [0,0,0,0,0]) 272 (0,0))/\wr.heap[w.heap.size+1]?=some (.cells (byA m) 284 (0,0))/\Bw w wr) (λi _=>20-(intOf i).toNat)
 case atStart=>exact⟨0,l,by omega,rfl,Upper.zero W.out,C,E,y⟩
 case round =>
  clear C E y;obtain⟨j,m,hj,rfl,c,t,f,o⟩:=hrel;have N:=c.len;by_cases J:j<4
  .have K:3+4*(j:Int)<16:=by omega
   have H:=(cell_of_row _ _ (3+4*j) _ _ _ f).trans (Ik m (3+4*j) (by omega));have fl:=frozen_of_row _ _ (3+4*j) _ _ f;have b:=c.byte n.out (3+4*j);have u:Hid (Upper l (m.set (3+4*j) (m.getD (3+4*j) 0%16)) (j+1)):=c.succ J;have d:=jm (m.getD (3+4*j) 0) b.1 b.2;generalize m.getD (3+4*j) 0=x at H u b d;clear c;go_wp2
   go_roundw
   case rel =>
    refine⟨j+1,_,by omega,by go_num,u.out,?_,GD f _ _,?_⟩
    .exact(heap_setCell_other _ _ _ _ (by simp)).trans t
    .exact o.setCell (p:=⟨w.heap.size+1,3+4*j,none⟩) (by simp) _
   case measure=>simp[intOf];omega
  .have HJ:Hid (j=4):=by unfold Hid;omega
   have K:¬ 3+4*(j:Int)<16:=by omega
   have B:Lower l m 0:=by have:=HJ.out;subst this;exact c.lower
   clear c;go_wp2_with fail
   go_loopw [5] (λi wr=>∃ (j:Nat) (m:List Int),j<=3/\i=.int .i64 (4+4*(j:Int))/\Lower l m j/\wr.heap[w.heap.size]?=some (.cells (Aj [0,0,0,0,0]) 272 (0,0))/\wr.heap[w.heap.size+1]?=some (.cells (byA m) 284 (0,0))/\Bw w wr) (λi _=>20-(intOf i).toNat)
   case atStart=>exact⟨0,m,by omega,rfl,B,t,f,o⟩
   case round =>
    clear t f o B N;obtain⟨k,m,hk,rfl,c,t,f,o⟩:=hrel;have N:=c.len;by_cases L:k<3
    .have hki:4+4*(k:Int)<16:=by omega
     have H:=(cell_of_row _ _ (4+4*k) _ _ _ f).trans (Ik m (4+4*k) (by omega));have fl:=frozen_of_row _ _ (4+4*k) _ _ f;have b:=c.byte n.out (4+4*k) (by omega);have u:Hid (Lower l (m.set (4+4*k) (m.getD (4+4*k) 0/4*4)) (k+1)):=c.succ L;have d:=fV (m.getD (4+4*k) 0) b.1 b.2;generalize m.getD (4+4*k) 0=x at H u b d;clear c;go_wp2
     go_roundw
     case rel =>
      refine⟨k+1,_,by omega,by go_num,u.out,?_,GD f _ _,?_⟩
      .exact(heap_setCell_other _ _ _ _ (by simp)).trans t
      .exact o.setCell (p:=⟨w.heap.size+1,4+4*k,none⟩) (by simp) _
     case measure=>simp[intOf];omega
    .have hki:¬ 4+4*(k:Int)<16:=by omega
     have V:Hid (k=3):=by unfold Hid;omega
     have s:m=DM l:=by have:=V.out;subst this;exact c.sC
     have s3:Sl wr (.slice (some ⟨w.heap.size+1,0,none⟩) 16 16) m:=by
      refine Sl.rowOf f N (by omega) ?_;rw[s];exact PD n.out
     have X:Hid (m=DM l):=s;have G:Hid _:=s3;have O:w.heap.size<wr.heap.size:=(U'.1 t).1;clear c s3 s f;go_wp2_with fail
     refine(QF _ m _ G.out (by omega)).mono ?_;rintro e U ⟨r,rfl,P,vr,z⟩;have D:=(z.block w.heap.size O).trans t;have I:Bw w U:=o.trans (z.mono o.size);have g:=De P.1;go_wp2_with ((with_reducible (refine As ?_));(refine wpList_store_row rfl 272 _ _ rfl (w.heap.size) _ rfl rfl 272 _ D g (by rw[Ak,Ak,P.1];rfl) (BG r) ?_))
     exact bodyPost_ret (v:=.agg (Aj r)) (results_cell_row rfl _ _ (w.heap.size) 272 _ (0,0) _ rfl (setRow_heap U (w.heap.size) _ _ 272 _ D) underlying272 rfl g) rfl ⟨r,rfl,P,by rw[vr,X.out],Bj I (A' _) _⟩
def AL(v:Int)(i:Nat):Int:=v/256^i%256
theorem Gc(v:Int)(i:Nat):0<=AL v i/\AL v i<256:=by unfold AL;omega
def leB(n:Nat)(v:Int):List Int:=(List.range n).map (AL v)
theorem D1(n:Nat)(v:Int):(leB n v).length=n:=by simp[leB]
theorem Iw(n:Nat)(v:Int):∀ x∈leB n v,0<=x/\x<256:=by
 intro x a;obtain⟨j,_,rfl⟩:=mA.1 a;exact Gc v j
def FM(S:Nat->Int):Nat->Int
 | 0=>0
 | k+1=>FM S k+S k*256^k
def Il(S:Nat->Int)(k:Nat):Int:=FM S k/256^k
theorem LF(k:Nat):(0:Int)<256^k:=Int.pow_pos (by omega)
theorem Nn(S:Nat->Int):Il S 0=0:=by simp[Il,FM]
theorem Nm(S:Nat->Int)(k:Nat):Il S (k+1)=(Il S k+S k)/256:=by
 have a:=LF k;unfold Il;rw[FM,pz,<- pa (po a),Int.add_mul_ediv_right _ _ (Int.ne_of_gt a)]
theorem R0(S:Nat->Int)(h:∀ j,0<=S j/\S j<1000)(k:Nat):0<=Il S k/\Il S k<256:=by
 induction k with
 | zero=>rw[Nn];omega
 | succ k ih=>rw[Nm];have:=h k;omega
theorem Wt(S:Nat->Int)(k d:Nat):∃ Z,FM S (k+d)=FM S k+256^k*Z:=by
 induction d with
 | zero=>exact⟨0,by simp⟩
 | succ d ih =>
  obtain⟨Z,a⟩:=ih;refine⟨Z+S (k+d)*256^d,?_⟩;rw[<- m8,FM,a,oS]
  grind
theorem KQ(v Z:Int)(n k:Nat)(h:k<n):AL (v+256^n*Z) k=AL v k:=by
 have a:=LF k;obtain⟨d,rfl⟩:∃ d,n=k+(1+d):=⟨n-k-1,by omega⟩;unfold AL;rw[oS,oS,show(256:Int)^k*(256^1*256^d)*Z=256^k*(256*(256^d*Z))by grind,Int.add_mul_ediv_left _ _ (Int.ne_of_gt a)];omega
theorem UU(S:Nat->Int)(n k:Nat)(h:k<n):(Il S k+S k)%256=AL (FM S n) k:=by
 have b:=LF k;obtain⟨d,rfl⟩:∃ d,n=(k+1)+d:=⟨n-(k+1),by omega⟩;obtain⟨Z,a⟩:=Wt S (k+1) d;rw[a,KQ _ _ _ _ (by omega),AL,FM,Int.add_mul_ediv_right _ _ (Int.ne_of_gt b)];rfl
theorem ai(S T:Nat->Int)(k:Nat):FM (λj=>S j+T j) k=FM S k+FM T k:=by
 induction k with
 | zero=>rfl
 | succ k ih=>simp only[FM,ih];grind
theorem ao(l:List Int)(k:Nat):FM (λj=>l.getD j 0) k=leP l k:=by
 induction k with
 | zero=>rfl
 | succ k ih=>simp only[FM,leP,ih]
theorem Ts(v:Int)(n:Nat):∃ Z,v=FM (AL v) n+256^n*Z/\Z=v/256^n:=by
 induction n with
 | zero=>exact⟨v,by simp[FM],by simp⟩
 | succ n ih =>
  obtain⟨Z,b,a⟩:=ih;refine⟨Z/256,?_,?_⟩
  .rw[FM,AL,<- a,pz];have:Z=Z%256+256*(Z/256):=by omega
   grind
  .rw[a,pz,pa (po (LF n))]
theorem Xo(v:Int)(s:List Int)(k:Nat)(a:k<16)(b:s.length<=16) :
  (Il (λj=>AL v j+s.getD j 0) k+(AL v k+s.getD k 0))%256=AL (v+leN s) k:=by
 rw[UU (λj=>AL v j+s.getD j 0) 16 k a,ai (AL v) (λj=>s.getD j 0),ao,Y9 16 b];obtain⟨Z,c,_⟩:=Ts v 16;have e:v+leN s=FM (AL v) 16+leN s+256^16*Z:=by omega
 rw[e,KQ _ _ _ _ a]
def II(v:Int)(k:Nat):List Int:=(List.range 16).map λj=>if j<k then AL v j else 0
theorem QY(v:Int)(k:Nat):(II v k).length=16:=by simp[II]
theorem W7(v:Int):II v 0=List.replicate 16 0:=rfl
theorem aE(v:Int):II v 16=leB 16 v:=by
 unfold II leB;refine pH λj a=>?_;rw[if_pos (nW.1 a)]
theorem W6(v:Int)(k:Nat)(_hk:k<16):(II v k).set k (AL v k)=II v (k+1):=by
 apply oA (by simp[II]);intro j a b;rw[nS];simp only[II,List.getElem_map,List.getElem_range];by_cases e:k=j
 .subst e;rw[if_pos rfl,if_pos (by omega)]
 .rw[if_neg e];by_cases c:j<k
  .rw[if_pos c,if_pos (by omega)]
  .rw[if_neg c,if_neg (by omega)]
theorem SJ(a b:Int)(k:Nat)(m:Int)(d:m=2^k)(g:0<=a)(c:a<m)(h:0<=b)(i:a+b*m<18446744073709551616):bits .or .u64 a (b*m)=a+b*m:=by
 obtain⟨x,rfl⟩:=mO g;obtain⟨y,rfl⟩:=mO h;have e:(y:Int)*m=((2^k*y:Nat):Int):=by rw[d,qe,oG,Int.mul_comm];rfl
 rw[e]at i ⊢
 have j:x<2^k:=by
  have:((x:Nat):Int)<((2^k:Nat):Int):=by rw[oG];rw[d]at c;exact c
  omega
 have f:=oL j y;rw[u64_or_nat _ _ (by omega) (by omega),Nat.or_comm,<- f];omega
theorem iD{a b:Int}(h:a=b):Ending.returned (.int .u8 a)=.returned (.int .u8 b):=by rw[h]
theorem Ry(n:List Int)(i:Nat)(w:World)(o:Lim 67108864 n)(B:i<16) :
  Calls prog 202 #[.agg (Aj n),.int .i64 i] w λe w'=>e=.returned (.int .u8 (AL (val n) i))/\Bw w w':=by
 obtain⟨a,b,c,d,e,rfl,⟨q,r⟩,⟨s,t⟩,⟨u,v⟩,⟨x,y⟩,⟨z,A⟩⟩:=o.split;have f:(w.alloc (.cells (Aj [a,b,c,d,e]) 272 (0,0))).heap[w.heap.size]?=some (.cells (Aj [a,b,c,d,e]) 272 (0,0)):=heap_alloc_new _ _;have h:=(cell_of_row _ _ 0 _ _ _ f).trans (At _ 0 (by simp));have j:=(cell_of_row _ _ 1 _ _ _ f).trans (At _ 1 (by simp));have k:=(cell_of_row _ _ 2 _ _ _ f).trans (At _ 2 (by simp));have l:=(cell_of_row _ _ 3 _ _ _ f).trans (At _ 3 (by simp));have m:=(cell_of_row _ _ 4 _ _ _ f).trans (At _ 4 (by simp));simp only[mJ,mU]at h j k l m;have g:Hid (val [a,b,c,d,e]=a+67108864*b+4503599627370496*c+302231454903657293676544*d+20282409603651670423947251286016*e):=Du a b c d e;generalize Aj [a,b,c,d,e]=arr at h j k l m ⊢;generalize val [a,b,c,d,e]=V at g ⊢;clear o f;obtain rfl|rfl|rfl|rfl|rfl|rfl|rfl|rfl|rfl|rfl|rfl|rfl|rfl|rfl|rfl|rfl:i=0\/i=1\/i=2\/i=3\/i=4\/i=5\/i=6\/i=7\/i=8\/i=9\/i=10\/i=11\/i=12\/i=13\/i=14\/i=15:=by omega
 all_goals
  go_enter func202,ntmps202
  go_wp2
  go_ret;refine⟨iD ?_,(Below.refl _ _).alloc (A' _) _⟩;have p:=g.out;clear g h j k l m;unfold AL
  first
   | rw[SJ _ _ 2 4 rfl (by omega) (by omega) (by omega) (by omega)]
   | rw[SJ _ _ 4 16 rfl (by omega) (by omega) (by omega) (by omega)]
   | rw[SJ _ _ 6 64 rfl (by omega) (by omega) (by omega) (by omega)]
   | skip
  subst p;simp only[Int.reducePow];omega
theorem MX{P:Program}{e:Nat}{d:Array Oper}{K:Act->World->Prop}{Q:Exit->Act->World->Prop}{a:Act}(R:World->Prop){A:Act}(c:∀ K':Act->World->Prop,Hid (∀ W2,R W2->K' A W2)->(Code.region e d true).wp P (Exit.then K' Q) a w)(b:∀ W2,R W2->K A W2):(Code.region e d true).wp P (Exit.then K Q) a w:=c K b
theorem Pp(nl:List Int)(v:Value)(s:List Int)(w:World)(h:Sl w v s)(Z:s.length=16)(hn:Lim 67108864 nl) :
  Calls prog 190 #[.agg (Aj nl),v] w λe w'=>∃ v',e=.returned v'/\Sl w' v' (leB 16 (val nl+leN s))/\Bw w w':=by
 obtain⟨⟨a,a3,rfl,hc,a1,O⟩,a0,r⟩:=h;rcases O with rfl|⟨B,off,rfl,hB,hcell⟩
 .simp at Z
 have HC:Hid (∀ i,i<16->w.cell? ⟨B,off+i,none⟩=some (.int .u8 (s.getD i 0))):=λi hi=>hcell i (by omega);have n:Hid (∀ x∈s,0<=x/\x<256):=r;have o:Hid (s.length=16):=Z;rw[Z]at hc ⊢
 clear hcell r a1 a0;obtain⟨J,K,L,M,N,rfl,_⟩:=hn.split;obtain⟨V,X⟩:∃ V,val [J,K,L,M,N]=V:=⟨_,rfl⟩;have HV:Hid (val [J,K,L,M,N]=V):=X;rw[X];clear X;obtain⟨i0,z,A,C,D⟩:=info_parts Av;go_enter func190,ntmps190
 go_wp2_with (at_make;refine wpList_make_row _ rfl _ _ 24 rfl 5 i0 (.int .u8 0) underlying24 z A C rfl _ _ 16 rfl rfl (by rw[D];omega) (by omega) ?_)
 clear z A C D
 go_loopw [6,11] (λcv i wr=>∃ (k:Nat),k<=16/\i=.int .i64 k/\cv=.int .i64 (Il (λj=>AL V j+s.getD j 0) k)/\wr.heap[w.heap.size]?=some (.cells (Aj [J,K,L,M,N]) 272 (0,0))/\wr.heap[w.heap.size+1]?=some (.cells (byA (II (V+leN s) k)) 5 (0,0))/\Bw w wr) (λ_ i _=>16-(intOf i).toNat)
 case atStart =>
  refine⟨0,by omega,rfl,by rw[Nn],?_,?_,?_⟩
  .exact heap_alloc2_old _ _ _
  .have e:madeCells #[Value.int .u8 0] 16=byA (II (V+leN s) 0):=by rw[W7];kernel_rfl
   rw[e];exact heap_alloc2_new _ _ _
  .exact((Below.refl _ _).alloc (A' _) _).alloc (by simp) _
 case round =>
  obtain⟨k,hk,rfl,rfl,f,g,P⟩:=hrel;by_cases b:k<16
  .have hki:(k:Int)<16:=by omega
   have E:=(cell_of_row _ _ 0 _ _ _ f).trans (At _ 0 (by simp));have F:=(cell_of_row _ _ 1 _ _ _ f).trans (At _ 1 (by simp));have G:=(cell_of_row _ _ 2 _ _ _ f).trans (At _ 2 (by simp));have H:=(cell_of_row _ _ 3 _ _ _ f).trans (At _ 3 (by simp));have I:=(cell_of_row _ _ 4 _ _ _ f).trans (At _ 4 (by simp));simp only[mJ,mU]at E F G H I;have a2:w.heap.size+1<wr.heap.size:=(U'.1 g).1;have U:B<wr.heap.size:=by omega
   have ch:=(P.cell (p:=⟨B,off+k,none⟩) hB).trans (HC.out k b);have t:∀ j,0<=AL V j+s.getD j 0/\AL V j+s.getD j 0<1000:=λj=>by
    have R:=Gc V j;have S:=Al n.out j;omega
   have u:=R0 (λj=>AL V j+s.getD j 0) t k;have d:Hid (Il (λj=>AL V j+s.getD j 0) (k+1)=(Il (λj=>AL V j+s.getD j 0) k+(AL V k+s.getD k 0))/256):=Nm _ k;have c:Hid ((Il (λj=>AL V j+s.getD j 0) k+(AL V k+s.getD k 0))%256=AL (V+leN s) k):=Xo V s k b (by rw[o.out];omega);have R:=Gc V k;have S:=Al n.out k;have l:=Ry [J,K,L,M,N] k;rw[HV.out]at l
   have m:Hid (∀ W,Calls prog 202 #[.agg (Aj [J,K,L,M,N]),.int .i64 k] W λe w'=>e=.returned (.int .u8 (AL V k))/\Bw W w'):=λW=>l W hn b;have HT:Hid _:=g;have HR:Hid _:=f;have HB:Hid _:=P;clear l t g f P;have a5:=QY (V+leN s) k;have Q:Hid ((II (V+leN s) k).set k (AL (V+leN s) k)=II (V+leN s) (k+1)):=W6 _ k b;generalize Il (λj=>AL V j+s.getD j 0) k=cy at d c u;generalize AL V k=x at d c R m;generalize s.getD k 0=y at d c S ch;obtain⟨x1,x2⟩:=R;obtain⟨y1,y2⟩:=S;obtain⟨z1,z2⟩:=u;go_wp2_with fail
   apply MX (λW=>Bw wr W)
   .intro K2 HK2
    go_region_with (go_at_call 202;refine(m.out _).mono ?_;rintro e w2 ⟨rfl,q⟩;have a4:=(q.cell (p:=⟨B,off+k,none⟩) U).trans ch)
    all_goals exact HK2.out _ ((Below.refl _ _).drew.trans q)
   intro W Y;have g:=(Y.block _ a2).trans HT.out;have f:=(Y.block _ (by omega)).trans HR.out;have ct:=(cell_of_row _ _ k _ _ _ g).trans (Ik _ k (by omega));have ft:=frozen_of_row _ _ k _ _ g;have T:Bw w W:=HB.out.trans (Y.mono HB.out.size);clear E F G H I ch;generalize (II (V+leN s) k).getD k 0=c0 at ct;go_wp2
   go_roundw
   case rel =>
    refine⟨k+1,by omega,by go_num,?_,?_,?_,?_⟩
    .rw[d.out]
    .exact(heap_setCell_other _ _ _ _ (by simp)).trans f
    .have O:=GD g k (AL (V+leN s) k);rw[Q.out,<- c.out]at O
     exact O
    .exact T.setCell (p:=⟨w.heap.size+1,k,none⟩) (by simp) _
   case measure=>simp[intOf];omega
  .have hki:¬ (k:Int)<16:=by omega
   have HK:Hid (k=16):=by unfold Hid;omega
   go_wp2
   go_ret;have hK:=HK.out;subst hK;rw[aE]at g
   exact⟨_,rfl,Sl.rowOf g (D1 _ _) (by rw[D1];omega) (Iw _ _),P⟩
def Wx(key data:List Int):List Int:=leB 16 (fM (leN (DM (key.take 16))) data+leN (key.drop 16))
theorem QW(key a:List Int):(Wx key a).length=16:=D1 _ _
theorem Wy(key a:List Int):∀ x∈Wx key a,0<=x/\x<256:=Iw _ _
theorem Sl.rN(h:Sl w v l):∃ a c,v=.slice a l.length c:=by
 obtain⟨⟨a,b,e,_⟩,_⟩:=h;exact⟨a,b,e⟩
theorem iU(r q:Value)(key a:List Int)(w:World)(g:Sl w r key)(m:Sl w q a)(lk:key.length=32)(B:a.length<=4000) :
  Calls prog 179 #[r,q] w λe w'=>∃ v',e=.returned (.tuple #[v',.int .i64 0])/\Sl w' v' (Wx key a)/\Bw w w':=by
 obtain⟨k,l,rfl⟩:=g.rN;obtain⟨ad,K,rfl⟩:=m.rN;rw[lk]at g ⊢
 obtain⟨s,u,c,o⟩:=g.qp 16 (by omega);obtain⟨t,v,d,p⟩:=g.from 16 (by omega);have x:∀ W,(Instr.slice 24 (.slice k 32 l) none (some (.int .i64 16)) none).run prog W=.ok (.slice s 16 u) W:=c;have y:∀ W,(Instr.slice 24 (.slice k 32 l) (some (.int .i64 16)) none none).run prog W=.ok (.slice t 16 v) W:=d;clear c d;have lt:(key.take 16).length=16:=by rw[X'];omega
 have n:(key.drop 16).length=16:=by rw[mm];omega
 have C:¬ (4000:Int)<(a.length:Int):=by omega
 have h:Hid (Wx key a=leB 16 (fM (leN (DM (key.take 16))) a+leN (key.drop 16))):=rfl;generalize key.take 16=K1 at o lt h;generalize key.drop 16=K2 at p n h;clear g lk;have j:Hid (a.length<=4000):=B;go_enter func179,ntmps179
 go_wp2_with fail
 go_region_with (first
  | (go_at_call 192;refine(RV _ K1 _ (o.af ((Below.refl _ _).drew)) lt).mono ?_;rintro e L ⟨E,rfl,z,G,b⟩)
  | (go_at_call 191;refine(OF E (leN (DM K1)) _ a _ (m.af ((Below.refl _ _).drew.trans b)) j.out z G).mono ?_;rintro e J ⟨D,rfl,A,H,f⟩)
  | (go_at_call 190;refine(Pp D _ K2 _ (p.af (((Below.refl _ _).drew.trans b).trans (f.mono b.size))) n A).mono ?_;rintro e M ⟨I,rfl,F,i⟩))
 all_goals
  go_wp2
  go_ret2
  refine⟨I,rfl,?_,?_⟩
  .rw[h.out,<- H];exact F
  .have b3:Bw w J:=((Below.refl _ _).drew.trans b).trans (f.mono b.size);exact b3.trans (i.mono b3.size)
def gap(n:Nat):Nat:=(16-n%16)%16
def Ex(l:List Int):List Int:=l++List.replicate (gap l.length) 0
theorem E9(l:List Int):(Ex l).length=l.length+gap l.length:=by rw[Ex,H',nB]
theorem Hv(n:Nat):gap n<16:=by unfold gap;omega
theorem Ua(n:Nat):(n+gap n)%16=0:=by unfold gap;omega
theorem Vp(n j:Nat)(h:j<gap n):¬ (n+j)%16=0:=by unfold gap at h;omega
theorem cI(n m:Nat)(h:n%16=0):gap (n+m)=gap m:=by unfold gap;omega
theorem NQ(h:∀ x∈l,0<=x/\x<256):∀ x∈Ex l,0<=x/\x<256:=by
 intro x a;rcases P'.1 a with h1|h1
 .exact h x h1
 .rw[(oV.1 h1).2];omega
theorem Ze(a s:List Int):Ex (Ex a++s)=Ex a++Ex s:=by
 have h:(Ex a).length%16=0:=by rw[E9];exact Ua _
 rw[Ex,H',cI _ _ h,mf];rfl
theorem Y8(k:Nat)(v:Int):leB (k+1) v=leB k v++[AL v k]:=by
 simp[leB,List.range_succ]
def Gm(a s:List Int):List Int:=Ex a++Ex s++leB 8 (a.length:Int)++leB 8 (s.length:Int)
theorem Iv(a s:List Int):(Gm a s).length=a.length+gap a.length+(s.length+gap s.length)+8+8:=by
 simp only[Gm,H',E9,D1]
theorem Sr{s:List Int}(b:∀ x∈a,0<=x/\x<256)(c:∀ x∈s,0<=x/\x<256):∀ x∈Gm a s,0<=x/\x<256:=by
 intro x hx;rcases P'.1 hx with hx|hx
 .rcases P'.1 hx with hx|hx
  .rcases P'.1 hx with hx|hx
   .exact NQ b x hx
   .exact NQ c x hx
  .exact Iw _ _ x hx
 .exact Iw _ _ x hx
def Er(key nonce a s:List Int):List Int:=Wx ((CG (BX key (BitVec.ofNat 32 0) nonce)).take 32) (Gm a s)
theorem IF(key b a s:List Int):(Er key b a s).length=16:=QW _ _
theorem LZ(key b a s:List Int):∀ x∈Er key b a s,0<=x/\x<256:=Wy _ _
def ED(key nonce p:List Int):List Int:=Qm (BX key (BitVec.ofNat 32 1) nonce) p
theorem FK(key a p:List Int):(ED key a p).length=p.length:=Qn _ _
def Gz(key nonce a p:List Int):List Int:=ED key nonce p++Er key nonce a (ED key nonce p)
theorem Pg(key b a p:List Int):(Gz key b a p).length=p.length+16:=by
 rw[Gz,H',FK,IF]
theorem JX(v:Value)(l:List Int)(B:Nat)(w:World)(p:w.ownsRow B 5 1 v l.length (l.map (Value.int .u8)))(E:B<=w.heap.size)(J:l.length<=100000) :
  Calls prog 193 #[v] w λe w'=>∃ v',e=.returned v'/\w'.ownsRow B 5 1 v' (Ex l).length ((Ex l).map (Value.int .u8))/\Below B w w':=by
 have r:Hid (Ex l=l++List.replicate (gap l.length) 0):=rfl;have F:=Hv l.length;have s:Hid (∀ j,j<gap l.length->¬ (l.length+j)%16=0):=λj x=>Vp _ _ x;have q:Hid ((l.length+gap l.length)%16=0):=Ua _;obtain⟨a0,A,rfl⟩:=E8 p;generalize gap l.length=G at r F s q;go_enter func193,ntmps193
 go_wp2_with fail
 go_loopw [0] (λv wr=>∃ (j:Nat) (a:Option Addr) (f:Nat),j<=G/\v=.slice a (l.length+j) f/\wr.ownsRow B 5 1 v (l++List.replicate j 0).length ((l++List.replicate j 0).map (Value.int .u8))/\Below B w wr) (λv _=>l.length+G-YC v)
 case atStart=>exact⟨0,a0,A,by omega,rfl,by simpa using p,Below.refl _ _⟩
 case round =>
  clear p;obtain⟨j,a,f,x,rfl,b,d⟩:=hrel;have h:=b.lt;by_cases o:j<G
  .have t:=s.out j o;have u:¬ ((l.length:Int)+j)%16=0:=by omega
   go_wp2_with (at_builtin;refine Aa _ rfl _ _ 24 rfl B 5 underlying24 Av _ _ rfl rfl (l++List.replicate j 0) [0] (b.alloc _) (Sl.one _ _ _ rfl (by omega)) (by simp;omega) (by have:=d.size;simp;omega) ?_)
   intro I y i g;have c:y.ownsRow B 5 1 I (l++List.replicate (j+1) 0).length ((l++List.replicate (j+1) 0).map (Value.int .u8)):=by rw[<- LS];simpa using i
   have n:Below B w y:=(d.alloc (me E d.size) _).grown g (by have:=d.size;simp;omega) (λk H=>(h k H).1);obtain⟨z,C,m⟩:=E8 c;rw[H',nB]at m
   subst m;clear i g b h d t u;go_wp2
   go_roundw
   case rel=>exact⟨j+1,z,C,by omega,rfl,c,n⟩
   case measure=>simp[YC];omega
  .have HJ:Hid (G=j):=by unfold Hid;omega
   have D:=q.out;have t:((l.length:Int)+j)%16=0:=by have:=HJ.out;omega
   have u:(((l.length:Int)+j)%16 != 0)=false:=by simp;omega
   clear D;go_wp2
   go_ret;refine⟨_,rfl,?_,d⟩;rw[r.out,HJ.out];exact b
theorem G9(v:Value)(l:List Int)(n:Nat)(B:Nat)(w:World)(r:w.ownsRow B 5 1 v l.length (l.map (Value.int .u8)))(A:B<=w.heap.size)(G:l.length<=100000)(H:n<=100000) :
  Calls prog 194 #[v,.int .i64 n] w λe w'=>∃ v',e=.returned v'/\w'.ownsRow B 5 1 v' (l++leB 8 (n:Int)).length ((l++leB 8 (n:Int)).map (Value.int .u8))/\Below B w w':=by
 go_enter func194,ntmps194
 go_wp2_with fail
 go_loopw [0,1,5] (λv s i wr=>∃ k:Nat,k<=8/\i=.int .i64 k/\s=.int .i64 ((n:Int)/256^k)/\wr.ownsRow B 5 1 v (l++leB k (n:Int)).length ((l++leB k (n:Int)).map (Value.int .u8))/\Below B w wr) (λ_ _ i _=>8-(intOf i).toNat)
 case atStart=>exact⟨0,by omega,rfl,by simp,by simpa[leB]using r,Below.refl _ _⟩
 case round =>
  clear r;obtain⟨k,q,rfl,rfl,a,c⟩:=hrel;have h:=a.lt;by_cases C:k<8
  .have hki:(k:Int)<8:=by omega
   obtain⟨x,d⟩:∃ x:Int,(n:Int)/256^k=x:=⟨_,rfl⟩;have t:(0:Int)<256^k:=LF k;have D:0<=x:=by rw[<- d];exact Int.ediv_nonneg (by omega) (by omega)
   have E:x<=100000:=by rw[<- d];have:=Int.ediv_le_self (256^k) (show(0:Int)<=n by omega);omega
   have z:Hid ((n:Int)/256^(k+1)=x/256):=by unfold Hid;rw[pz,<- pa (po t),d]
   have b:Hid (x%256=AL n k):=by unfold Hid AL;rw[d]
   have g:=D1 k (n:Int);have o:Hid (leB (k+1) (n:Int)=leB k n++[AL n k]):=Y8 k _;rw[d];clear d t;generalize leB k (n:Int)=pre at a o g;generalize AL (n:Int) k=y at b o;go_wp2_with (at_builtin;refine Aa _ rfl _ _ 24 rfl B 5 underlying24 Av _ _ rfl rfl (l++pre) [y] (a.alloc _) (Sl.sj _ _ _ _ rfl ?_ ?_) (by simp;omega) (by have:=c.size;simp;omega) ?_)
   .have:=b.out;omega
   .have:=b.out;omega
   intro F u j f;have m:u.ownsRow B 5 1 F (l++(pre++[y])).length ((l++(pre++[y])).map (Value.int .u8)):=by rw[<- mf];simpa[g]using j
   have p:Below B w u:=(c.alloc (me A c.size) _).grown f (by have:=c.size;simp;omega) (λk q=>(h k q).1);clear j f a h c;go_wp2
   go_roundw
   case rel=>exact⟨k+1,by omega,by go_num,by rw[z.out],by rw[o.out];exact m,p⟩
   case measure=>simp[intOf];omega
  .obtain rfl:k=8:=by omega
   go_wp2
   go_ret;exact⟨_,rfl,a,c⟩
theorem Y5(O P:Value)(a s:List Int)(w:World)(z:Sl w O a)(B:Sl w P s)(U:a.length<=10000)(V:s.length<=10000) :
  Calls prog 180 #[O,P] w λe w'=>∃ v',e=.returned v'/\Sl w' v' (Gm a s)/\Bw w w':=by
 have f:Hid (Gm a s=Ex (Ex a++s)++leB 8 (a.length:Int)++leB 8 (s.length:Int)):=by unfold Hid;rw[Ze];rfl
 have R:Hid (∀ x∈Gm a s,0<=x/\x<256):=Sr z.byte B.byte;have Q:Hid ((Gm a s).length<=30000):=by unfold Hid;rw[Iv];have:=Hv a.length;have:=Hv s.length;omega
 have H:(Ex a).length<=11000:=by rw[E9];have:=Hv a.length;omega
 have i:(Ex (Ex a++s)).length<=30000:=by rw[E9,H'];have:=Hv ((Ex a).length+s.length);omega
 obtain⟨aa,ca,rfl⟩:=z.shape;obtain⟨S,cs,rfl⟩:=B.shape;generalize L:a.length=n at U f z ⊢;generalize K:s.length=m at V f B ⊢;have l:Hid (a.length=n):=L;have j:Hid (s.length=m):=K;clear L K;go_enter func180,ntmps180
 go_wp2_with (at_builtin;refine Aa _ rfl _ _ 24 rfl w.heap.size 5 underlying24 Av _ _ rfl rfl [] a (World.ownsRow_nil _ _ _ _) z (by have:=l.out;simp;omega) (A' _) ?_)
 intro M I c p;have C:Bw w I:=(Below.refl _ _).grown p (A' _) (by simp[Value.ownBlock]);replace c:I.ownsRow w.heap.size 5 1 M a.length (a.map (Value.int .u8)):=by simpa using c
 clear p;go_wp2_with fail
 refine(JX M a w.heap.size I c C.size (by have:=l.out;omega)).mono ?_;rintro e w2 ⟨v2,rfl,d,g⟩;replace g:=C.trans g;clear c C;have v:=B.af g;have r:=d.lt;generalize Ex a=A at f H i d;go_wp2_with (at_builtin;refine Aa _ rfl _ _ 24 rfl w.heap.size 5 underlying24 Av _ _ rfl rfl A s d v (by have:=j.out;omega) g.size ?_)
 intro N J b q;have D:Bw w J:=g.grown q g.size (λk T=>(r k T).1);clear q r d g v;replace b:J.ownsRow w.heap.size 5 1 N (A++s).length ((A++s).map (Value.int .u8)):=by simpa using b
 have F:(A++s).length<=21000:=by rw[H'];have:=j.out;omega
 generalize A++s=AS at f i b F;go_wp2_with fail
 refine(JX N AS w.heap.size J b D.size (by omega)).mono ?_;rintro e Z ⟨W,rfl,h,o⟩;replace o:=D.trans o;clear b D;generalize Ex AS=X at f i h;go_wp2_with fail
 refine(G9 W X n w.heap.size Z h o.size (by omega) (by omega)).mono ?_;rintro e w5 ⟨Y,rfl,t,y⟩;replace y:=o.trans y;have G:(X++leB 8 (n:Int)).length<=30008:=by rw[H',D1];omega
 clear h o;generalize X++leB 8 (n:Int)=X5 at f G t;go_wp2_with fail
 refine(G9 Y X5 m w.heap.size w5 t y.size (by omega) (by omega)).mono ?_;rintro e w6 ⟨v6,rfl,u,E⟩;replace E:=y.trans E;rw[<- f.out]at u
 go_wp2
 go_ret;exact⟨_,rfl,Sl.pd u (by have:=Q.out;omega) R.out,E⟩
def GV(key nonce a:List Int):Bool:=decide (key.length=32)&&decide (nonce.length=12)&&decide (a.length<=256)
theorem GJ(h i g:Value)(key b a:List Int)(w:World)(d:Sl w h key)(f:Sl w i b)(c:Sl w g a) :
  Calls prog 151 #[h,i,g] w λe w'=>e=.returned (.bool (GV key b a))/\w'=w:=by
 have j:=d.len;have k:=f.len;have l:=c.len;obtain⟨n,r,rfl⟩:=d.shape;obtain⟨o,s,rfl⟩:=f.shape;obtain⟨m,q,rfl⟩:=c.shape;unfold GV;generalize key.length=n1 at j d ⊢;generalize b.length=n2 at k f ⊢;generalize a.length=n3 at l c ⊢;clear d f c;by_cases p:(n1:Int)=32
 .by_cases c2:(n2:Int)=12
  .by_cases c3:(n3:Int)<=256
   .go_enter func151,ntmps151
    go_wp2
    go_ret;refine⟨Ax ?_,rfl⟩;simp;omega
   .go_enter func151,ntmps151
    go_wp2
    go_ret;refine⟨Ax ?_,rfl⟩;simp;omega
  .go_enter func151,ntmps151
   go_wp2
   go_ret;refine⟨Ax ?_,rfl⟩;simp;omega
 .go_enter func151,ntmps151
  go_wp2
  go_ret;refine⟨Ax ?_,rfl⟩;simp;omega
theorem Xl(b d:Value)(key a:List Int)(x:Int)(c:Nat)(j:x=(c:Int))(w:World)(g:Sl w b key)(h:Sl w d a)(lk:key.length=32)(k:a.length=12)(f:c<=1073741824)(i:Dj w) :
  Calls prog 178 #[b,.int .i64 x,d] w λe w'=>∃ v',e=.returned (.tuple #[v',.int .i64 0])/\Got w w' v' (CG (BX key (BitVec.ofNat 32 c) a)):=by
 subst j;exact Xm b d key a c w g h lk k f i
theorem Pj(u v D E:Value)(key b a s:List Int)(w:World)(y:Sl w u key)(z:Sl w v b)(x:Sl w D a)(A:Sl w E s)(lk:key.length=32)(B:b.length=12)(M:a.length<=256)(N:s.length<=2000)(L:Dj w) :
  Calls prog 153 #[u,v,D,E] w λe w'=>∃ v',e=.returned (.tuple #[v',.int .i64 0])/\Sl w' v' (Er key b a s)/\Bw w w':=by
 have o:Hid (Er key b a s=Wx ((CG (BX key (BitVec.ofNat 32 0) b)).take 32) (Gm a s)):=rfl;have g:(Gm a s).length<=4000:=by rw[Iv];have:=Hv a.length;have:=Hv s.length;omega
 go_enter func153,ntmps153
 go_wp2_with fail
 refine(Xl u v key b 0 0 rfl w y z lk B (by omega) L).mono ?_;rintro e T ⟨S,rfl,p⟩;have j:=p.sl;have k:=p.rY;clear p;have d:=EI (BX key (BitVec.ofNat 32 0) b);generalize CG (BX key (BitVec.ofNat 32 0) b)=bs at o j d;obtain⟨G,I,rfl⟩:=j.shape;rw[d]at j ⊢
 obtain⟨F,H,c,C⟩:=j.qp 32 (by omega);have J:∀ W,(Instr.slice 24 (.slice G 64 I) none (some (.int .i64 32)) none).run prog W=.ok (.slice F 32 H) W:=c;have lt:(bs.take 32).length=32:=by rw[X'];omega
 generalize bs.take 32=K at o C lt;have q:=x.af k;have t:=A.af k;clear c j d;have h:a.length<=10000:=by omega
 have i:s.length<=10000:=by omega
 have l:Hid (a.length<=10000):=h;have n:Hid (s.length<=10000):=i;have m:Hid ((Gm a s).length<=4000):=g;clear M N h i g y z x A lk B;go_wp2_with fail
 go_region_with (first
  | (go_at_call 180;refine(Y5 _ _ a s _ (q.af ((Below.refl _ _).drew)) (t.af ((Below.refl _ _).drew)) l.out n.out).mono ?_;rintro e Q ⟨R,rfl,O,f⟩)
  | (go_at_call 179;refine(iU _ _ K _ _ (C.af ((Below.refl _ _).drew.trans f)) O lt m.out).mono ?_;rintro e U ⟨P,rfl,s3,r⟩))
 all_goals
  go_wp2
  go_ret2
  refine⟨P,rfl,?_,?_⟩
  .rw[o.out];exact s3
  .have b2:Bw w Q:=k.trans (((Below.refl _ _).drew.trans f).mono k.size);exact b2.trans (r.mono b2.size)
theorem Ql(c f b:Value)(key a d:List Int)(w:World)(h:Sl w c key)(i:Sl w f a)(g:Sl w b d)(lk:key.length=32)(l:a.length=12)(k:d.length<=2000)(j:Dj w) :
  Calls prog 152 #[c,.int .i64 1,f,b] w λe w'=>∃ v',e=.returned (.tuple #[v',.int .i64 0])/\w'.ownsRow w.heap.size 5 1 v' (ED key a d).length ((ED key a d).map (Value.int .u8))/\Bw w w' :=
 df c f b key a d 1 w h i g lk l (by omega) k j
def NwV(B:Nat)(v:Value):Prop:=∀ a n c,v=.slice (some a) n c->B<=a.block
theorem NwV.own{B k:Nat}(h:w.ownsRow B e k v n xs):NwV B v:=λa m c e=>(h.lt a.block (by rw[e];rfl)).1
theorem SM{b:World}{a:Nat}(h:w.ownsRow a e 1 v n xs)(c:Bw w b):b.ownsRow a e 1 v n xs :=
 Fd h λk d=>c.block k (h.lt k d).2
theorem Je(h:GV key nonce a=true):key.length=32/\nonce.length=12/\a.length<=256:=by
 unfold GV at h;simp at h;omega
theorem ZI(o q v K:Value)(key b a p:List Int)(w:World)(i:Sl w o key)(s:Sl w q b)(A:Sl w v a)(t:Sl w K p)(E:GV key b a=true)(U:p.length<=2000)(D:Dj w) :
  Calls prog 120 #[o,q,v,K] w λe w'=>∃ v',e=.returned (.tuple #[v',.int .i64 0])/\Sl w' v' (Gz key b a p)/\NwV w.heap.size v'/\Bw w w':=by
 obtain⟨lk,F,S⟩:=Je E;have j:=D.pos;have y:Hid (Gz key b a p=ED key b p++Er key b a (ED key b p)):=rfl;have n:=FK key b p;have g:∀ x∈ED key b p,0<=x/\x<256:=Jk _ t.byte;have Q:¬ (2000:Int)<(p.length:Int):=by omega
 obtain⟨ap,W,rfl⟩:=t.shape;go_enter func120,ntmps120
 go_wp2_with fail
 refine(GJ o q v key b a w i s A).mono ?_;rintro e r ⟨rfl,rfl⟩;rw[E];go_wp2_with fail
 refine(Ql o q _ key b p r i s t lk F U D).mono ?_;rintro e M ⟨L,rfl,u,d⟩;generalize ED key b p=X at y n g u;have H:Sl M L X:=Sl.pd u (by omega) g;go_wp2_with fail
 refine(Pj o q v L key b a X M (i.af d) (s.af d) (A.af d) H lk F S (by omega) (D.af j d)).mono ?_;rintro e V ⟨Y,rfl,I,z⟩;have G:=SM u z;have C:=G.lt;have f:Bw r V:=d.trans (z.mono d.size);have m:=IF key b a X;have l:=LZ key b a X;generalize Er key b a X=T at y I m l;have P:X.length<=2000:=by omega
 clear n u H d z i s A t;go_wp2_with (at_builtin;refine Aa _ rfl _ _ 24 rfl r.heap.size 5 underlying24 Av _ _ rfl rfl X T G I (by omega) f.size ?_)
 intro J N c B;replace c:N.ownsRow r.heap.size 5 1 J (X++T).length ((X++T).map (Value.int .u8)):=by simpa[m]using c
 have O:Bw r N:=f.grown B f.size (λk i=>(C k i).1);go_wp2
 go_ret2
 refine⟨J,rfl,?_,.own c,O⟩;rw[y.out];refine Sl.pd c (by rw[H'];omega) ?_;intro x R;rcases P'.1 R with h|h
 .exact g x h
 .exact l x h
def Fc(key nonce a d:List Int):Int :=
 if GV key nonce a=true/\d.length<=2016 then(if d.length<16 then 13 else if Er key nonce a (d.take (d.length-16))=d.drop (d.length-16)then 0 else 6)else 1
def Qy(key nonce a d:List Int):List Int:=if Fc key nonce a d=0 then ED key nonce (d.take (d.length-16))else[]
theorem du(g i f o:Value)(key b a d:List Int)(w:World)(m:Sl w g key)(n:Sl w i b)(k:Sl w f a)(l:Sl w o d)(j:GV key b a=false\/2016<d.length) :
  Calls prog 198 #[g,i,f,o] w λe w'=>e=.returned (.tuple #[.slice none 0 0,.int .i64 1])/\w'=w:=by
 have r:=l.len;obtain⟨ap,q,rfl⟩:=l.shape;by_cases c:GV key b a=true
 .have hpl:(2016:Int)<(d.length:Int):=by
   rcases j with h|h
   .rw[c]at h;cases h
   .omega
  go_enter func198,ntmps198
  go_wp2_with fail
  refine(GJ g i f key b a w m n k).mono ?_;rintro e p ⟨rfl,rfl⟩;rw[c];go_wp2
  go_ret2
  exact⟨rfl,rfl⟩
 .rw[Bool.not_eq_true]at c
  go_enter func198,ntmps198
  go_wp2_with fail
  refine(GJ g i f key b a w m n k).mono ?_;rintro e p ⟨rfl,rfl⟩;rw[c];go_wp2
  go_ret2
  exact⟨rfl,rfl⟩
theorem SI(f g c h:Value)(key b a d:List Int)(w:World)(l:Sl w f key)(m:Sl w g b)(i:Sl w c a)(j:Sl w h d)(k:GV key b a=true)(p:d.length<16) :
  Calls prog 198 #[f,g,c,h] w λe w'=>e=.returned (.tuple #[.slice none 0 0,.int .i64 13])/\w'=w:=by
 obtain⟨ap,o,rfl⟩:=j.shape;have n:(d.length:Int)<16:=by omega
 go_enter func198,ntmps198
 go_wp2_with fail
 refine(GJ f g c key b a w l m i).mono ?_;rintro e q ⟨rfl,rfl⟩;rw[k];go_wp2
 go_ret2
 exact⟨rfl,rfl⟩
theorem YZ(r s q H:Value)(key b a d:List Int)(w:World)(l:Sl w r key)(n:Sl w s b)(k:Sl w q a)(f:Sl w H d)(E:GV key b a=true)(m:Nat)(F:d.length=m+16)(W:m<=2000)(o:Dj w)(G:Er key b a (d.take m)≠d.drop m) :
  Calls prog 198 #[r,s,q,H] w λe w'=>e=.returned (.tuple #[.slice none 0 0,.int .i64 6])/\Bw w w':=by
 obtain⟨lk,N,M⟩:=Je E;have h:=o.pos;have i:=f.byte;obtain⟨ad,V,rfl⟩:=f.shape;rw[F]at f ⊢
 obtain⟨R,T,A,p⟩:=f.qp m (by omega);obtain⟨S,U,g,j⟩:=f.from m (by omega);rw[Nat.add_sub_cancel_left]at g j
 have B:(d.take m).length=m:=by rw[X'];omega
 have Q:∀ x∈d.take m,0<=x/\x<256:=λx K=>i x (mr K);have y:Hid (Er key b a (d.take m)≠d.drop m):=G;clear G;generalize d.take m=D at p B Q y ⊢;generalize d.drop m=L at j y;have v:Hid (D.length=m):=B;clear f F i B;go_enter func198,ntmps198
 go_wp2_with fail
 refine(GJ r s q key b a w l n k).mono ?_;rintro e t ⟨rfl,rfl⟩;rw[E];go_wp2_with fail
 go_quiet (fail)
 have c:Bw t (t.drewN nq):=Ar (Below.refl _ _) nq;generalize t.drewN nq=w1 at c ⊢;replace l:=l.af c;replace n:=n.af c;replace k:=k.af c;replace p:=p.af c;replace j:=j.af c;replace o:=o.af h c;clear A g;go_wp2_with fail
 refine(Pj r s q _ key b a D w1 l n k p lk N M (by have:=v.out;omega) o).mono ?_;rintro e u ⟨P,rfl,O,z⟩;go_wp2_with fail
 refine(IC P _ (Er key b a D) L u O (j.af z)).mono ?_;rintro e X ⟨rfl,C,rfl⟩;have I:Bw u (u.drewN C):=Ar (Below.refl _ _) C;have J:Bw t (u.drewN C):=c.trans ((z.trans (I.mono z.size)).mono c.size);rw[E' y.out];go_wp2
 go_ret2
 exact⟨rfl,J⟩
theorem dw(B C F S:Value)(key b a d:List Int)(w:World)(g:Sl w B key)(h:Sl w C b)(u:Sl w F a)(p:Sl w S d)(N:GV key b a=true)(m:Nat)(O:d.length=m+16)(hl:m<=2000)(j:Dj w)(P:Er key b a (d.take m)=d.drop m) :
  Calls prog 198 #[B,C,F,S] w λe w'=>∃ v',e=.returned (.tuple #[v',.int .i64 0])/\Sl w' v' (ED key b (d.take m))/\NwV w.heap.size v'/\Bw w w':=by
 obtain⟨lk,Q,la⟩:=Je N;have i:=j.pos;have z:=p.byte;obtain⟨ad,cd,rfl⟩:=p.shape;rw[O]at p ⊢
 obtain⟨a1,c1,I,k⟩:=p.qp m (by omega);obtain⟨a2,c2,v,q⟩:=p.from m (by omega);rw[Nat.add_sub_cancel_left]at v q
 have J:(d.take m).length=m:=by rw[X'];omega
 have V:∀ x∈d.take m,0<=x/\x<256:=λx Y=>z x (mr Y);have G:Hid (Er key b a (d.take m)=d.drop m):=P;clear P;generalize d.take m=D at k J V G ⊢;generalize d.drop m=L at q G;have l:Hid (D.length=m):=J;clear p O z J;go_enter func198,ntmps198
 go_wp2_with fail
 refine(GJ B C F key b a w g h u).mono ?_;rintro e r ⟨rfl,rfl⟩;rw[N];go_wp2_with fail
 go_quiet (fail)
 have f:Bw r (r.drewN nq):=Ar (Below.refl _ _) nq;generalize r.drewN nq=w1 at f ⊢;replace g:=g.af f;replace h:=h.af f;replace u:=u.af f;replace k:=k.af f;replace q:=q.af f;replace j:=j.af i f;clear I v;go_wp2_with fail
 refine(Pj B C F _ key b a D w1 g h u k lk Q la (by have:=l.out;omega) j).mono ?_;rintro e s ⟨vt,rfl,R,o⟩;go_wp2_with fail
 refine(IC vt _ (Er key b a D) L s R (q.af o)).mono ?_;rintro e T ⟨rfl,A,rfl⟩;have H:Bw s (s.drewN A):=Ar (Below.refl _ _) A;have E:Bw r (s.drewN A):=f.trans ((o.trans (H.mono o.size)).mono f.size);rw[O' G.out];have t:Bw w1 (s.drewN A):=o.trans (H.mono o.size);replace g:=g.af t;replace h:=h.af t;replace k:=k.af t;replace j:=j.af (j' i f.size) t;have Z:=FK key b D;have y:∀ x∈ED key b D,0<=x/\x<256:=Jk _ V;clear q R u H o;generalize s.drewN A=T at g h k j E t ⊢;go_wp2_with fail
 refine(Ql B C _ key b D T g h k lk Q (by have:=l.out;omega) j).mono ?_;rintro e U ⟨M,rfl,K,W⟩;have s4:Sl U M (ED key b D):=Sl.pd K (by have:=l.out;omega) y;have X:Bw r U:=E.trans (W.mono E.size);have n4:NwV r.heap.size M:=λa n c e=>me E.size (NwV.own K a n c e);clear K y;go_wp2
 go_ret2
 exact⟨M,rfl,s4,n4,X⟩
theorem VM(i j f g:Value)(key c a d:List Int)(w:World)(m:Sl w i key)(n:Sl w j c)(k:Sl w f a)(l:Sl w g d)(o:Dj w) :
  Calls prog 198 #[i,j,f,g] w λe w'=>∃ v',e=.returned (.tuple #[v',.int .i64 (Fc key c a d)])/\Sl w' v' (Qy key c a d)/\NwV w.heap.size v'/\Bw w w':=by
 unfold Qy;by_cases h:GV key c a=true/\d.length<=2016
 .by_cases h16:d.length<16
  .have hE:Fc key c a d=13:=by unfold Fc;rw[if_pos h,if_pos h16]
   rw[hE,if_neg (by omega)];refine(SI i j f g key c a d w m n k l h.1 h16).mono ?_;rintro e p ⟨rfl,rfl⟩;exact⟨_,rfl,Sl.nil _ _,λ_ _ _ e=>(by cases e),Below.refl _ _⟩
  .by_cases hq:Er key c a (d.take (d.length-16))=d.drop (d.length-16)
   .have hE:Fc key c a d=0:=by unfold Fc;rw[if_pos h,if_neg h16,if_pos hq]
    rw[hE,if_pos rfl];exact dw i j f g key c a d w m n k l h.1 (d.length-16) (by omega) (by omega) o hq
   .have hE:Fc key c a d=6:=by unfold Fc;rw[if_pos h,if_neg h16,if_neg hq]
    rw[hE,if_neg (by omega)];refine(YZ i j f g key c a d w m n k l h.1 (d.length-16) (by omega) (by omega) o hq).mono ?_;rintro e p ⟨rfl,b⟩;exact⟨_,rfl,Sl.nil _ _,λ_ _ _ e=>(by cases e),b⟩
 .have hE:Fc key c a d=1:=by unfold Fc;rw[if_neg h]
  rw[hE,if_neg (by omega)];refine(du i j f g key c a d w m n k l ?_).mono ?_
  .by_cases hf:GV key c a=true
   .exact .inr (by have:¬ d.length<=2016:=λq=>h ⟨hf,q⟩;omega)
   .exact .inl (by simpa using hf)
  .rintro e p ⟨rfl,rfl⟩;exact⟨_,rfl,Sl.nil _ _,λ_ _ _ e=>(by cases e),Below.refl _ _⟩
theorem Tn(key a:List Int){p:List Int}(b:∀ x∈p,0<=x/\x<256):∀ x∈ED key a p,0<=x/\x<256:=Jk _ b
theorem Tj(key b a:List Int){p:List Int}(c:∀ x∈p,0<=x/\x<256):∀ x∈Gz key b a p,0<=x/\x<256:=by
 intro x d;rcases P'.1 d with h|h
 .exact Tn key b c x h
 .exact LZ _ _ _ _ x h
theorem cx(lk:key.length=32)(c:nonce.length=12)(b:a.length<=256):GV key nonce a=true:=by
 unfold GV;simp;omega
end
end
section
def Kr(key:List Int)(n:Int)(p:List Int):List Int:=Ad n++Gz key (CJ (Ad n)) (Ad n) p
theorem EA(key:List Int)(n:Int)(p:List Int):(Kr key n p).length=p.length+20:=by
 rw[Kr,H',BF,Pg];omega
theorem Wa(key:List Int)(n:Int){p:List Int}(a:∀ x∈p,0<=x/\x<256):∀ x∈Kr key n p,0<=x/\x<256:=by
 intro x b;rcases P'.1 b with h|h
 .exact AQ n x h
 .exact Tj _ _ _ a x h
def Ka(key:List Int)(s t:Int)(l:List Bool)(r:List Int):Int :=
 if ¬ OkC key s t l then 5 else if 2020<r.length then 1 else if r.length<20 then 13 else if 1073741824<=MQ (r.take 4)then 2 else if ii t l (MQ (r.take 4))=true then 7
 else Fc key (CJ (r.take 4)) (r.take 4) (r.drop 4)
def Mg(key:List Int)(r:List Int):List Int:=Qy key (CJ (r.take 4)) (r.take 4) (r.drop 4)
end
section
open Go.RowKit
section
structure Bt(w:World)(g:Nat)(c r u:Int):Prop where
 lt:g<w.heap.size
 row:w.heap[g]?=some (.cells (tkA c r u) 59)
theorem Bt.made(w:World)(c r u:Int):Bt (w.alloc (.cells (tkA c r u) 59)) w.heap.size c r u:=⟨by simp,heap_alloc_new _ _⟩
variable{c r u:Int}{g:Nat}{key:List Int}{w:World}
theorem Bt.af{b:World}(h:Bt w g c r u)(a:Bw w b):Bt b g c r u :=
 ⟨j' h.lt a.size,(a.block g h.lt).trans h.row⟩
theorem IM(c r u:Int):(prog.info? 59).map (·.size)=some (tkA c r u).size:=by show _=some 3;kernel_rfl
theorem J5{b:TypeId}{a:Nat × Nat}(h:w.heap[g]?=some (.cells (tkA c r u) b a)) :
  w.cell? ⟨g,0,none⟩=some (.int .i64 c)/\w.cell? ⟨g,1,none⟩=some (.int .i64 r)/\w.cell? ⟨g,2,none⟩=some (.int .i64 u) :=
 ⟨cell_of_row _ _ 0 _ _ _ h,cell_of_row _ _ 1 _ _ _ h,cell_of_row _ _ 2 _ _ _ h⟩
theorem Jj(c r u:Int)(w:World) :
  Calls prog 72 #[.agg (tkA c r u)] w λe w'=>e=.returned (.bool (decide (Dy c r u)))/\Bw w w':=by
 have b:Bw w (w.alloc (.cells (tkA c r u) 59)):=(Below.refl _ _).alloc (A' _) _;have i:=Bt.made w c r u;generalize k:w.alloc (.cells (tkA c r u) 59)=W at b i;obtain⟨l,m,n⟩:=J5 i.row;clear i;go_enter func72,ntmps72
 go_wp2_with fail
 clear k;refine(Fl c 7 _).mono ?_;rintro e j ⟨rfl,rfl⟩;by_cases d:0<=c/\c<=7
 .rw[O' d];go_wp2_with fail
  refine(Fl r 7 _).mono ?_;rintro e j ⟨rfl,rfl⟩;by_cases f:0<=r/\r<=7
  .rw[O' f];go_wp2_with fail
   refine(Fl u 1048576 _).mono ?_;rintro e j ⟨rfl,rfl⟩;by_cases h:0<=u/\u<=1048576
   .rw[O' h];have a:Hid (true=decide (Dy c r u)):=(O' ⟨d,f,h⟩).symm;go_wp2
    go_ret;exact⟨Ax a.out,b⟩
   .rw[E' h];have a:Hid (false=decide (Dy c r u)):=(E' (λg=>h g.2.2)).symm;go_wp2
    go_ret;exact⟨Ax a.out,b⟩
  .rw[E' f];have a:Hid (false=decide (Dy c r u)):=(E' (λg=>f g.2.1)).symm;go_wp2
   go_ret;exact⟨Ax a.out,b⟩
 .rw[E' d];have a:Hid (false=decide (Dy c r u)):=(E' (λg=>d g.1)).symm;go_wp2
  go_ret;exact⟨Ax a.out,b⟩
def K3(key:List Int)(c r u:Int):List Int:=Kz c r u++(Ew key (Kz c r u)).take 16
theorem Nd(key b:List Int):((Ew key b).take 16).length=16:=by rw[X',DJ];rfl
theorem EG(key:List Int)(c r u:Int):(K3 key c r u).length=22:=by unfold K3;rw[H',Nd,EF]
theorem QZ(key b:List Int):∀ x∈(Ew key b).take 16,0<=x/\x<256:=λx a=>NK key b x (mr a)
theorem WG(key:List Int){c r u:Int}(h:Dy c r u):∀ x∈K3 key c r u,0<=x/\x<256:=by
 intro x hx;rcases P'.1 hx with hx|hx
 .exact Oj h x hx
 .exact QZ _ _ x hx
def MK(key:List Int)(c r u:Int):Int:=if key.length≠32 then 1 else Nf c r u
def Qb(key:List Int)(c r u:Int):List Int:=if MK key c r u=0 then K3 key c r u else[]
theorem Vr(h:¬ key.length=32):MK key c r u=1:=if_pos h
theorem Qa(h:key.length=32):MK key c r u=Nf c r u:=if_neg (λg=>g h)
theorem cK(h:MK key c r u=0):Qb key c r u=K3 key c r u:=if_pos h
theorem Ub(h:¬ MK key c r u=0):Qb key c r u=[]:=if_neg h
theorem Se(c r u:Int)(w:World)(h:Dy c r u) :
  Calls prog 73 #[.agg (tkA c r u)] w λe w'=>∃ v',e=.returned v'/\w'.ownsRow w.heap.size 5 1 v' (Kz c r u).length ((Kz c r u).map (Value.int .u8))/\Bw w w':=by
 have d:Bw w (w.alloc (.cells (tkA c r u) 59)):=(Below.refl _ _).alloc (A' _) _;have f:=Bt.made w c r u;generalize o:w.alloc (.cells (tkA c r u) 59)=W at d f;obtain⟨B,C,m⟩:=J5 f.row;have lt:=f.lt;clear f;obtain⟨⟨q,s⟩,⟨t,v⟩,i,x⟩:=h;have E:c%256=c:=by omega
 have F:r%256=r:=by omega
 have A:Hid (Kz c r u=[c,r]++Ad u):=rfl;have b:Bw W (W.alloc (.cells #[.int .u8 c,.int .u8 r] 5)):=(Below.refl _ _).alloc (A' _) _;have k:(W.alloc (.cells #[.int .u8 c,.int .u8 r] 5)).ownsRow W.heap.size 5 1 (.slice (some ⟨W.heap.size,0,none⟩) 2 2) ([c,r]:List Int).length (([c,r]:List Int).map (Value.int .u8)) :=
  ⟨rfl,.inr ⟨W.heap.size,2,#[.int .u8 c,.int .u8 r],rfl,A' _,heap_alloc_new _ _,by simp,by simp[maxLen],rfl,rfl⟩⟩
 have j:Hid ((W.alloc (.cells #[.int .u8 c,.int .u8 r] 5)).ownsRow W.heap.size 5 1 (.slice (some ⟨W.heap.size,0,none⟩) 2 2) ([c,r]:List Int).length (([c,r]:List Int).map (Value.int .u8))):=k;clear k;generalize g:W.alloc (.cells #[.int .u8 c,.int .u8 r] 5)=W1 at b j;have D:W1.cell? ⟨w.heap.size,2,none⟩=some (.int .i64 u):=(b.cell (p:=⟨w.heap.size,2,none⟩) lt).trans m;have n:=d.trans (b.mono d.size);have y:=b.size;go_enter func73,ntmps73
 go_wp2_with fail
 clear o g;refine(Hi _ [c,r] u W.heap.size W1 j.out y (by simp) i (by omega)).mono ?_;rintro e H ⟨G,rfl,z,l⟩;have a:=d.size;go_wp2
 go_ret;exact⟨_,rfl,Ca z a,n.trans (l.mono a)⟩
theorem QX(d c:Value)(key b:List Int)(w:World)(n:Sl w d key)(m:Sl w c b)(lk:key.length<=256)(p:b.length<=2000)(o:AJ w) :
  Calls prog 74 #[d,c] w λe w'=>∃ v',e=.returned (.tuple #[v',.int .i64 0])/\Sl w' v' ((Ew key b).take 16)/\Bw w w':=by
 go_enter func74,ntmps74
 go_wp2_with fail
 refine(fL d c key b w n m lk p o).mono ?_;rintro e t ⟨s,rfl,l⟩;obtain⟨f,i,g,k,rfl,_,_⟩:=l;obtain⟨h,j,a,q⟩:=f.qp 16 (by rw[DJ];omega);rw[DJ]at a ⊢
 have r:∀ W,(Instr.slice 24 (.slice (some ⟨g,0,none⟩) 32 k) none (some (.int .i64 16)) none).run prog W=.ok (.slice h 16 j) W:=a;clear a f;go_wp2
 go_ret2
 exact⟨_,rfl,q,i⟩
theorem Vs(E:Value)(key:List Int)(c r u:Int)(w:World)(f:Sl w E key)(N:AJ w) :
  Calls prog 36 #[E,.agg (tkA c r u)] w λe w'=>∃ v',e=.returned (.tuple #[v',.int .i64 (MK key c r u)])/\w'.ownsRow w.heap.size 5 1 v' (Qb key c r u).length ((Qb key c r u).map (Value.int .u8))/\Bw w w':=by
 have i:Bw w (w.alloc (.cells (tkA c r u) 59)):=(Below.refl _ _).alloc (A' _) _;have j:=Bt.made w c r u;have A:=IM c r u;have m:=f.len;obtain⟨S,T,rfl⟩:=f.shape;generalize M:w.alloc (.cells (tkA c r u) 59)=W at i j;by_cases l:key.length=32
 .have HE:=Qa (key:=key) (c:=c) (r:=r) (u:=u) l;have J:Hid (key.length=32):=l;rw[l]at f ⊢
  clear l m;go_enter func36,ntmps36
  go_wp2_with (refine wpList_load_row rfl 59 _ rfl w.heap.size rfl 59 _ (0,0) _ j.row underlying59 rfl A ?_)
  clear M;refine(Jj c r u W).mono ?_;rintro e g ⟨rfl,p⟩;have b:=i.trans (p.mono i.size);replace j:=j.af p;clear p i;by_cases d:Dy c r u
  .have a:Hid (MK key c r u=0):=HE.trans (KG d);have h:Hid (Qb key c r u=K3 key c r u):=cK a.out;rw[O' d];clear HE;go_wp2_with (refine wpList_load_row rfl 59 _ rfl w.heap.size rfl 59 _ (0,0) _ j.row underlying59 rfl A ?_)
   refine(Se c r u g d).mono ?_;rintro e R ⟨P,rfl,x,q⟩;have s:=b.trans (q.mono b.size);have D:=Sl.pd x (by rw[EF];omega) (Oj d);have H:=q.size;go_wp2_with fail
   refine(QX _ P key (Kz c r u) R (f.af s) D (by rw[J.out];omega) (by rw[EF];omega) (N.af s)).mono ?_;rintro e F ⟨U,rfl,s3,n⟩;have y:=JN x n;have t:Bw g F:=q.trans (n.mono H);have I:g.heap.size<=F.heap.size:=me H n.size;have v:=y.lt;have O:=s3.len;have o:Hid (K3 key c r u=Kz c r u++(Ew key (Kz c r u)).take 16):=rfl;have B:=EF c r u;clear x n s D;generalize (Ew key (Kz c r u)).take 16=Y at s3 o O;generalize Kz c r u=X at y o B;go_wp2_with (at_builtin;refine Aa _ rfl _ _ 24 rfl g.heap.size 5 underlying24 Av _ _ rfl rfl X Y y s3 (by omega) I ?_)
   intro Q G C z;have L:Bw g G:=t.grown z I (λk f=>(v k f).1);have K:Hid (G.ownsRow g.heap.size 5 1 Q (K3 key c r u).length ((K3 key c r u).map (Value.int .u8))):=by unfold Hid;rw[o.out];simpa[B]using C
   clear C z;go_wp2
   go_ret2
   rw[h.out,a.out];exact⟨_,rfl,Ca K.out b.size,b.trans (L.mono b.size)⟩
  .have a:Hid (MK key c r u=2):=HE.trans (U6 d);have h:Hid (Qb key c r u=[]):=Ub (by rw[a.out];omega);rw[E' d];go_wp2
   go_ret2
   rw[h.out,a.out];exact⟨_,rfl,World.ownsRow_nil _ _ _ _,b⟩
 .have h1':¬ (key.length:Int)=32:=by omega
  have a:Hid (MK key c r u=1):=Vr l;have h:Hid (Qb key c r u=[]):=Ub (by rw[a.out];omega);go_enter func36,ntmps36
  go_wp2
  go_ret2
  rw[h.out,a.out];exact⟨_,rfl,World.ownsRow_nil _ _ _ _,i⟩
end
end
end Go.Proofs.YtgbabbapcibnlabGreatDoor
