/- Part 13 of the walk. -/
import Derived.Deep.OwnRows
import Derived.Laws.OwnMore
import Derived.Maps.AppendAt
import Derived.Test.YtdjfdfpkkenjbabGreatDoorZ12
set_option maxRecDepth 100000
set_option maxHeartbeats 4000000
open Go.Proofs.Tryz
set_option linter.unusedVariables false
namespace Go.Proofs.YtdjfdfpkkenjbabGreatDoor
section
open Go.RowKit
section
def Gq(t:Nat)(x:Int):Int:=if t%4=3 then x%16 else if t%4=0/\0<t then x/4*4 else x
def Dz(l:List Int):List Int:=(List.range 16).map λt=>Gq t (l.getD t 0)
theorem ME(l:List Int):(Dz l).length=16:=by simp[Dz]
theorem RK(l:List Int)(t:Nat)(h:t<16):(Dz l).getD t 0=Gq t (l.getD t 0):=by
 simp[Dz,List.getD,List.getElem?_map,List.getElem?_range h]
theorem O8(t:Nat){x:Int}(h:0<=x/\x<256):0<=Gq t x/\Gq t x<256:=by
 unfold Gq;split
 .omega
 .split<;>omega
variable{a key l m nonce:List Int}{e j n:Nat}{v:Value}{w:World}{xs:List Value}
theorem PG(h:∀ x∈l,0<=x/\x<256):∀ x∈Dz l,0<=x/\x<256:=by
 intro x a;obtain⟨t,_,rfl⟩:=nG.1 a;exact O8 t (Ae h t)
theorem Sa(h:l.length=m.length)(c:∀ t,t<l.length->l.getD t 0=m.getD t 0):l=m:=by
 apply pq h;intro t a b;have:=c t a
 rwa [As a,As b]at this
theorem jL(x:Int)(a:0<=x)(b:x<256):bits .and .u8 x 15=x%16:=by
 obtain⟨n,rfl⟩:=nh a;rw[show(15:Int)=((15:Nat):Int)from rfl,u8_and_nat _ _ (by omega) (by omega),show(15:Nat)=2^4-1 from rfl,pX];omega
theorem R9:∀ n:Fin 256,n.val &&& 252=n.val/4*4:=by decide +kernel
theorem gE(x:Int)(a:0<=x)(b:x<256):bits .and .u8 x 252=x/4*4:=by
 obtain⟨n,rfl⟩:=nh a;have e:n &&& 252=n/4*4:=R9 ⟨n,by omega⟩;rw[show(252:Int)=((252:Nat):Int)from rfl,u8_and_nat _ _ (by omega) (by omega),e];omega
structure Upper(l m:List Int)(j:Nat):Prop where
 len:m.length=16
 at_:∀ t,m.getD t 0=if t%4=3/\t<3+4*j then l.getD t 0%16 else l.getD t 0
theorem Upper.zero(h:l.length=16):Upper l l 0:=by
 refine⟨h,λt=>?_⟩;rw[if_neg (by omega)]
theorem Upper.succ(h:Upper l m j)(a:j<4):Upper l (m.set (3+4*j) (m.getD (3+4*j) 0%16)) (j+1):=by
 refine⟨by simpa using h.len,λt=>?_⟩;by_cases e:3+4*j=t
 .subst e;rw[AH (by rw[h.len];omega),h.at_,if_neg (by omega),if_pos (by omega)]
 .rw[Ax e,h.at_];by_cases c:t%4=3/\t<3+4*j
  .rw[if_pos c,if_pos (by omega)]
  .rw[if_neg c,if_neg (by omega)]
structure Lower(l m:List Int)(j:Nat):Prop where
 len:m.length=16
 at_:∀ t,t<16->m.getD t 0=if t%4=3 then l.getD t 0%16 else if t%4=0/\0<t/\t<4+4*j then l.getD t 0/4*4 else l.getD t 0
theorem Upper.lower(h:Upper l m 4):Lower l m 0:=by
 refine⟨h.len,λt a=>?_⟩;rw[h.at_];by_cases c:t%4=3
 .rw[if_pos (by omega),if_pos c]
 .rw[if_neg (by omega),if_neg c,if_neg (by omega)]
theorem Lower.succ(h:Lower l m j)(b:j<3):Lower l (m.set (4+4*j) (m.getD (4+4*j) 0/4*4)) (j+1):=by
 refine⟨by simpa using h.len,λt a=>?_⟩;by_cases e:4+4*j=t
 .subst e;rw[AH (by rw[h.len];omega),h.at_ _ a,if_neg (by omega),if_neg (by omega),if_neg (by omega),if_pos (by omega)]
 .rw[Ax e,h.at_ _ a];by_cases c:t%4=3
  .rw[if_pos c,if_pos c]
  .rw[if_neg c,if_neg c];by_cases d:t%4=0/\0<t/\t<4+4*j
   .rw[if_pos d,if_pos (by omega)]
   .rw[if_neg d,if_neg (by omega)]
theorem Lower.sJ(h:Lower l m 3):m=Dz l:=by
 refine Sa (by rw[h.len,ME]) (λt a=>?_);rw[h.len]at a
 rw[h.at_ t a,RK l t a,Gq];by_cases c:t%4=3
 .rw[if_pos c,if_pos c]
 .rw[if_neg c,if_neg c];by_cases d:t%4=0/\0<t
  .rw[if_pos d,if_pos (by omega)]
  .rw[if_neg d,if_neg (by omega)]
theorem Upper.byte(h:Upper l m j)(a:∀ x∈l,0<=x/\x<256)(t:Nat):0<=m.getD t 0/\m.getD t 0<256:=by
 have:=Ae a t;rw[h.at_];split<;>omega
theorem Lower.byte(h:Lower l m j)(a:∀ x∈l,0<=x/\x<256)(t:Nat)(b:t<16):0<=m.getD t 0/\m.getD t 0<256:=by
 have:=Ae a t;rw[h.at_ t b];split
 .omega
 .split<;>omega
theorem Se(v:Value)(l:List Int)(w:World)(h:Sl w v l)(S:l.length=16) :
  Calls prog 241 #[v] w λe w'=>∃ r,e=.returned (.agg (Ag r))/\Lim 67108864 r/\val r%pp=leN (Dz l)%pp/\Bw w w':=by
 have T:=h;obtain⟨⟨a,Y,rfl,hc,hn,h1⟩,M,A⟩:=h;have n:Hid (∀ x∈l,0<=x/\x<256):=A;clear h1 A hn M;have W:Hid (l.length=16):=S;go_enter func241,ntmps241
 go_wp2_with (refine wpList_copy_splice rfl _ _ 41 41 rfl 5 underlying41 YE _ _ _ _ _ _ rfl rfl (w.heap.size+1) 0 ((List.replicate 16 (0:Int)).map (Value.int .u8)) 345 (heap_alloc2_new _ _ _) (l.map (Value.int .u8)) (by rw[mU];exact(oF (show l.length<=16 by omega)).symm) (λhp=>⟨rfl,(T.ab (((Below.refl _ _).alloc (A' _) _).alloc (by simp) _)).src (by simpa using hp)⟩) (by rw[mU,mU,oE];omega) (EH _) (w.heap.size+1) _ (Below.refl _ _) (A' _) ?_)
 intro F Q q;have E:F.heap[w.heap.size+1]?=some (.cells (byA l) 345 (0,0)):=by
  have R:F.heap[w.heap.size+1]?=some (.cells (splice ((List.replicate 16 (0:Int)).map (Value.int .u8)) 0 (l.map (Value.int .u8))).toArray 345 (0,0)):=Q.out;rw[IA,S]at R
  simpa[byA]using R
 have y:Bw w F:=(((Below.refl _ _).alloc (A' _) _).alloc (by simp) _).trans (q.mono (by omega));have C:F.heap[w.heap.size]?=some (.cells (Ag [0,0,0,0,0]) 333 (0,0)):=by
  rw[q.block _ (by omega)];exact heap_alloc2_old _ _ _
 clear Q q T;go_wp2_with fail
 go_loopw [4] (λi wr=>∃ (j:Nat) (m:List Int),j<=4/\i=.int .i64 (3+4*(j:Int))/\Upper l m j/\wr.heap[w.heap.size]?=some (.cells (Ag [0,0,0,0,0]) 333 (0,0))/\wr.heap[w.heap.size+1]?=some (.cells (byA m) 345 (0,0))/\Bw w wr) (λi _=>20-(intOf i).toNat)
 case atStart=>exact⟨0,l,by omega,rfl,Upper.zero W.out,C,E,y⟩
 case round =>
  clear C E y;obtain⟨j,m,hj,rfl,c,t,f,o⟩:=hrel;have N:=c.len;by_cases J:j<4
  .have K:3+4*(j:Int)<16:=by omega
   have H:=(cell_of_row _ _ (3+4*j) _ _ _ f).trans (H9 m (3+4*j) (by omega));have Z:=frozen_of_row _ _ (3+4*j) _ _ f;have b:=c.byte n.out (3+4*j);have u:Hid (Upper l (m.set (3+4*j) (m.getD (3+4*j) 0%16)) (j+1)):=c.succ J;have d:=jL (m.getD (3+4*j) 0) b.1 b.2;generalize m.getD (3+4*j) 0=x at H u b d;clear c;go_wp2
   go_roundw
   case rel =>
    refine⟨j+1,_,by omega,by go_num,u.out,?_,Gn f _ _,?_⟩
    .exact(heap_setCell_other _ _ _ _ (by simp)).trans t
    .exact o.setCell (p:=⟨w.heap.size+1,3+4*j,none⟩) (by simp) _
   case measure=>simp[intOf];omega
  .have HJ:Hid (j=4):=by unfold Hid;omega
   have K:¬ 3+4*(j:Int)<16:=by omega
   have B:Lower l m 0:=by have:=HJ.out;subst this;exact c.lower
   clear c;go_wp2_with fail
   go_loopw [5] (λi wr=>∃ (j:Nat) (m:List Int),j<=3/\i=.int .i64 (4+4*(j:Int))/\Lower l m j/\wr.heap[w.heap.size]?=some (.cells (Ag [0,0,0,0,0]) 333 (0,0))/\wr.heap[w.heap.size+1]?=some (.cells (byA m) 345 (0,0))/\Bw w wr) (λi _=>20-(intOf i).toNat)
   case atStart=>exact⟨0,m,by omega,rfl,B,t,f,o⟩
   case round =>
    clear t f o B N;obtain⟨k,m,hk,rfl,c,t,f,o⟩:=hrel;have N:=c.len;by_cases L:k<3
    .have hki:4+4*(k:Int)<16:=by omega
     have H:=(cell_of_row _ _ (4+4*k) _ _ _ f).trans (H9 m (4+4*k) (by omega));have Z:=frozen_of_row _ _ (4+4*k) _ _ f;have b:=c.byte n.out (4+4*k) (by omega);have u:Hid (Lower l (m.set (4+4*k) (m.getD (4+4*k) 0/4*4)) (k+1)):=c.succ L;have d:=gE (m.getD (4+4*k) 0) b.1 b.2;generalize m.getD (4+4*k) 0=x at H u b d;clear c;go_wp2
     go_roundw
     case rel =>
      refine⟨k+1,_,by omega,by go_num,u.out,?_,Gn f _ _,?_⟩
      .exact(heap_setCell_other _ _ _ _ (by simp)).trans t
      .exact o.setCell (p:=⟨w.heap.size+1,4+4*k,none⟩) (by simp) _
     case measure=>simp[intOf];omega
    .have hki:¬ 4+4*(k:Int)<16:=by omega
     have V:Hid (k=3):=by unfold Hid;omega
     have s:m=Dz l:=by have:=V.out;subst this;exact c.sJ
     have s3:Sl wr (.slice (some ⟨w.heap.size+1,0,none⟩) 16 16) m:=by
      refine Sl.rowOf f N (by omega) ?_;rw[s];exact PG n.out
     have X:Hid (m=Dz l):=s;have G:Hid _:=s3;have O:w.heap.size<wr.heap.size:=(D'.1 t).1;clear c s3 s f;go_wp2_with fail
     refine(QO _ m _ G.out (by omega)).mono ?_;rintro e U ⟨r,rfl,P,vr,z⟩;have D:=(z.block w.heap.size O).trans t;have I:Bw w U:=o.trans (z.mono o.size);have g:=CH P.1;go_wp2_with ((with_reducible (refine An ?_));(refine wpList_store_row rfl 333 _ _ rfl (w.heap.size) _ rfl rfl 333 _ D g (by rw[Ai,Ai,P.1];rfl) (Br r) ?_))
     exact bodyPost_ret (v:=.agg (Ag r)) (results_cell_row rfl _ _ (w.heap.size) 333 _ (0,0) _ rfl (setRow_heap U (w.heap.size) _ _ 333 _ D) underlying333 rfl g) rfl ⟨r,rfl,P,by rw[vr,X.out],AX I (A' _) _⟩
def AG(v:Int)(i:Nat):Int:=v/256^i%256
theorem FF(v:Int)(i:Nat):0<=AG v i/\AG v i<256:=by unfold AG;omega
def leB(n:Nat)(v:Int):List Int:=(List.range n).map (AG v)
theorem Df(n:Nat)(v:Int):(leB n v).length=n:=by simp[leB]
theorem Is(n:Nat)(v:Int):∀ x∈leB n v,0<=x/\x<256:=by
 intro x a;obtain⟨j,_,rfl⟩:=nG.1 a;exact FF v j
def F0(S:Nat->Int):Nat->Int
 | 0=>0
 | k+1=>F0 S k+S k*256^k
def Ia(S:Nat->Int)(k:Nat):Int:=F0 S k/256^k
theorem LX(k:Nat):(0:Int)<256^k:=Int.pow_pos (by omega)
theorem Np(S:Nat->Int):Ia S 0=0:=by simp[Ia,F0]
theorem No(S:Nat->Int)(k:Nat):Ia S (k+1)=(Ia S k+S k)/256:=by
 have a:=LX k;unfold Ia;rw[F0,p7,<- pL (pV a),Int.add_mul_ediv_right _ _ (Int.ne_of_gt a)]
theorem RD(S:Nat->Int)(h:∀ j,0<=S j/\S j<1000)(k:Nat):0<=Ia S k/\Ia S k<256:=by
 induction k with
 | zero=>rw[Np];omega
 | succ k ih=>rw[No];have:=h k;omega
theorem WT(S:Nat->Int)(k d:Nat):∃ Z,F0 S (k+d)=F0 S k+256^k*Z:=by
 induction d with
 | zero=>exact⟨0,by simp⟩
 | succ d ih =>
  obtain⟨Z,a⟩:=ih;refine⟨Z+S (k+d)*256^d,?_⟩;rw[<- nP,F0,a,py]
  grind
theorem Li(v Z:Int)(n k:Nat)(h:k<n):AG (v+256^n*Z) k=AG v k:=by
 have a:=LX k;obtain⟨d,rfl⟩:∃ d,n=k+(1+d):=⟨n-k-1,by omega⟩;unfold AG;rw[py,py,show(256:Int)^k*(256^1*256^d)*Z=256^k*(256*(256^d*Z))by grind,Int.add_mul_ediv_left _ _ (Int.ne_of_gt a)];omega
theorem Vs(S:Nat->Int)(n k:Nat)(h:k<n):(Ia S k+S k)%256=AG (F0 S n) k:=by
 have b:=LX k;obtain⟨d,rfl⟩:∃ d,n=(k+1)+d:=⟨n-(k+1),by omega⟩;obtain⟨Z,a⟩:=WT S (k+1) d;rw[a,Li _ _ _ _ (by omega),AG,F0,Int.add_mul_ediv_right _ _ (Int.ne_of_gt b)];rfl
theorem aO(S T:Nat->Int)(k:Nat):F0 (λj=>S j+T j) k=F0 S k+F0 T k:=by
 induction k with
 | zero=>rfl
 | succ k ih=>simp only[F0,ih];grind
theorem aP(l:List Int)(k:Nat):F0 (λj=>l.getD j 0) k=leP l k:=by
 induction k with
 | zero=>rfl
 | succ k ih=>simp only[F0,leP,ih]
theorem TB(v:Int)(n:Nat):∃ Z,v=F0 (AG v) n+256^n*Z/\Z=v/256^n:=by
 induction n with
 | zero=>exact⟨v,by simp[F0],by simp⟩
 | succ n ih =>
  obtain⟨Z,b,a⟩:=ih;refine⟨Z/256,?_,?_⟩
  .rw[F0,AG,<- a,p7];have:Z=Z%256+256*(Z/256):=by omega
   grind
  .rw[a,p7,pL (pV (LX n))]
theorem XD(v:Int)(s:List Int)(k:Nat)(a:k<16)(b:s.length<=16) :
  (Ia (λj=>AG v j+s.getD j 0) k+(AG v k+s.getD k 0))%256=AG (v+leN s) k:=by
 rw[Vs (λj=>AG v j+s.getD j 0) 16 k a,aO (AG v) (λj=>s.getD j 0),aP,YS 16 b];obtain⟨Z,c,_⟩:=TB v 16;have e:v+leN s=F0 (AG v) 16+leN s+256^16*Z:=by omega
 rw[e,Li _ _ _ _ a]
def IE(v:Int)(k:Nat):List Int:=(List.range 16).map λj=>if j<k then AG v j else 0
theorem Rk(v:Int)(k:Nat):(IE v k).length=16:=by simp[IE]
theorem Xb(v:Int):IE v 0=List.replicate 16 0:=rfl
theorem aW(v:Int):IE v 16=leB 16 v:=by
 unfold IE leB;refine pA λj a=>?_;rw[if_pos (o8.1 a)]
theorem Xa(v:Int)(k:Nat)(_hk:k<16):(IE v k).set k (AG v k)=IE v (k+1):=by
 apply pq (by simp[IE]);intro j a b;rw[oL];simp only[IE,List.getElem_map,List.getElem_range];by_cases e:k=j
 .subst e;rw[if_pos rfl,if_pos (by omega)]
 .rw[if_neg e];by_cases c:j<k
  .rw[if_pos c,if_pos (by omega)]
  .rw[if_neg c,if_neg (by omega)]
theorem SZ(a b:Int)(k:Nat)(m:Int)(d:m=2^k)(g:0<=a)(c:a<m)(h:0<=b)(i:a+b*m<18446744073709551616):bits .or .u64 a (b*m)=a+b*m:=by
 obtain⟨x,rfl⟩:=nh g;obtain⟨y,rfl⟩:=nh h;have e:(y:Int)*m=((2^k*y:Nat):Int):=by rw[d,qY,pb,Int.mul_comm];rfl
 rw[e]at i ⊢
 have j:x<2^k:=by
  have:((x:Nat):Int)<((2^k:Nat):Int):=by rw[pb];rw[d]at c;exact c
  omega
 have f:=pl j y;rw[u64_or_nat _ _ (by omega) (by omega),Nat.or_comm,<- f];omega
theorem jc{a b:Int}(h:a=b):Ending.returned (.int .u8 a)=.returned (.int .u8 b):=by rw[h]
theorem RB(n:List Int)(i:Nat)(w:World)(o:Lim 67108864 n)(A:i<16) :
  Calls prog 251 #[.agg (Ag n),.int .i64 i] w λe w'=>e=.returned (.int .u8 (AG (val n) i))/\Bw w w':=by
 obtain⟨a,b,c,d,e,rfl,⟨q,r⟩,⟨s,t⟩,⟨c1,u⟩,⟨v,x⟩,⟨y,z⟩⟩:=o.split;have f:(w.alloc (.cells (Ag [a,b,c,d,e]) 333 (0,0))).heap[w.heap.size]?=some (.cells (Ag [a,b,c,d,e]) 333 (0,0)):=heap_alloc_new _ _;have h:=(cell_of_row _ _ 0 _ _ _ f).trans (Ao _ 0 (by simp));have j:=(cell_of_row _ _ 1 _ _ _ f).trans (Ao _ 1 (by simp));have k:=(cell_of_row _ _ 2 _ _ _ f).trans (Ao _ 2 (by simp));have l:=(cell_of_row _ _ 3 _ _ _ f).trans (Ao _ 3 (by simp));have m:=(cell_of_row _ _ 4 _ _ _ f).trans (Ao _ 4 (by simp));simp only[nf,nw]at h j k l m;have g:Hid (val [a,b,c,d,e]=a+67108864*b+4503599627370496*c+302231454903657293676544*d+20282409603651670423947251286016*e):=CY a b c d e;generalize Ag [a,b,c,d,e]=arr at h j k l m ⊢;generalize val [a,b,c,d,e]=V at g ⊢;clear o f;obtain rfl|rfl|rfl|rfl|rfl|rfl|rfl|rfl|rfl|rfl|rfl|rfl|rfl|rfl|rfl|rfl:i=0\/i=1\/i=2\/i=3\/i=4\/i=5\/i=6\/i=7\/i=8\/i=9\/i=10\/i=11\/i=12\/i=13\/i=14\/i=15:=by omega
 all_goals
  go_enter func251,ntmps251
  go_wp2
  go_ret;refine⟨jc ?_,(Below.refl _ _).alloc (A' _) _⟩;have p:=g.out;clear g h j k l m;unfold AG
  first
   | rw[SZ _ _ 2 4 rfl (by omega) (by omega) (by omega) (by omega)]
   | rw[SZ _ _ 4 16 rfl (by omega) (by omega) (by omega) (by omega)]
   | rw[SZ _ _ 6 64 rfl (by omega) (by omega) (by omega) (by omega)]
   | skip
  subst p;simp only[Int.reducePow];omega
theorem MY{P:Program}{e:Nat}{d:Array Oper}{K:Act->World->Prop}{Q:Exit->Act->World->Prop}{a:Act}(R:World->Prop){A:Act}(c:∀ K':Act->World->Prop,Hid (∀ W2,R W2->K' A W2)->(Code.region e d true).wp P (Exit.then K' Q) a w)(b:∀ W2,R W2->K A W2):(Code.region e d true).wp P (Exit.then K Q) a w:=c K b
theorem Pp(nl:List Int)(v:Value)(s:List Int)(w:World)(h:Sl w v s)(Z:s.length=16)(hn:Lim 67108864 nl) :
  Calls prog 239 #[.agg (Ag nl),v] w λe w'=>∃ v',e=.returned v'/\Sl w' v' (leB 16 (val nl+leN s))/\Bw w w':=by
 obtain⟨⟨a,a3,rfl,hc,a1,O⟩,a0,r⟩:=h;rcases O with rfl|⟨B,off,rfl,hB,hcell⟩
 .simp at Z
 have HC:Hid (∀ i,i<16->w.cell? ⟨B,off+i,none⟩=some (.int .u8 (s.getD i 0))):=λi hi=>hcell i (by omega);have n:Hid (∀ x∈s,0<=x/\x<256):=r;have o:Hid (s.length=16):=Z;rw[Z]at hc ⊢
 clear hcell r a1 a0;obtain⟨J,K,L,M,N,rfl,_⟩:=hn.split;obtain⟨V,X⟩:∃ V,val [J,K,L,M,N]=V:=⟨_,rfl⟩;have HV:Hid (val [J,K,L,M,N]=V):=X;rw[X];clear X;obtain⟨i0,z,A,C,D⟩:=info_parts Ap;go_enter func239,ntmps239
 go_wp2_with (at_make;refine wpList_make_row _ rfl _ _ 41 rfl 5 i0 (.int .u8 0) underlying41 z A C rfl _ _ 16 rfl rfl (by rw[D];omega) (by omega) ?_)
 clear z A C D
 go_loopw [6,11] (λcv i wr=>∃ (k:Nat),k<=16/\i=.int .i64 k/\cv=.int .i64 (Ia (λj=>AG V j+s.getD j 0) k)/\wr.heap[w.heap.size]?=some (.cells (Ag [J,K,L,M,N]) 333 (0,0))/\wr.heap[w.heap.size+1]?=some (.cells (byA (IE (V+leN s) k)) 5 (0,0))/\Bw w wr) (λ_ i _=>16-(intOf i).toNat)
 case atStart =>
  refine⟨0,by omega,rfl,by rw[Np],?_,?_,?_⟩
  .exact heap_alloc2_old _ _ _
  .have e:madeCells #[Value.int .u8 0] 16=byA (IE (V+leN s) 0):=by rw[Xb];kernel_rfl
   rw[e];exact heap_alloc2_new _ _ _
  .exact((Below.refl _ _).alloc (A' _) _).alloc (by simp) _
 case round =>
  obtain⟨k,hk,rfl,rfl,f,g,P⟩:=hrel;by_cases b:k<16
  .have hki:(k:Int)<16:=by omega
   have E:=(cell_of_row _ _ 0 _ _ _ f).trans (Ao _ 0 (by simp));have F:=(cell_of_row _ _ 1 _ _ _ f).trans (Ao _ 1 (by simp));have G:=(cell_of_row _ _ 2 _ _ _ f).trans (Ao _ 2 (by simp));have H:=(cell_of_row _ _ 3 _ _ _ f).trans (Ao _ 3 (by simp));have I:=(cell_of_row _ _ 4 _ _ _ f).trans (Ao _ 4 (by simp));simp only[nf,nw]at E F G H I;have a2:w.heap.size+1<wr.heap.size:=(D'.1 g).1;have U:B<wr.heap.size:=by omega
   have ch:=(P.cell (p:=⟨B,off+k,none⟩) hB).trans (HC.out k b);have t:∀ j,0<=AG V j+s.getD j 0/\AG V j+s.getD j 0<1000:=λj=>by
    have R:=FF V j;have S:=Ae n.out j;omega
   have u:=RD (λj=>AG V j+s.getD j 0) t k;have d:Hid (Ia (λj=>AG V j+s.getD j 0) (k+1)=(Ia (λj=>AG V j+s.getD j 0) k+(AG V k+s.getD k 0))/256):=No _ k;have c:Hid ((Ia (λj=>AG V j+s.getD j 0) k+(AG V k+s.getD k 0))%256=AG (V+leN s) k):=XD V s k b (by rw[o.out];omega);have R:=FF V k;have S:=Ae n.out k;have l:=RB [J,K,L,M,N] k;rw[HV.out]at l
   have m:Hid (∀ W,Calls prog 251 #[.agg (Ag [J,K,L,M,N]),.int .i64 k] W λe w'=>e=.returned (.int .u8 (AG V k))/\Bw W w'):=λW=>l W hn b;have HT:Hid _:=g;have HR:Hid _:=f;have HB:Hid _:=P;clear l t g f P;have a5:=Rk (V+leN s) k;have Q:Hid ((IE (V+leN s) k).set k (AG (V+leN s) k)=IE (V+leN s) (k+1)):=Xa _ k b;generalize Ia (λj=>AG V j+s.getD j 0) k=cy at d c u;generalize AG V k=x at d c R m;generalize s.getD k 0=y at d c S ch;obtain⟨x1,x2⟩:=R;obtain⟨y1,y2⟩:=S;obtain⟨z1,z2⟩:=u;go_wp2_with fail
   apply MY (λW=>Bw wr W)
   .intro K2 HK2
    go_region_with (go_at_call 251;refine(m.out _).mono ?_;rintro e w2 ⟨rfl,q⟩;have a4:=(q.cell (p:=⟨B,off+k,none⟩) U).trans ch)
    all_goals exact HK2.out _ ((Below.refl _ _).drew.trans q)
   intro W Y;have g:=(Y.block _ a2).trans HT.out;have f:=(Y.block _ (by omega)).trans HR.out;have ct:=(cell_of_row _ _ k _ _ _ g).trans (H9 _ k (by omega));have ft:=frozen_of_row _ _ k _ _ g;have T:Bw w W:=HB.out.trans (Y.mono HB.out.size);clear E F G H I ch;generalize (IE (V+leN s) k).getD k 0=c0 at ct;go_wp2
   go_roundw
   case rel =>
    refine⟨k+1,by omega,by go_num,?_,?_,?_,?_⟩
    .rw[d.out]
    .exact(heap_setCell_other _ _ _ _ (by simp)).trans f
    .have O:=Gn g k (AG (V+leN s) k);rw[Q.out,<- c.out]at O
     exact O
    .exact T.setCell (p:=⟨w.heap.size+1,k,none⟩) (by simp) _
   case measure=>simp[intOf];omega
  .have hki:¬ (k:Int)<16:=by omega
   have HK:Hid (k=16):=by unfold Hid;omega
   go_wp2
   go_ret;have hK:=HK.out;subst hK;rw[aW]at g
   exact⟨_,rfl,Sl.rowOf g (Df _ _) (by rw[Df];omega) (Is _ _),P⟩
def WX(key data:List Int):List Int:=leB 16 (gw (leN (Dz (key.take 16))) data+leN (key.drop 16))
theorem Ri(key a:List Int):(WX key a).length=16:=Df _ _
theorem WY(key a:List Int):∀ x∈WX key a,0<=x/\x<256:=Is _ _
theorem Sl.sa(h:Sl w v l):∃ a c,v=.slice a l.length c:=by
 obtain⟨⟨a,b,e,_⟩,_⟩:=h;exact⟨a,b,e⟩
theorem jy(r q:Value)(key a:List Int)(w:World)(g:Sl w r key)(m:Sl w q a)(lk:key.length=32)(A:a.length<=4000) :
  Calls prog 228 #[r,q] w λe w'=>∃ v',e=.returned (.tuple #[v',.int .i64 0])/\Sl w' v' (WX key a)/\Bw w w':=by
 obtain⟨k,l,rfl⟩:=g.sa;obtain⟨ad,J,rfl⟩:=m.sa;rw[lk]at g ⊢
 obtain⟨s,c1,c,o⟩:=g.gm 16 (by omega);obtain⟨t,u,d,p⟩:=g.from 16 (by omega);have v:∀ W,(Instr.slice 41 (.slice k 32 l) none (some (.int .i64 16)) none).run prog W=.ok (.slice s 16 c1) W:=c;have x:∀ W,(Instr.slice 41 (.slice k 32 l) (some (.int .i64 16)) none none).run prog W=.ok (.slice t 16 u) W:=d;clear c d;have lt:(key.take 16).length=16:=by rw[mH];omega
 have n:(key.drop 16).length=16:=by rw[mJ];omega
 have B:¬ (4000:Int)<(a.length:Int):=by omega
 have h:Hid (WX key a=leB 16 (gw (leN (Dz (key.take 16))) a+leN (key.drop 16))):=rfl;generalize key.take 16=K1 at o lt h;generalize key.drop 16=K2 at p n h;clear g lk;have j:Hid (a.length<=4000):=A;go_enter func228,ntmps228
 go_wp2_with fail
 go_region_with (first
  | (go_at_call 241;refine(Se _ K1 _ (o.ab ((Below.refl _ _).drew)) lt).mono ?_;rintro e K ⟨D,rfl,y,F,b⟩)
  | (go_at_call 240;refine(OG D (leN (Dz K1)) _ a _ (m.ab ((Below.refl _ _).drew.trans b)) j.out y F).mono ?_;rintro e I ⟨C,rfl,z,G,f⟩)
  | (go_at_call 239;refine(Pp C _ K2 _ (p.ab (((Below.refl _ _).drew.trans b).trans (f.mono b.size))) n z).mono ?_;rintro e L ⟨H,rfl,E,i⟩))
 all_goals
  go_wp2
  go_ret2
  refine⟨H,rfl,?_,?_⟩
  .rw[h.out,<- G];exact E
  .have b3:Bw w I:=((Below.refl _ _).drew.trans b).trans (f.mono b.size);exact b3.trans (i.mono b3.size)
def gap(n:Nat):Nat:=(16-n%16)%16
def Ea(l:List Int):List Int:=l++List.replicate (gap l.length) 0
theorem Ek(l:List Int):(Ea l).length=l.length+gap l.length:=by rw[Ea,I',oE]
theorem Hc(n:Nat):gap n<16:=by unfold gap;omega
theorem U0(n:Nat):(n+gap n)%16=0:=by unfold gap;omega
theorem VH(n j:Nat)(h:j<gap n):¬ (n+j)%16=0:=by unfold gap at h;omega
theorem df(n m:Nat)(h:n%16=0):gap (n+m)=gap m:=by unfold gap;omega
theorem NW(h:∀ x∈l,0<=x/\x<256):∀ x∈Ea l,0<=x/\x<256:=by
 intro x a;rcases Z'.1 a with h1|h1
 .exact h x h1
 .rw[(pB.1 h1).2];omega
theorem Zy(a s:List Int):Ea (Ea a++s)=Ea a++Ea s:=by
 have h:(Ea a).length%16=0:=by rw[Ek];exact U0 _
 rw[Ea,I',df _ _ h,mN];rfl
theorem YR(k:Nat)(v:Int):leB (k+1) v=leB k v++[AG v k]:=by
 simp[leB,List.range_succ]
def FR(a s:List Int):List Int:=Ea a++Ea s++leB 8 (a.length:Int)++leB 8 (s.length:Int)
theorem Ir(a s:List Int):(FR a s).length=a.length+gap a.length+(s.length+gap s.length)+8+8:=by
 simp only[FR,I',Ek,Df]
theorem SE{s:List Int}(b:∀ x∈a,0<=x/\x<256)(c:∀ x∈s,0<=x/\x<256):∀ x∈FR a s,0<=x/\x<256:=by
 intro x hx;rcases Z'.1 hx with hx|hx
 .rcases Z'.1 hx with hx|hx
  .rcases Z'.1 hx with hx|hx
   .exact NW b x hx
   .exact NW c x hx
  .exact Is _ _ x hx
 .exact Is _ _ x hx
def DW(key nonce a s:List Int):List Int:=WX ((Co (BI key (BitVec.ofNat 32 0) nonce)).take 32) (FR a s)
theorem IB(key b a s:List Int):(DW key b a s).length=16:=Ri _ _
theorem Ml(key b a s:List Int):∀ x∈DW key b a s,0<=x/\x<256:=WY _ _
def Em(key nonce p:List Int):List Int:=Qu (BI key (BitVec.ofNat 32 1) nonce) p
theorem Fz(key a p:List Int):(Em key a p).length=p.length:=Qv _ _
def I8(key nonce a p:List Int):List Int:=Em key nonce p++DW key nonce a (Em key nonce p)
theorem I9(key b a p:List Int):(I8 key b a p).length=p.length+16:=by
 rw[I8,I',Fz,IB]
theorem Ke(v:Value)(l:List Int)(B:Nat)(w:World)(p:w.ownsRow B 5 1 v l.length (l.map (Value.int .u8)))(D:B<=w.heap.size)(I:l.length<=100000) :
  Calls prog 242 #[v] w λe w'=>∃ v',e=.returned v'/\w'.ownsRow B 5 1 v' (Ea l).length ((Ea l).map (Value.int .u8))/\Below B w w':=by
 have r:Hid (Ea l=l++List.replicate (gap l.length) 0):=rfl;have E:=Hc l.length;have s:Hid (∀ j,j<gap l.length->¬ (l.length+j)%16=0):=λj x=>VH _ _ x;have q:Hid ((l.length+gap l.length)%16=0):=U0 _;obtain⟨a0,c0,rfl⟩:=Ej p;generalize gap l.length=G at r E s q;go_enter func242,ntmps242
 go_wp2_with fail
 go_loopw [0] (λv wr=>∃ (j:Nat) (a:Option Addr) (f:Nat),j<=G/\v=.slice a (l.length+j) f/\wr.ownsRow B 5 1 v (l++List.replicate j 0).length ((l++List.replicate j 0).map (Value.int .u8))/\Below B w wr) (λv _=>l.length+G-YV v)
 case atStart=>exact⟨0,a0,c0,by omega,rfl,by simpa using p,Below.refl _ _⟩
 case round =>
  clear p;obtain⟨j,a,f,x,rfl,b,d⟩:=hrel;have h:=b.lt;by_cases o:j<G
  .have t:=s.out j o;have u:¬ ((l.length:Int)+j)%16=0:=by omega
   go_wp2_with (at_builtin;refine Aa _ rfl _ _ 41 rfl B 5 underlying41 Ap _ _ rfl rfl (l++List.replicate j 0) [0] (b.alloc _) (Sl.one _ _ _ rfl (by omega)) (by simp;omega) (by have:=d.size;simp;omega) ?_)
   intro H y i g;have c:y.ownsRow B 5 1 H (l++List.replicate (j+1) 0).length ((l++List.replicate (j+1) 0).map (Value.int .u8)):=by rw[<- Mf];simpa using i
   have n:Below B w y:=(d.alloc (mI D d.size) _).grown g (by have:=d.size;simp;omega) (λk F=>(h k F).1);obtain⟨z,A,m⟩:=Ej c;rw[I',oE]at m
   subst m;clear i g b h d t u;go_wp2
   go_roundw
   case rel=>exact⟨j+1,z,A,by omega,rfl,c,n⟩
   case measure=>simp[YV];omega
  .have HJ:Hid (G=j):=by unfold Hid;omega
   have C:=q.out;have t:((l.length:Int)+j)%16=0:=by have:=HJ.out;omega
   have u:(((l.length:Int)+j)%16 != 0)=false:=by simp;omega
   clear C;go_wp2
   go_ret;refine⟨_,rfl,?_,d⟩;rw[r.out,HJ.out];exact b
theorem Gj(v:Value)(l:List Int)(n:Nat)(B:Nat)(w:World)(r:w.ownsRow B 5 1 v l.length (l.map (Value.int .u8)))(A:B<=w.heap.size)(G:l.length<=100000)(H:n<=100000) :
  Calls prog 243 #[v,.int .i64 n] w λe w'=>∃ v',e=.returned v'/\w'.ownsRow B 5 1 v' (l++leB 8 (n:Int)).length ((l++leB 8 (n:Int)).map (Value.int .u8))/\Below B w w':=by
 go_enter func243,ntmps243
 go_wp2_with fail
 go_loopw [0,1,5] (λv s i wr=>∃ k:Nat,k<=8/\i=.int .i64 k/\s=.int .i64 ((n:Int)/256^k)/\wr.ownsRow B 5 1 v (l++leB k (n:Int)).length ((l++leB k (n:Int)).map (Value.int .u8))/\Below B w wr) (λ_ _ i _=>8-(intOf i).toNat)
 case atStart=>exact⟨0,by omega,rfl,by simp,by simpa[leB]using r,Below.refl _ _⟩
 case round =>
  clear r;obtain⟨k,q,rfl,rfl,a,c⟩:=hrel;have h:=a.lt;by_cases C:k<8
  .have hki:(k:Int)<8:=by omega
   obtain⟨x,d⟩:∃ x:Int,(n:Int)/256^k=x:=⟨_,rfl⟩;have t:(0:Int)<256^k:=LX k;have D:0<=x:=by rw[<- d];exact Int.ediv_nonneg (by omega) (by omega)
   have E:x<=100000:=by rw[<- d];have:=Int.ediv_le_self (256^k) (show(0:Int)<=n by omega);omega
   have z:Hid ((n:Int)/256^(k+1)=x/256):=by unfold Hid;rw[p7,<- pL (pV t),d]
   have b:Hid (x%256=AG n k):=by unfold Hid AG;rw[d]
   have g:=Df k (n:Int);have o:Hid (leB (k+1) (n:Int)=leB k n++[AG n k]):=YR k _;rw[d];clear d t;generalize leB k (n:Int)=pre at a o g;generalize AG (n:Int) k=y at b o;go_wp2_with (at_builtin;refine Aa _ rfl _ _ 41 rfl B 5 underlying41 Ap _ _ rfl rfl (l++pre) [y] (a.alloc _) (Sl.sB _ _ _ _ rfl ?_ ?_) (by simp;omega) (by have:=c.size;simp;omega) ?_)
   .have:=b.out;omega
   .have:=b.out;omega
   intro F u j f;have m:u.ownsRow B 5 1 F (l++(pre++[y])).length ((l++(pre++[y])).map (Value.int .u8)):=by rw[<- mN];simpa[g]using j
   have p:Below B w u:=(c.alloc (mI A c.size) _).grown f (by have:=c.size;simp;omega) (λk q=>(h k q).1);clear j f a h c;go_wp2
   go_roundw
   case rel=>exact⟨k+1,by omega,by go_num,by rw[z.out],by rw[o.out];exact m,p⟩
   case measure=>simp[intOf];omega
  .obtain rfl:k=8:=by omega
   go_wp2
   go_ret;exact⟨_,rfl,a,c⟩
theorem YO(O P:Value)(a s:List Int)(w:World)(z:Sl w O a)(B:Sl w P s)(U:a.length<=10000)(V:s.length<=10000) :
  Calls prog 229 #[O,P] w λe w'=>∃ v',e=.returned v'/\Sl w' v' (FR a s)/\Bw w w':=by
 have f:Hid (FR a s=Ea (Ea a++s)++leB 8 (a.length:Int)++leB 8 (s.length:Int)):=by unfold Hid;rw[Zy];rfl
 have R:Hid (∀ x∈FR a s,0<=x/\x<256):=SE z.byte B.byte;have Q:Hid ((FR a s).length<=30000):=by unfold Hid;rw[Ir];have:=Hc a.length;have:=Hc s.length;omega
 have H:(Ea a).length<=11000:=by rw[Ek];have:=Hc a.length;omega
 have i:(Ea (Ea a++s)).length<=30000:=by rw[Ek,I'];have:=Hc ((Ea a).length+s.length);omega
 obtain⟨aa,ca,rfl⟩:=z.shape;obtain⟨S,cs,rfl⟩:=B.shape;generalize L:a.length=n at U f z ⊢;generalize K:s.length=m at V f B ⊢;have l:Hid (a.length=n):=L;have j:Hid (s.length=m):=K;clear L K;go_enter func229,ntmps229
 go_wp2_with (at_builtin;refine Aa _ rfl _ _ 41 rfl w.heap.size 5 underlying41 Ap _ _ rfl rfl [] a (World.ownsRow_nil _ _ _ _) z (by have:=l.out;simp;omega) (A' _) ?_)
 intro M I c p;have C:Bw w I:=(Below.refl _ _).grown p (A' _) (by simp[Value.ownBlock]);replace c:I.ownsRow w.heap.size 5 1 M a.length (a.map (Value.int .u8)):=by simpa using c
 clear p;go_wp2_with fail
 refine(Ke M a w.heap.size I c C.size (by have:=l.out;omega)).mono ?_;rintro e w2 ⟨v2,rfl,d,g⟩;replace g:=C.trans g;clear c C;have v:=B.ab g;have r:=d.lt;generalize Ea a=A at f H i d;go_wp2_with (at_builtin;refine Aa _ rfl _ _ 41 rfl w.heap.size 5 underlying41 Ap _ _ rfl rfl A s d v (by have:=j.out;omega) g.size ?_)
 intro N J b q;have D:Bw w J:=g.grown q g.size (λk T=>(r k T).1);clear q r d g v;replace b:J.ownsRow w.heap.size 5 1 N (A++s).length ((A++s).map (Value.int .u8)):=by simpa using b
 have F:(A++s).length<=21000:=by rw[I'];have:=j.out;omega
 generalize A++s=AS at f i b F;go_wp2_with fail
 refine(Ke N AS w.heap.size J b D.size (by omega)).mono ?_;rintro e Z ⟨W,rfl,h,o⟩;replace o:=D.trans o;clear b D;generalize Ea AS=X at f i h;go_wp2_with fail
 refine(Gj W X n w.heap.size Z h o.size (by omega) (by omega)).mono ?_;rintro e w5 ⟨Y,rfl,t,y⟩;replace y:=o.trans y;have G:(X++leB 8 (n:Int)).length<=30008:=by rw[I',Df];omega
 clear h o;generalize X++leB 8 (n:Int)=X5 at f G t;go_wp2_with fail
 refine(Gj Y X5 m w.heap.size w5 t y.size (by omega) (by omega)).mono ?_;rintro e w6 ⟨v6,rfl,u,E⟩;replace E:=y.trans E;rw[<- f.out]at u
 go_wp2
 go_ret;exact⟨_,rfl,Sl.eD u (by have:=Q.out;omega) R.out,E⟩
def FN(key nonce a:List Int):Bool:=decide (key.length=32)&&decide (nonce.length=12)&&decide (a.length<=256)
theorem Gx(h i g:Value)(key b a:List Int)(w:World)(d:Sl w h key)(f:Sl w i b)(c:Sl w g a) :
  Calls prog 197 #[h,i,g] w λe w'=>e=.returned (.bool (FN key b a))/\w'=w:=by
 have j:=d.len;have k:=f.len;have l:=c.len;obtain⟨n,q,rfl⟩:=d.shape;obtain⟨o,r,rfl⟩:=f.shape;obtain⟨m,p,rfl⟩:=c.shape;unfold FN;generalize key.length=n1 at j d ⊢;generalize b.length=n2 at k f ⊢;generalize a.length=n3 at l c ⊢;clear d f c;by_cases c1:(n1:Int)=32
 .by_cases c2:(n2:Int)=12
  .by_cases c3:(n3:Int)<=256
   .go_enter func197,ntmps197
    go_wp2
    go_ret;refine⟨Aj ?_,rfl⟩;simp;omega
   .go_enter func197,ntmps197
    go_wp2
    go_ret;refine⟨Aj ?_,rfl⟩;simp;omega
  .go_enter func197,ntmps197
   go_wp2
   go_ret;refine⟨Aj ?_,rfl⟩;simp;omega
 .go_enter func197,ntmps197
  go_wp2
  go_ret;refine⟨Aj ?_,rfl⟩;simp;omega
theorem XA(b d:Value)(key a:List Int)(x:Int)(c:Nat)(j:x=(c:Int))(w:World)(g:Sl w b key)(h:Sl w d a)(lk:key.length=32)(k:a.length=12)(f:c<=1073741824)(i:Cm w) :
  Calls prog 227 #[b,.int .i64 x,d] w λe w'=>∃ v',e=.returned (.tuple #[v',.int .i64 0])/\Got w w' v' (Co (BI key (BitVec.ofNat 32 c) a)):=by
 subst j;exact XB b d key a c w g h lk k f i
theorem Pj(u v D E:Value)(key b a s:List Int)(w:World)(y:Sl w u key)(z:Sl w v b)(x:Sl w D a)(A:Sl w E s)(lk:key.length=32)(B:b.length=12)(L:a.length<=256)(M:s.length<=2000)(J:Cm w) :
  Calls prog 199 #[u,v,D,E] w λe w'=>∃ v',e=.returned (.tuple #[v',.int .i64 0])/\Sl w' v' (DW key b a s)/\Bw w w':=by
 have o:Hid (DW key b a s=WX ((Co (BI key (BitVec.ofNat 32 0) b)).take 32) (FR a s)):=rfl;have g:(FR a s).length<=4000:=by rw[Ir];have:=Hc a.length;have:=Hc s.length;omega
 go_enter func199,ntmps199
 go_wp2_with fail
 refine(XA u v key b 0 0 rfl w y z lk B (by omega) J).mono ?_;rintro e S ⟨R,rfl,p⟩;have j:=p.sl;have k:=p.ln;clear p;have d:=Et (BI key (BitVec.ofNat 32 0) b);generalize Co (BI key (BitVec.ofNat 32 0) b)=bs at o j d;obtain⟨G,H,rfl⟩:=j.shape;rw[d]at j ⊢
 obtain⟨F,c1,c,C⟩:=j.gm 32 (by omega);have I:∀ W,(Instr.slice 41 (.slice G 64 H) none (some (.int .i64 32)) none).run prog W=.ok (.slice F 32 c1) W:=c;have lt:(bs.take 32).length=32:=by rw[mH];omega
 generalize bs.take 32=K at o C lt;have q:=x.ab k;have t:=A.ab k;clear c j d;have h:a.length<=10000:=by omega
 have i:s.length<=10000:=by omega
 have l:Hid (a.length<=10000):=h;have n:Hid (s.length<=10000):=i;have m:Hid ((FR a s).length<=4000):=g;clear L M h i g y z x A lk B;go_wp2_with fail
 go_region_with (first
  | (go_at_call 229;refine(YO _ _ a s _ (q.ab ((Below.refl _ _).drew)) (t.ab ((Below.refl _ _).drew)) l.out n.out).mono ?_;rintro e P ⟨Q,rfl,N,f⟩)
  | (go_at_call 228;refine(jy _ _ K _ _ (C.ab ((Below.refl _ _).drew.trans f)) N lt m.out).mono ?_;rintro e T ⟨O,rfl,s3,r⟩))
 all_goals
  go_wp2
  go_ret2
  refine⟨O,rfl,?_,?_⟩
  .rw[o.out];exact s3
  .have b2:Bw w P:=k.trans (((Below.refl _ _).drew.trans f).mono k.size);exact b2.trans (r.mono b2.size)
theorem Qt(c f b:Value)(key a d:List Int)(w:World)(h:Sl w c key)(i:Sl w f a)(g:Sl w b d)(lk:key.length=32)(l:a.length=12)(k:d.length<=2000)(j:Cm w) :
  Calls prog 198 #[c,.int .i64 1,f,b] w λe w'=>∃ v',e=.returned (.tuple #[v',.int .i64 0])/\w'.ownsRow w.heap.size 5 1 v' (Em key a d).length ((Em key a d).map (Value.int .u8))/\Bw w w' :=
 dJ c f b key a d 1 w h i g lk l (by omega) k j
def NwV(B:Nat)(v:Value):Prop:=∀ a n c,v=.slice (some a) n c->B<=a.block
theorem NwV.own{B k:Nat}(h:w.ownsRow B e k v n xs):NwV B v:=λa m c e=>(h.lt a.block (by rw[e];rfl)).1
theorem Ft{b:World}{a:Nat}(h:w.ownsRow a e 1 v n xs)(c:Bw w b):b.ownsRow a e 1 v n xs :=
 EL h λk d=>c.block k (h.lt k d).2
theorem Je(h:FN key nonce a=true):key.length=32/\nonce.length=12/\a.length<=256:=by
 unfold FN at h;simp at h;omega
theorem ai(o q v K:Value)(key b a p:List Int)(w:World)(i:Sl w o key)(s:Sl w q b)(A:Sl w v a)(t:Sl w K p)(E:FN key b a=true)(U:p.length<=2000)(D:Cm w) :
  Calls prog 157 #[o,q,v,K] w λe w'=>∃ v',e=.returned (.tuple #[v',.int .i64 0])/\Sl w' v' (I8 key b a p)/\NwV w.heap.size v'/\Bw w w':=by
 obtain⟨lk,F,S⟩:=Je E;have j:=D.pos;have y:Hid (I8 key b a p=Em key b p++DW key b a (Em key b p)):=rfl;have n:=Fz key b p;have g:∀ x∈Em key b p,0<=x/\x<256:=Jj _ t.byte;have Q:¬ (2000:Int)<(p.length:Int):=by omega
 obtain⟨W,Y,rfl⟩:=t.shape;go_enter func157,ntmps157
 go_wp2_with fail
 refine(Gx o q v key b a w i s A).mono ?_;rintro e r ⟨rfl,rfl⟩;rw[E];go_wp2_with fail
 refine(Qt o q _ key b p r i s t lk F U D).mono ?_;rintro e M ⟨L,rfl,u,d⟩;generalize Em key b p=X at y n g u;have H:Sl M L X:=Sl.eD u (by omega) g;go_wp2_with fail
 refine(Pj o q v L key b a X M (i.ab d) (s.ab d) (A.ab d) H lk F S (by omega) (D.ab j d)).mono ?_;rintro e V ⟨Z,rfl,I,z⟩;have G:=Ft u z;have C:=G.lt;have f:Bw r V:=d.trans (z.mono d.size);have m:=IB key b a X;have l:=Ml key b a X;generalize DW key b a X=T at y I m l;have P:X.length<=2000:=by omega
 clear n u H d z i s A t;go_wp2_with (at_builtin;refine Aa _ rfl _ _ 41 rfl r.heap.size 5 underlying41 Ap _ _ rfl rfl X T G I (by omega) f.size ?_)
 intro J N c B;replace c:N.ownsRow r.heap.size 5 1 J (X++T).length ((X++T).map (Value.int .u8)):=by simpa[m]using c
 have O:Bw r N:=f.grown B f.size (λk i=>(C k i).1);go_wp2
 go_ret2
 refine⟨J,rfl,?_,.own c,O⟩;rw[y.out];refine Sl.eD c (by rw[I'];omega) ?_;intro x R;rcases Z'.1 R with h|h
 .exact g x h
 .exact l x h
theorem eJ(d f c g:Value)(key b a p:List Int)(w:World)(m:Sl w d key)(n:Sl w f b)(k:Sl w c a)(o:Sl w g p)(l:FN key b a=true)(r:p.length<=2000)(q:Cm w) :
  Calls prog 157 #[d,f,c,g] w λe w'=>∃ v',e=.returned (.tuple #[v',.int .i64 0])/\Sl w' v' (I8 key b a p)/\Bw w w' :=
 (ai d f c g key b a p w m n k o l r q).mono λe w' ⟨v,h,i,_,j⟩=>⟨v,h,i,j⟩
def D4(key nonce a d:List Int):Int :=
 if FN key nonce a=true/\d.length<=2016 then(if d.length<16 then 13 else if DW key nonce a (d.take (d.length-16))=d.drop (d.length-16)then 0 else 6)else 1
def NV(key nonce a d:List Int):List Int:=if D4 key nonce a d=0 then Em key nonce (d.take (d.length-16))else[]
theorem dX(g i f o:Value)(key b a d:List Int)(w:World)(m:Sl w g key)(n:Sl w i b)(k:Sl w f a)(l:Sl w o d)(j:FN key b a=false\/2016<d.length) :
  Calls prog 247 #[g,i,f,o] w λe w'=>e=.returned (.tuple #[.slice none 0 0,.int .i64 1])/\w'=w:=by
 have s:=l.len;obtain⟨q,r,rfl⟩:=l.shape;by_cases c:FN key b a=true
 .have hpl:(2016:Int)<(d.length:Int):=by
   rcases j with h|h
   .rw[c]at h;cases h
   .omega
  go_enter func247,ntmps247
  go_wp2_with fail
  refine(Gx g i f key b a w m n k).mono ?_;rintro e p ⟨rfl,rfl⟩;rw[c];go_wp2
  go_ret2
  exact⟨rfl,rfl⟩
 .rw[Bool.not_eq_true]at c
  go_enter func247,ntmps247
  go_wp2_with fail
  refine(Gx g i f key b a w m n k).mono ?_;rintro e p ⟨rfl,rfl⟩;rw[c];go_wp2
  go_ret2
  exact⟨rfl,rfl⟩
theorem SY(f g c h:Value)(key b a d:List Int)(w:World)(l:Sl w f key)(m:Sl w g b)(i:Sl w c a)(j:Sl w h d)(k:FN key b a=true)(q:d.length<16) :
  Calls prog 247 #[f,g,c,h] w λe w'=>e=.returned (.tuple #[.slice none 0 0,.int .i64 13])/\w'=w:=by
 obtain⟨o,p,rfl⟩:=j.shape;have n:(d.length:Int)<16:=by omega
 go_enter func247,ntmps247
 go_wp2_with fail
 refine(Gx f g c key b a w l m i).mono ?_;rintro e r ⟨rfl,rfl⟩;rw[k];go_wp2
 go_ret2
 exact⟨rfl,rfl⟩
theorem Zs(r s q H:Value)(key b a d:List Int)(w:World)(l:Sl w r key)(n:Sl w s b)(k:Sl w q a)(f:Sl w H d)(E:FN key b a=true)(m:Nat)(F:d.length=m+16)(V:m<=2000)(o:Cm w)(G:DW key b a (d.take m)≠d.drop m) :
  Calls prog 247 #[r,s,q,H] w λe w'=>e=.returned (.tuple #[.slice none 0 0,.int .i64 6])/\Bw w w':=by
 obtain⟨lk,N,M⟩:=Je E;have h:=o.pos;have i:=f.byte;obtain⟨ad,U,rfl⟩:=f.shape;rw[F]at f ⊢
 obtain⟨R,c1,A,p⟩:=f.gm m (by omega);obtain⟨S,T,g,j⟩:=f.from m (by omega);rw[Nat.add_sub_cancel_left]at g j
 have B:(d.take m).length=m:=by rw[mH];omega
 have Q:∀ x∈d.take m,0<=x/\x<256:=λx K=>i x (mY K);have y:Hid (DW key b a (d.take m)≠d.drop m):=G;clear G;generalize d.take m=D at p B Q y ⊢;generalize d.drop m=L at j y;have v:Hid (D.length=m):=B;clear f F i B;go_enter func247,ntmps247
 go_wp2_with fail
 refine(Gx r s q key b a w l n k).mono ?_;rintro e t ⟨rfl,rfl⟩;rw[E];go_wp2_with fail
 go_quiet (fail)
 have c:Bw t (t.drewN nq):=Ak (Below.refl _ _) nq;generalize t.drewN nq=w1 at c ⊢;replace l:=l.ab c;replace n:=n.ab c;replace k:=k.ab c;replace p:=p.ab c;replace j:=j.ab c;replace o:=o.ab h c;clear A g;go_wp2_with fail
 refine(Pj r s q _ key b a D w1 l n k p lk N M (by have:=v.out;omega) o).mono ?_;rintro e u ⟨P,rfl,O,z⟩;go_wp2_with fail
 refine(I7 P _ (DW key b a D) L u O (j.ab z)).mono ?_;rintro e W ⟨rfl,C,rfl⟩;have I:Bw u (u.drewN C):=Ak (Below.refl _ _) C;have J:Bw t (u.drewN C):=c.trans ((z.trans (I.mono z.size)).mono c.size);rw[G' y.out];go_wp2
 go_ret2
 exact⟨rfl,J⟩
theorem dY(B C F S:Value)(key b a d:List Int)(w:World)(g:Sl w B key)(h:Sl w C b)(u:Sl w F a)(p:Sl w S d)(N:FN key b a=true)(m:Nat)(O:d.length=m+16)(hl:m<=2000)(j:Cm w)(P:DW key b a (d.take m)=d.drop m) :
  Calls prog 247 #[B,C,F,S] w λe w'=>∃ v',e=.returned (.tuple #[v',.int .i64 0])/\Sl w' v' (Em key b (d.take m))/\NwV w.heap.size v'/\Bw w w':=by
 obtain⟨lk,Q,la⟩:=Je N;have i:=j.pos;have z:=p.byte;obtain⟨ad,cd,rfl⟩:=p.shape;rw[O]at p ⊢
 obtain⟨a1,c1,I,k⟩:=p.gm m (by omega);obtain⟨a2,c2,v,q⟩:=p.from m (by omega);rw[Nat.add_sub_cancel_left]at v q
 have J:(d.take m).length=m:=by rw[mH];omega
 have V:∀ x∈d.take m,0<=x/\x<256:=λx Y=>z x (mY Y);have G:Hid (DW key b a (d.take m)=d.drop m):=P;clear P;generalize d.take m=D at k J V G ⊢;generalize d.drop m=L at q G;have l:Hid (D.length=m):=J;clear p O z J;go_enter func247,ntmps247
 go_wp2_with fail
 refine(Gx B C F key b a w g h u).mono ?_;rintro e r ⟨rfl,rfl⟩;rw[N];go_wp2_with fail
 go_quiet (fail)
 have f:Bw r (r.drewN nq):=Ak (Below.refl _ _) nq;generalize r.drewN nq=w1 at f ⊢;replace g:=g.ab f;replace h:=h.ab f;replace u:=u.ab f;replace k:=k.ab f;replace q:=q.ab f;replace j:=j.ab i f;clear I v;go_wp2_with fail
 refine(Pj B C F _ key b a D w1 g h u k lk Q la (by have:=l.out;omega) j).mono ?_;rintro e s ⟨vt,rfl,R,o⟩;go_wp2_with fail
 refine(I7 vt _ (DW key b a D) L s R (q.ab o)).mono ?_;rintro e T ⟨rfl,A,rfl⟩;have H:Bw s (s.drewN A):=Ak (Below.refl _ _) A;have E:Bw r (s.drewN A):=f.trans ((o.trans (H.mono o.size)).mono f.size);rw[N' G.out];have t:Bw w1 (s.drewN A):=o.trans (H.mono o.size);replace g:=g.ab t;replace h:=h.ab t;replace k:=k.ab t;replace j:=j.ab (X' i f.size) t;have Z:=Fz key b D;have y:∀ x∈Em key b D,0<=x/\x<256:=Jj _ V;clear q R u H o;generalize s.drewN A=T at g h k j E t ⊢;go_wp2_with fail
 refine(Qt B C _ key b D T g h k lk Q (by have:=l.out;omega) j).mono ?_;rintro e U ⟨M,rfl,K,W⟩;have s4:Sl U M (Em key b D):=Sl.eD K (by have:=l.out;omega) y;have X:Bw r U:=E.trans (W.mono E.size);have n4:NwV r.heap.size M:=λa n c e=>mI E.size (NwV.own K a n c e);clear K y;go_wp2
 go_ret2
 exact⟨M,rfl,s4,n4,X⟩
theorem Wn(i j f g:Value)(key c a d:List Int)(w:World)(m:Sl w i key)(n:Sl w j c)(k:Sl w f a)(l:Sl w g d)(o:Cm w) :
  Calls prog 247 #[i,j,f,g] w λe w'=>∃ v',e=.returned (.tuple #[v',.int .i64 (D4 key c a d)])/\Sl w' v' (NV key c a d)/\NwV w.heap.size v'/\Bw w w':=by
 unfold NV;by_cases h:FN key c a=true/\d.length<=2016
 .by_cases h16:d.length<16
  .have hE:D4 key c a d=13:=by unfold D4;rw[if_pos h,if_pos h16]
   rw[hE,if_neg (by omega)];refine(SY i j f g key c a d w m n k l h.1 h16).mono ?_;rintro e p ⟨rfl,rfl⟩;exact⟨_,rfl,Sl.nil _ _,λ_ _ _ e=>(by cases e),Below.refl _ _⟩
  .by_cases hq:DW key c a (d.take (d.length-16))=d.drop (d.length-16)
   .have hE:D4 key c a d=0:=by unfold D4;rw[if_pos h,if_neg h16,if_pos hq]
    rw[hE,if_pos rfl];exact dY i j f g key c a d w m n k l h.1 (d.length-16) (by omega) (by omega) o hq
   .have hE:D4 key c a d=6:=by unfold D4;rw[if_pos h,if_neg h16,if_neg hq]
    rw[hE,if_neg (by omega)];refine(Zs i j f g key c a d w m n k l h.1 (d.length-16) (by omega) (by omega) o hq).mono ?_;rintro e p ⟨rfl,b⟩;exact⟨_,rfl,Sl.nil _ _,λ_ _ _ e=>(by cases e),b⟩
 .have hE:D4 key c a d=1:=by unfold D4;rw[if_neg h]
  rw[hE,if_neg (by omega)];refine(dX i j f g key c a d w m n k l ?_).mono ?_
  .by_cases hf:FN key c a=true
   .exact .inr (by have:¬ d.length<=2016:=λq=>h ⟨hf,q⟩;omega)
   .exact .inl (by simpa using hf)
  .rintro e p ⟨rfl,rfl⟩;exact⟨_,rfl,Sl.nil _ _,λ_ _ _ e=>(by cases e),Below.refl _ _⟩
theorem Zr(g h c f:Value)(key b a d:List Int)(w:World)(n:Sl w g key)(o:Sl w h b)(l:Sl w c a)(m:Sl w f d)(p:Cm w) :
  Calls prog 247 #[g,h,c,f] w λe w'=>∃ v',e=.returned (.tuple #[v',.int .i64 (D4 key b a d)])/\Sl w' v' (NV key b a d)/\Bw w w' :=
 (Wn g h c f key b a d w n o l m p).mono λe w' ⟨v,i,j,_,k⟩=>⟨v,i,j,k⟩
theorem T5(key a:List Int){p:List Int}(b:∀ x∈p,0<=x/\x<256):∀ x∈Em key a p,0<=x/\x<256:=Jj _ b
theorem Tz(key b a:List Int){p:List Int}(c:∀ x∈p,0<=x/\x<256):∀ x∈I8 key b a p,0<=x/\x<256:=by
 intro x d;rcases Z'.1 d with h|h
 .exact T5 key b c x h
 .exact Ml _ _ _ _ x h
theorem cU(lk:key.length=32)(c:nonce.length=12)(b:a.length<=256):FN key nonce a=true:=by
 unfold FN;simp;omega
end
end
section
def K3(key:List Int)(n:Int)(p:List Int):List Int:=Af n++I8 key (Bk (Af n)) (Af n) p
theorem FX(key:List Int)(n:Int)(p:List Int):(K3 key n p).length=p.length+20:=by
 rw[K3,I',Cj,I9];omega
theorem W8(key:List Int)(n:Int){p:List Int}(a:∀ x∈p,0<=x/\x<256):∀ x∈K3 key n p,0<=x/\x<256:=by
 intro x b;rcases Z'.1 b with h|h
 .exact AT n x h
 .exact Tz _ _ _ a x h
def DT(key:List Int)(s t:Int)(l:List Bool)(p:List Int):Int:=if ¬ OkC key s t l then 5 else if 2000<p.length then 1 else if s=1073741824 then 8 else 0
def Cl(key:List Int)(s t:Int)(l:List Bool)(r:List Int):Int :=
 if ¬ OkC key s t l then 5 else if 2020<r.length then 1 else if r.length<20 then 13 else if 1073741824<=Fr (r.take 4)then 2 else if Hj t l (Fr (r.take 4))=true then 7
 else D4 key (Bk (r.take 4)) (r.take 4) (r.drop 4)
def Kj(key:List Int)(r:List Int):List Int:=NV key (Bk (r.take 4)) (r.take 4) (r.drop 4)
end
section
open Go.RowKit
section
structure Bt(w:World)(g:Nat)(c r u:Int):Prop where
 lt:g<w.heap.size
 row:w.heap[g]?=some (.cells (tkA c r u) 101)
theorem Bt.made(w:World)(c r u:Int):Bt (w.alloc (.cells (tkA c r u) 101)) w.heap.size c r u:=⟨by simp,heap_alloc_new _ _⟩
variable{c r u:Int}{g:Nat}{key:List Int}{w:World}
theorem Bt.ab{b:World}(h:Bt w g c r u)(a:Bw w b):Bt b g c r u :=
 ⟨X' h.lt a.size,(a.block g h.lt).trans h.row⟩
theorem II(c r u:Int):(prog.info? 101).map (·.size)=some (tkA c r u).size:=by show _=some 3;kernel_rfl
theorem J7{a:TypeId}{fr:Nat × Nat}(h:w.heap[g]?=some (.cells (tkA c r u) a fr)) :
  w.cell? ⟨g,0,none⟩=some (.int .i64 c)/\w.cell? ⟨g,1,none⟩=some (.int .i64 r)/\w.cell? ⟨g,2,none⟩=some (.int .i64 u) :=
 ⟨cell_of_row _ _ 0 _ _ _ h,cell_of_row _ _ 1 _ _ _ h,cell_of_row _ _ 2 _ _ _ h⟩
theorem Ji(c r u:Int)(w:World) :
  Calls prog 101 #[.agg (tkA c r u)] w λe w'=>e=.returned (.bool (decide (Da c r u)))/\Bw w w':=by
 have b:Bw w (w.alloc (.cells (tkA c r u) 101)):=(Below.refl _ _).alloc (A' _) _;have i:=Bt.made w c r u;generalize k:w.alloc (.cells (tkA c r u) 101)=W at b i;obtain⟨c0,c1,l⟩:=J7 i.row;clear i;go_enter func101,ntmps101
 go_wp2_with fail
 clear k;refine(EU c 7 _).mono ?_;rintro e j ⟨rfl,rfl⟩;by_cases d:0<=c/\c<=7
 .rw[N' d];go_wp2_with fail
  refine(EU r 7 _).mono ?_;rintro e j ⟨rfl,rfl⟩;by_cases f:0<=r/\r<=7
  .rw[N' f];go_wp2_with fail
   refine(EU u 1048576 _).mono ?_;rintro e j ⟨rfl,rfl⟩;by_cases h:0<=u/\u<=1048576
   .rw[N' h];have a:Hid (true=decide (Da c r u)):=(N' ⟨d,f,h⟩).symm;go_wp2
    go_ret;exact⟨Aj a.out,b⟩
   .rw[G' h];have a:Hid (false=decide (Da c r u)):=(G' (λg=>h g.2.2)).symm;go_wp2
    go_ret;exact⟨Aj a.out,b⟩
  .rw[G' f];have a:Hid (false=decide (Da c r u)):=(G' (λg=>f g.2.1)).symm;go_wp2
   go_ret;exact⟨Aj a.out,b⟩
 .rw[G' d];have a:Hid (false=decide (Da c r u)):=(G' (λg=>d g.1)).symm;go_wp2
  go_ret;exact⟨Aj a.out,b⟩
def KF(key:List Int)(c r u:Int):List Int:=KE c r u++(DZ key (KE c r u)).take 16
theorem Ng(key b:List Int):((DZ key b).take 16).length=16:=by rw[mH,Du];rfl
theorem Er(key:List Int)(c r u:Int):(KF key c r u).length=22:=by unfold KF;rw[I',Ng,Ep]
theorem Rl(key b:List Int):∀ x∈(DZ key b).take 16,0<=x/\x<256:=λx a=>NQ key b x (mY a)
theorem Xi(key:List Int){c r u:Int}(h:Da c r u):∀ x∈KF key c r u,0<=x/\x<256:=by
 intro x hx;rcases Z'.1 hx with hx|hx
 .exact Ol h x hx
 .exact Rl _ _ x hx
def MN(key:List Int)(c r u:Int):Int:=if key.length≠32 then 1 else Nh c r u
def Qc(key:List Int)(c r u:Int):List Int:=if MN key c r u=0 then KF key c r u else[]
theorem VJ(h:¬ key.length=32):MN key c r u=1:=if_pos h
theorem Qb(h:key.length=32):MN key c r u=Nh c r u:=if_neg (λg=>g h)
theorem dh(h:MN key c r u=0):Qc key c r u=KF key c r u:=if_pos h
theorem U5(h:¬ MN key c r u=0):Qc key c r u=[]:=if_neg h
theorem Su(c r u:Int)(w:World)(h:Da c r u) :
  Calls prog 102 #[.agg (tkA c r u)] w λe w'=>∃ v',e=.returned v'/\w'.ownsRow w.heap.size 5 1 v' (KE c r u).length ((KE c r u).map (Value.int .u8))/\Bw w w':=by
 have d:Bw w (w.alloc (.cells (tkA c r u) 101)):=(Below.refl _ _).alloc (A' _) _;have f:=Bt.made w c r u;generalize o:w.alloc (.cells (tkA c r u) 101)=W at d f;obtain⟨c0,c1,m⟩:=J7 f.row;have lt:=f.lt;clear f;obtain⟨⟨q,s⟩,⟨t,v⟩,i,x⟩:=h;have C:c%256=c:=by omega
 have D:r%256=r:=by omega
 have A:Hid (KE c r u=[c,r]++Af u):=rfl;have b:Bw W (W.alloc (.cells #[.int .u8 c,.int .u8 r] 5)):=(Below.refl _ _).alloc (A' _) _;have k:(W.alloc (.cells #[.int .u8 c,.int .u8 r] 5)).ownsRow W.heap.size 5 1 (.slice (some ⟨W.heap.size,0,none⟩) 2 2) ([c,r]:List Int).length (([c,r]:List Int).map (Value.int .u8)) :=
  ⟨rfl,.inr ⟨W.heap.size,2,#[.int .u8 c,.int .u8 r],rfl,A' _,heap_alloc_new _ _,by simp,by simp[maxLen],rfl,rfl⟩⟩
 have j:Hid ((W.alloc (.cells #[.int .u8 c,.int .u8 r] 5)).ownsRow W.heap.size 5 1 (.slice (some ⟨W.heap.size,0,none⟩) 2 2) ([c,r]:List Int).length (([c,r]:List Int).map (Value.int .u8))):=k;clear k;generalize g:W.alloc (.cells #[.int .u8 c,.int .u8 r] 5)=W1 at b j;have B:W1.cell? ⟨w.heap.size,2,none⟩=some (.int .i64 u):=(b.cell (p:=⟨w.heap.size,2,none⟩) lt).trans m;have n:=d.trans (b.mono d.size);have y:=b.size;go_enter func102,ntmps102
 go_wp2_with fail
 clear o g;refine(GO _ [c,r] u W.heap.size W1 j.out y (by simp) i (by omega)).mono ?_;rintro e F ⟨E,rfl,z,l⟩;have a:=d.size;go_wp2
 go_ret;exact⟨_,rfl,AU z a,n.trans (l.mono a)⟩
theorem Rj(d c:Value)(key b:List Int)(w:World)(n:Sl w d key)(m:Sl w c b)(lk:key.length<=256)(p:b.length<=2000)(o:AD w) :
  Calls prog 103 #[d,c] w λe w'=>∃ v',e=.returned (.tuple #[v',.int .i64 0])/\Sl w' v' ((DZ key b).take 16)/\Bw w w':=by
 go_enter func103,ntmps103
 go_wp2_with fail
 refine(gu d c key b w n m lk p o).mono ?_;rintro e t ⟨s,rfl,l⟩;obtain⟨f,i,g,k,rfl,_,_⟩:=l;obtain⟨h,j,a,q⟩:=f.gm 16 (by rw[Du];omega);rw[Du]at a ⊢
 have r:∀ W,(Instr.slice 41 (.slice (some ⟨g,0,none⟩) 32 k) none (some (.int .i64 16)) none).run prog W=.ok (.slice h 16 j) W:=a;clear a f;go_wp2
 go_ret2
 exact⟨_,rfl,q,i⟩
theorem VK(E:Value)(key:List Int)(c r u:Int)(w:World)(f:Sl w E key)(N:AD w) :
  Calls prog 60 #[E,.agg (tkA c r u)] w λe w'=>∃ v',e=.returned (.tuple #[v',.int .i64 (MN key c r u)])/\w'.ownsRow w.heap.size 5 1 v' (Qc key c r u).length ((Qc key c r u).map (Value.int .u8))/\Bw w w':=by
 have i:Bw w (w.alloc (.cells (tkA c r u) 101)):=(Below.refl _ _).alloc (A' _) _;have j:=Bt.made w c r u;have A:=II c r u;have m:=f.len;obtain⟨S,T,rfl⟩:=f.shape;generalize M:w.alloc (.cells (tkA c r u) 101)=W at i j;by_cases l:key.length=32
 .have HE:=Qb (key:=key) (c:=c) (r:=r) (u:=u) l;have J:Hid (key.length=32):=l;rw[l]at f ⊢
  clear l m;go_enter func60,ntmps60
  go_wp2_with (refine wpList_load_row rfl 101 _ rfl w.heap.size rfl 101 _ (0,0) _ j.row underlying101 rfl A ?_)
  clear M;refine(Ji c r u W).mono ?_;rintro e g ⟨rfl,p⟩;have b:=i.trans (p.mono i.size);replace j:=j.ab p;clear p i;by_cases d:Da c r u
  .have a:Hid (MN key c r u=0):=HE.trans (KT d);have h:Hid (Qc key c r u=KF key c r u):=dh a.out;rw[N' d];clear HE;go_wp2_with (refine wpList_load_row rfl 101 _ rfl w.heap.size rfl 101 _ (0,0) _ j.row underlying101 rfl A ?_)
   refine(Su c r u g d).mono ?_;rintro e R ⟨P,rfl,x,q⟩;have s:=b.trans (q.mono b.size);have D:=Sl.eD x (by rw[Ep];omega) (Ol d);have H:=q.size;go_wp2_with fail
   refine(Rj _ P key (KE c r u) R (f.ab s) D (by rw[J.out];omega) (by rw[Ep];omega) (N.ab s)).mono ?_;rintro e F ⟨U,rfl,s3,n⟩;have y:=JX x n;have t:Bw g F:=q.trans (n.mono H);have I:g.heap.size<=F.heap.size:=mI H n.size;have v:=y.lt;have O:=s3.len;have o:Hid (KF key c r u=KE c r u++(DZ key (KE c r u)).take 16):=rfl;have B:=Ep c r u;clear x n s D;generalize (DZ key (KE c r u)).take 16=Y at s3 o O;generalize KE c r u=X at y o B;go_wp2_with (at_builtin;refine Aa _ rfl _ _ 41 rfl g.heap.size 5 underlying41 Ap _ _ rfl rfl X Y y s3 (by omega) I ?_)
   intro Q G C z;have L:Bw g G:=t.grown z I (λk f=>(v k f).1);have K:Hid (G.ownsRow g.heap.size 5 1 Q (KF key c r u).length ((KF key c r u).map (Value.int .u8))):=by unfold Hid;rw[o.out];simpa[B]using C
   clear C z;go_wp2
   go_ret2
   rw[h.out,a.out];exact⟨_,rfl,AU K.out b.size,b.trans (L.mono b.size)⟩
  .have a:Hid (MN key c r u=2):=HE.trans (UZ d);have h:Hid (Qc key c r u=[]):=U5 (by rw[a.out];omega);rw[G' d];go_wp2
   go_ret2
   rw[h.out,a.out];exact⟨_,rfl,World.ownsRow_nil _ _ _ _,b⟩
 .have h1':¬ (key.length:Int)=32:=by omega
  have a:Hid (MN key c r u=1):=VJ l;have h:Hid (Qc key c r u=[]):=U5 (by rw[a.out];omega);go_enter func60,ntmps60
  go_wp2
  go_ret2
  rw[h.out,a.out];exact⟨_,rfl,World.ownsRow_nil _ _ _ _,i⟩
end
end
end Go.Proofs.YtdjfdfpkkenjbabGreatDoor
