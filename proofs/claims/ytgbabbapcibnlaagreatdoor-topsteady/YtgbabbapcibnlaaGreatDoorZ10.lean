/- Part 10 of the walk. -/
import Derived.Deep.OwnRows
import Derived.Laws.OwnMore
import Derived.Maps.AppendAt
import Derived.Test.YtgbabbapcibnlaaGreatDoorZ9
set_option maxRecDepth 100000
set_option maxHeartbeats 4000000
open Go.Proofs.Tryz
set_option linter.unusedVariables false
namespace Go.Proofs.YtgbabbapcibnlaaGreatDoor
section
open Go.RowKit
section
def GW(t:Nat)(x:Int):Int:=if t%4=3 then x%16 else if t%4=0/\0<t then x/4*4 else x
def DO(l:List Int):List Int:=(List.range 16).map λt=>GW t (l.getD t 0)
theorem Nq(l:List Int):(DO l).length=16:=by simp[DO]
theorem Sf(l:List Int)(t:Nat)(h:t<16):(DO l).getD t 0=GW t (l.getD t 0):=by
 simp[DO,List.getD,List.getElem?_map,List.getElem?_range h]
theorem OY(t:Nat){x:Int}(h:0<=x/\x<256):0<=GW t x/\GW t x<256:=by
 unfold GW;split
 .omega
 .split<;>omega
variable{a key l m nonce:List Int}{j:Nat}{v:Value}{w:World}
theorem Qj(h:∀ x∈l,0<=x/\x<256):∀ x∈DO l,0<=x/\x<256:=by
 intro x a;obtain⟨t,_,rfl⟩:=mS.1 a;exact OY t (Aj h t)
theorem S9(h:l.length=m.length)(c:∀ t,t<l.length->l.getD t 0=m.getD t 0):l=m:=by
 apply oW h;intro t a b;have:=c t a
 rwa [AX a,AX b]at this
theorem jI(x:Int)(a:0<=x)(b:x<256):bits .and .u8 x 15=x%16:=by
 obtain⟨n,rfl⟩:=nf a;rw[show(15:Int)=((15:Nat):Int)from rfl,u8_and_nat _ _ (by omega) (by omega),show(15:Nat)=2^4-1 from rfl,pX];omega
theorem RS:∀ n:Fin 256,n.val &&& 252=n.val/4*4:=by decide +kernel
theorem gO(x:Int)(a:0<=x)(b:x<256):bits .and .u8 x 252=x/4*4:=by
 obtain⟨n,rfl⟩:=nf a;have e:n &&& 252=n/4*4:=RS ⟨n,by omega⟩;rw[show(252:Int)=((252:Nat):Int)from rfl,u8_and_nat _ _ (by omega) (by omega),e];omega
structure Upper(l m:List Int)(j:Nat):Prop where
 len:m.length=16
 at_:∀ t,m.getD t 0=if t%4=3/\t<3+4*j then l.getD t 0%16 else l.getD t 0
theorem Upper.zero(h:l.length=16):Upper l l 0:=by
 refine⟨h,λt=>?_⟩;rw[if_neg (by omega)]
theorem Upper.succ(h:Upper l m j)(a:j<4):Upper l (m.set (3+4*j) (m.getD (3+4*j) 0%16)) (j+1):=by
 refine⟨by simpa using h.len,λt=>?_⟩;by_cases e:3+4*j=t
 .subst e;rw[AM (by rw[h.len];omega),h.at_,if_neg (by omega),if_pos (by omega)]
 .rw[AB e,h.at_];by_cases c:t%4=3/\t<3+4*j
  .rw[if_pos c,if_pos (by omega)]
  .rw[if_neg c,if_neg (by omega)]
structure Lower(l m:List Int)(j:Nat):Prop where
 len:m.length=16
 at_:∀ t,t<16->m.getD t 0=if t%4=3 then l.getD t 0%16 else if t%4=0/\0<t/\t<4+4*j then l.getD t 0/4*4 else l.getD t 0
theorem Upper.lower(h:Upper l m 4):Lower l m 0:=by
 refine⟨h.len,λt a=>?_⟩;rw[h.at_];by_cases c:t%4=3
 .rw[if_pos (by omega),if_pos c]
 .rw[if_neg (by omega),if_neg c,if_neg (by omega)]
theorem Lower.succ(h:Lower l m j)(b:j<3):Lower l (m.set (4+4*j) (m.getD (4+4*j) 0/4*4)) (j+1):=by
 refine⟨by simpa using h.len,λt a=>?_⟩;by_cases e:4+4*j=t
 .subst e;rw[AM (by rw[h.len];omega),h.at_ _ a,if_neg (by omega),if_neg (by omega),if_neg (by omega),if_pos (by omega)]
 .rw[AB e,h.at_ _ a];by_cases c:t%4=3
  .rw[if_pos c,if_pos c]
  .rw[if_neg c,if_neg c];by_cases d:t%4=0/\0<t/\t<4+4*j
   .rw[if_pos d,if_pos (by omega)]
   .rw[if_neg d,if_neg (by omega)]
theorem Lower.tf(h:Lower l m 3):m=DO l:=by
 refine S9 (by rw[h.len,Nq]) (λt a=>?_);rw[h.len]at a
 rw[h.at_ t a,Sf l t a,GW];by_cases c:t%4=3
 .rw[if_pos c,if_pos c]
 .rw[if_neg c,if_neg c];by_cases d:t%4=0/\0<t
  .rw[if_pos d,if_pos (by omega)]
  .rw[if_neg d,if_neg (by omega)]
theorem Upper.byte(h:Upper l m j)(a:∀ x∈l,0<=x/\x<256)(t:Nat):0<=m.getD t 0/\m.getD t 0<256:=by
 have:=Aj a t;rw[h.at_];split<;>omega
theorem Lower.byte(h:Lower l m j)(a:∀ x∈l,0<=x/\x<256)(t:Nat)(b:t<16):0<=m.getD t 0/\m.getD t 0<256:=by
 have:=Aj a t;rw[h.at_ t b];split
 .omega
 .split<;>omega
theorem SE(v:Value)(l:List Int)(w:World)(h:Sl w v l)(S:l.length=16) :
  Calls prog 190 #[v] w λe w'=>∃ r,e=.returned (.agg (Ai r))/\Lim 67108864 r/\val r%pp=leN (DO l)%pp/\Bw w w':=by
 have T:=h;obtain⟨⟨a,Y,rfl,hc,hn,Z⟩,M,A⟩:=h;have n:Hid (∀ x∈l,0<=x/\x<256):=A;clear Z A hn M;have W:Hid (l.length=16):=S;go_enter func190,ntmps190
 go_wp2_with (refine wpList_copy_splice rfl _ _ 37 37 rfl 5 underlying37 YP _ _ _ _ _ _ rfl rfl (w.heap.size+1) 0 ((List.replicate 16 (0:Int)).map (Value.int .u8)) 282 (heap_alloc2_new _ _ _) (l.map (Value.int .u8)) (by rw[mR];exact(nU (show l.length<=16 by omega)).symm) (λhp=>⟨rfl,(T.af (((Below.refl _ _).alloc (A' _) _).alloc (by simp) _)).src (by simpa using hp)⟩) (by rw[mR,mR,ol];omega) (Fl _) (w.heap.size+1) _ (Below.refl _ _) (A' _) ?_)
 intro F Q q;have E:F.heap[w.heap.size+1]?=some (.cells (byA l) 282 (0,0)):=by
  have R:F.heap[w.heap.size+1]?=some (.cells (splice ((List.replicate 16 (0:Int)).map (Value.int .u8)) 0 (l.map (Value.int .u8))).toArray 282 (0,0)):=Q.out;rw[Jj,S]at R
  simpa[byA]using R
 have y:Bw w F:=(((Below.refl _ _).alloc (A' _) _).alloc (by simp) _).trans (q.mono (by omega));have C:F.heap[w.heap.size]?=some (.cells (Ai [0,0,0,0,0]) 270 (0,0)):=by
  rw[q.block _ (by omega)];exact heap_alloc2_old _ _ _
 clear Q q T;go_wp2_with fail
 go_loopw [4] (λi wr=>∃ (j:Nat) (m:List Int),j<=4/\i=.int .i64 (3+4*(j:Int))/\Upper l m j/\wr.heap[w.heap.size]?=some (.cells (Ai [0,0,0,0,0]) 270 (0,0))/\wr.heap[w.heap.size+1]?=some (.cells (byA m) 282 (0,0))/\Bw w wr) (λi _=>20-(intOf i).toNat)
 case atStart=>exact⟨0,l,by omega,rfl,Upper.zero W.out,C,E,y⟩
 case round =>
  clear C E y;obtain⟨j,m,hj,rfl,c,t,f,o⟩:=hrel;have N:=c.len;by_cases J:j<4
  .have K:3+4*(j:Int)<16:=by omega
   have H:=(cell_of_row _ _ (3+4*j) _ _ _ f).trans (I9 m (3+4*j) (by omega));have fl:=frozen_of_row _ _ (3+4*j) _ _ f;have b:=c.byte n.out (3+4*j);have u:Hid (Upper l (m.set (3+4*j) (m.getD (3+4*j) 0%16)) (j+1)):=c.succ J;have d:=jI (m.getD (3+4*j) 0) b.1 b.2;generalize m.getD (3+4*j) 0=x at H u b d;clear c;go_wp2
   go_roundw
   case rel =>
    refine⟨j+1,_,by omega,by go_num,u.out,?_,GU f _ _,?_⟩
    .exact(heap_setCell_other _ _ _ _ (by simp)).trans t
    .exact o.setCell (p:=⟨w.heap.size+1,3+4*j,none⟩) (by simp) _
   case measure=>simp[intOf];omega
  .have HJ:Hid (j=4):=by unfold Hid;omega
   have K:¬ 3+4*(j:Int)<16:=by omega
   have B:Lower l m 0:=by have:=HJ.out;subst this;exact c.lower
   clear c;go_wp2_with fail
   go_loopw [5] (λi wr=>∃ (j:Nat) (m:List Int),j<=3/\i=.int .i64 (4+4*(j:Int))/\Lower l m j/\wr.heap[w.heap.size]?=some (.cells (Ai [0,0,0,0,0]) 270 (0,0))/\wr.heap[w.heap.size+1]?=some (.cells (byA m) 282 (0,0))/\Bw w wr) (λi _=>20-(intOf i).toNat)
   case atStart=>exact⟨0,m,by omega,rfl,B,t,f,o⟩
   case round =>
    clear t f o B N;obtain⟨k,m,hk,rfl,c,t,f,o⟩:=hrel;have N:=c.len;by_cases L:k<3
    .have hki:4+4*(k:Int)<16:=by omega
     have H:=(cell_of_row _ _ (4+4*k) _ _ _ f).trans (I9 m (4+4*k) (by omega));have fl:=frozen_of_row _ _ (4+4*k) _ _ f;have b:=c.byte n.out (4+4*k) (by omega);have u:Hid (Lower l (m.set (4+4*k) (m.getD (4+4*k) 0/4*4)) (k+1)):=c.succ L;have d:=gO (m.getD (4+4*k) 0) b.1 b.2;generalize m.getD (4+4*k) 0=x at H u b d;clear c;go_wp2
     go_roundw
     case rel =>
      refine⟨k+1,_,by omega,by go_num,u.out,?_,GU f _ _,?_⟩
      .exact(heap_setCell_other _ _ _ _ (by simp)).trans t
      .exact o.setCell (p:=⟨w.heap.size+1,4+4*k,none⟩) (by simp) _
     case measure=>simp[intOf];omega
    .have hki:¬ 4+4*(k:Int)<16:=by omega
     have V:Hid (k=3):=by unfold Hid;omega
     have s:m=DO l:=by have:=V.out;subst this;exact c.tf
     have s3:Sl wr (.slice (some ⟨w.heap.size+1,0,none⟩) 16 16) m:=by
      refine Sl.rowOf f N (by omega) ?_;rw[s];exact Qj n.out
     have X:Hid (m=DO l):=s;have G:Hid _:=s3;have O:w.heap.size<wr.heap.size:=(Q'.1 t).1;clear c s3 s f;go_wp2_with fail
     refine(Ro _ m _ G.out (by omega)).mono ?_;rintro e U ⟨r,rfl,P,vr,z⟩;have D:=(z.block w.heap.size O).trans t;have I:Bw w U:=o.trans (z.mono o.size);have g:=Dk P.1;go_wp2_with ((with_reducible (refine As ?_));(refine wpList_store_row rfl 270 _ _ rfl (w.heap.size) _ rfl rfl 270 _ D g (by rw[Ak,Ak,P.1];rfl) (BL r) ?_))
     exact bodyPost_ret (v:=.agg (Ai r)) (results_cell_row rfl _ _ (w.heap.size) 270 _ (0,0) _ rfl (setRow_heap U (w.heap.size) _ _ 270 _ D) underlying270 rfl g) rfl ⟨r,rfl,P,by rw[vr,X.out],Bl I (A' _) _⟩
def AK(v:Int)(i:Nat):Int:=v/256^i%256
theorem Gn(v:Int)(i:Nat):0<=AK v i/\AK v i<256:=by unfold AK;omega
def leB(n:Nat)(v:Int):List Int:=(List.range n).map (AK v)
theorem D2(n:Nat)(v:Int):(leB n v).length=n:=by simp[leB]
theorem IM(n:Nat)(v:Int):∀ x∈leB n v,0<=x/\x<256:=by
 intro x a;obtain⟨j,_,rfl⟩:=mS.1 a;exact Gn v j
def FV(S:Nat->Int):Nat->Int
 | 0=>0
 | k+1=>FV S k+S k*256^k
def IA(S:Nat->Int)(k:Nat):Int:=FV S k/256^k
theorem Mq(k:Nat):(0:Int)<256^k:=Int.pow_pos (by omega)
theorem NZ(S:Nat->Int):IA S 0=0:=by simp[IA,FV]
theorem NY(S:Nat->Int)(k:Nat):IA S (k+1)=(IA S k+S k)/256:=by
 have a:=Mq k;unfold IA;rw[FV,p9,<- pM (pV a),Int.add_mul_ediv_right _ _ (Int.ne_of_gt a)]
theorem RX(S:Nat->Int)(h:∀ j,0<=S j/\S j<1000)(k:Nat):0<=IA S k/\IA S k<256:=by
 induction k with
 | zero=>rw[NZ];omega
 | succ k ih=>rw[NY];have:=h k;omega
theorem WZ(S:Nat->Int)(k d:Nat):∃ Z,FV S (k+d)=FV S k+256^k*Z:=by
 induction d with
 | zero=>exact⟨0,by simp⟩
 | succ d ih =>
  obtain⟨Z,a⟩:=ih;refine⟨Z+S (k+d)*256^d,?_⟩;rw[<- nH,FV,a,pA]
  grind
theorem L3(v Z:Int)(n k:Nat)(h:k<n):AK (v+256^n*Z) k=AK v k:=by
 have a:=Mq k;obtain⟨d,rfl⟩:∃ d,n=k+(1+d):=⟨n-k-1,by omega⟩;unfold AK;rw[pA,pA,show(256:Int)^k*(256^1*256^d)*Z=256^k*(256*(256^d*Z))by grind,Int.add_mul_ediv_left _ _ (Int.ne_of_gt a)];omega
theorem V3(S:Nat->Int)(n k:Nat)(h:k<n):(IA S k+S k)%256=AK (FV S n) k:=by
 have b:=Mq k;obtain⟨d,rfl⟩:∃ d,n=(k+1)+d:=⟨n-(k+1),by omega⟩;obtain⟨Z,a⟩:=WZ S (k+1) d;rw[a,L3 _ _ _ _ (by omega),AK,FV,Int.add_mul_ediv_right _ _ (Int.ne_of_gt b)];rfl
theorem bf(S T:Nat->Int)(k:Nat):FV (λj=>S j+T j) k=FV S k+FV T k:=by
 induction k with
 | zero=>rfl
 | succ k ih=>simp only[FV,ih];grind
theorem bg(l:List Int)(k:Nat):FV (λj=>l.getD j 0) k=leP l k:=by
 induction k with
 | zero=>rfl
 | succ k ih=>simp only[FV,leP,ih]
theorem TX(v:Int)(n:Nat):∃ Z,v=FV (AK v) n+256^n*Z/\Z=v/256^n:=by
 induction n with
 | zero=>exact⟨v,by simp[FV],by simp⟩
 | succ n ih =>
  obtain⟨Z,b,a⟩:=ih;refine⟨Z/256,?_,?_⟩
  .rw[FV,AK,<- a,p9];have:Z=Z%256+256*(Z/256):=by omega
   grind
  .rw[a,p9,pM (pV (Mq n))]
theorem XN(v:Int)(s:List Int)(k:Nat)(a:k<16)(b:s.length<=16) :
  (IA (λj=>AK v j+s.getD j 0) k+(AK v k+s.getD k 0))%256=AK (v+leN s) k:=by
 rw[V3 (λj=>AK v j+s.getD j 0) 16 k a,bf (AK v) (λj=>s.getD j 0),bg,Zf 16 b];obtain⟨Z,c,_⟩:=TX v 16;have e:v+leN s=FV (AK v) 16+leN s+256^16*Z:=by omega
 rw[e,L3 _ _ _ _ a]
def Jl(v:Int)(k:Nat):List Int:=(List.range 16).map λj=>if j<k then AK v j else 0
theorem R9(v:Int)(k:Nat):(Jl v k).length=16:=by simp[Jl]
theorem Xg(v:Int):Jl v 0=List.replicate 16 0:=rfl
theorem bC(v:Int):Jl v 16=leB 16 v:=by
 unfold Jl leB;refine qh λj a=>?_;rw[if_pos (oc.1 a)]
theorem Xf(v:Int)(k:Nat)(_hk:k<16):(Jl v k).set k (AK v k)=Jl v (k+1):=by
 apply oW (by simp[Jl]);intro j a b;rw[oE];simp only[Jl,List.getElem_map,List.getElem_range];by_cases e:k=j
 .subst e;rw[if_pos rfl,if_pos (by omega)]
 .rw[if_neg e];by_cases c:j<k
  .rw[if_pos c,if_pos (by omega)]
  .rw[if_neg c,if_neg (by omega)]
theorem Tq(a b:Int)(k:Nat)(m:Int)(d:m=2^k)(g:0<=a)(c:a<m)(h:0<=b)(i:a+b*m<18446744073709551616):bits .or .u64 a (b*m)=a+b*m:=by
 obtain⟨x,rfl⟩:=nf g;obtain⟨y,rfl⟩:=nf h;have e:(y:Int)*m=((2^k*y:Nat):Int):=by rw[d,qK,pc,Int.mul_comm];rfl
 rw[e]at i ⊢
 have j:x<2^k:=by
  have:((x:Nat):Int)<((2^k:Nat):Int):=by rw[pc];rw[d]at c;exact c
  omega
 have f:=pj j y;rw[u64_or_nat _ _ (by omega) (by omega),Nat.or_comm,<- f];omega
theorem jg{a b:Int}(h:a=b):Ending.returned (.int .u8 a)=.returned (.int .u8 b):=by rw[h]
theorem RW(n:List Int)(i:Nat)(w:World)(o:Lim 67108864 n)(A:i<16) :
  Calls prog 200 #[.agg (Ai n),.int .i64 i] w λe w'=>e=.returned (.int .u8 (AK (val n) i))/\Bw w w':=by
 obtain⟨a,b,c,d,e,rfl,⟨q,r⟩,⟨s,t⟩,⟨c1,u⟩,⟨v,x⟩,⟨y,z⟩⟩:=o.split;have f:(w.alloc (.cells (Ai [a,b,c,d,e]) 270 (0,0))).heap[w.heap.size]?=some (.cells (Ai [a,b,c,d,e]) 270 (0,0)):=heap_alloc_new _ _;have h:=(cell_of_row _ _ 0 _ _ _ f).trans (At _ 0 (by simp));have j:=(cell_of_row _ _ 1 _ _ _ f).trans (At _ 1 (by simp));have k:=(cell_of_row _ _ 2 _ _ _ f).trans (At _ 2 (by simp));have l:=(cell_of_row _ _ 3 _ _ _ f).trans (At _ 3 (by simp));have m:=(cell_of_row _ _ 4 _ _ _ f).trans (At _ 4 (by simp));simp only[m9,nv]at h j k l m;have g:Hid (val [a,b,c,d,e]=a+67108864*b+4503599627370496*c+302231454903657293676544*d+20282409603651670423947251286016*e):=Dx a b c d e;generalize Ai [a,b,c,d,e]=arr at h j k l m ⊢;generalize val [a,b,c,d,e]=V at g ⊢;clear o f;obtain rfl|rfl|rfl|rfl|rfl|rfl|rfl|rfl|rfl|rfl|rfl|rfl|rfl|rfl|rfl|rfl:i=0\/i=1\/i=2\/i=3\/i=4\/i=5\/i=6\/i=7\/i=8\/i=9\/i=10\/i=11\/i=12\/i=13\/i=14\/i=15:=by omega
 all_goals
  go_enter func200,ntmps200
  go_wp2
  go_ret;refine⟨jg ?_,(Below.refl _ _).alloc (A' _) _⟩;have p:=g.out;clear g h j k l m;unfold AK
  first
   | rw[Tq _ _ 2 4 rfl (by omega) (by omega) (by omega) (by omega)]
   | rw[Tq _ _ 4 16 rfl (by omega) (by omega) (by omega) (by omega)]
   | rw[Tq _ _ 6 64 rfl (by omega) (by omega) (by omega) (by omega)]
   | skip
  subst p;simp only[Int.reducePow];omega
theorem NI{P:Program}{e:Nat}{d:Array Oper}{K:Act->World->Prop}{Q:Exit->Act->World->Prop}{a:Act}(R:World->Prop){A:Act}(c:∀ K':Act->World->Prop,Hid (∀ W2,R W2->K' A W2)->(Code.region e d true).wp P (Exit.then K' Q) a w)(b:∀ W2,R W2->K A W2):(Code.region e d true).wp P (Exit.then K Q) a w:=c K b
theorem PK(nl:List Int)(v:Value)(s:List Int)(w:World)(h:Sl w v s)(Z:s.length=16)(hn:Lim 67108864 nl) :
  Calls prog 188 #[.agg (Ai nl),v] w λe w'=>∃ v',e=.returned v'/\Sl w' v' (leB 16 (val nl+leN s))/\Bw w w':=by
 obtain⟨⟨a,a3,rfl,hc,a1,O⟩,a0,r⟩:=h;rcases O with rfl|⟨B,off,rfl,hB,hcell⟩
 .simp at Z
 have HC:Hid (∀ i,i<16->w.cell? ⟨B,off+i,none⟩=some (.int .u8 (s.getD i 0))):=λi hi=>hcell i (by omega);have n:Hid (∀ x∈s,0<=x/\x<256):=r;have o:Hid (s.length=16):=Z;rw[Z]at hc ⊢
 clear hcell r a1 a0;obtain⟨J,K,L,M,N,rfl,_⟩:=hn.split;obtain⟨V,X⟩:∃ V,val [J,K,L,M,N]=V:=⟨_,rfl⟩;have HV:Hid (val [J,K,L,M,N]=V):=X;rw[X];clear X;obtain⟨i0,z,A,C,D⟩:=info_parts Av;go_enter func188,ntmps188
 go_wp2_with (at_make;refine wpList_make_row _ rfl _ _ 37 rfl 5 i0 (.int .u8 0) underlying37 z A C rfl _ _ 16 rfl rfl (by rw[D];omega) (by omega) ?_)
 clear z A C D
 go_loopw [6,11] (λcv i wr=>∃ (k:Nat),k<=16/\i=.int .i64 k/\cv=.int .i64 (IA (λj=>AK V j+s.getD j 0) k)/\wr.heap[w.heap.size]?=some (.cells (Ai [J,K,L,M,N]) 270 (0,0))/\wr.heap[w.heap.size+1]?=some (.cells (byA (Jl (V+leN s) k)) 5 (0,0))/\Bw w wr) (λ_ i _=>16-(intOf i).toNat)
 case atStart =>
  refine⟨0,by omega,rfl,by rw[NZ],?_,?_,?_⟩
  .exact heap_alloc2_old _ _ _
  .have e:madeCells #[Value.int .u8 0] 16=byA (Jl (V+leN s) 0):=by rw[Xg];kernel_rfl
   rw[e];exact heap_alloc2_new _ _ _
  .exact((Below.refl _ _).alloc (A' _) _).alloc (by simp) _
 case round =>
  obtain⟨k,hk,rfl,rfl,f,g,P⟩:=hrel;by_cases b:k<16
  .have hki:(k:Int)<16:=by omega
   have E:=(cell_of_row _ _ 0 _ _ _ f).trans (At _ 0 (by simp));have F:=(cell_of_row _ _ 1 _ _ _ f).trans (At _ 1 (by simp));have G:=(cell_of_row _ _ 2 _ _ _ f).trans (At _ 2 (by simp));have H:=(cell_of_row _ _ 3 _ _ _ f).trans (At _ 3 (by simp));have I:=(cell_of_row _ _ 4 _ _ _ f).trans (At _ 4 (by simp));simp only[m9,nv]at E F G H I;have a2:w.heap.size+1<wr.heap.size:=(Q'.1 g).1;have U:B<wr.heap.size:=by omega
   have ch:=(P.cell (p:=⟨B,off+k,none⟩) hB).trans (HC.out k b);have t:∀ j,0<=AK V j+s.getD j 0/\AK V j+s.getD j 0<1000:=λj=>by
    have R:=Gn V j;have S:=Aj n.out j;omega
   have u:=RX (λj=>AK V j+s.getD j 0) t k;have d:Hid (IA (λj=>AK V j+s.getD j 0) (k+1)=(IA (λj=>AK V j+s.getD j 0) k+(AK V k+s.getD k 0))/256):=NY _ k;have c:Hid ((IA (λj=>AK V j+s.getD j 0) k+(AK V k+s.getD k 0))%256=AK (V+leN s) k):=XN V s k b (by rw[o.out];omega);have R:=Gn V k;have S:=Aj n.out k;have l:=RW [J,K,L,M,N] k;rw[HV.out]at l
   have m:Hid (∀ W,Calls prog 200 #[.agg (Ai [J,K,L,M,N]),.int .i64 k] W λe w'=>e=.returned (.int .u8 (AK V k))/\Bw W w'):=λW=>l W hn b;have HT:Hid _:=g;have HR:Hid _:=f;have HB:Hid _:=P;clear l t g f P;have a5:=R9 (V+leN s) k;have Q:Hid ((Jl (V+leN s) k).set k (AK (V+leN s) k)=Jl (V+leN s) (k+1)):=Xf _ k b;generalize IA (λj=>AK V j+s.getD j 0) k=cy at d c u;generalize AK V k=x at d c R m;generalize s.getD k 0=y at d c S ch;obtain⟨x1,x2⟩:=R;obtain⟨y1,y2⟩:=S;obtain⟨z1,z2⟩:=u;go_wp2_with fail
   apply NI (λW=>Bw wr W)
   .intro K2 HK2
    go_region_with (go_at_call 200;refine(m.out _).mono ?_;rintro e w2 ⟨rfl,q⟩;have a4:=(q.cell (p:=⟨B,off+k,none⟩) U).trans ch)
    all_goals exact HK2.out _ ((Below.refl _ _).drew.trans q)
   intro W Y;have g:=(Y.block _ a2).trans HT.out;have f:=(Y.block _ (by omega)).trans HR.out;have ct:=(cell_of_row _ _ k _ _ _ g).trans (I9 _ k (by omega));have ft:=frozen_of_row _ _ k _ _ g;have T:Bw w W:=HB.out.trans (Y.mono HB.out.size);clear E F G H I ch;generalize (Jl (V+leN s) k).getD k 0=c0 at ct;go_wp2
   go_roundw
   case rel =>
    refine⟨k+1,by omega,by go_num,?_,?_,?_,?_⟩
    .rw[d.out]
    .exact(heap_setCell_other _ _ _ _ (by simp)).trans f
    .have O:=GU g k (AK (V+leN s) k);rw[Q.out,<- c.out]at O
     exact O
    .exact T.setCell (p:=⟨w.heap.size+1,k,none⟩) (by simp) _
   case measure=>simp[intOf];omega
  .have hki:¬ (k:Int)<16:=by omega
   have HK:Hid (k=16):=by unfold Hid;omega
   go_wp2
   go_ret;have hK:=HK.out;subst hK;rw[bC]at g
   exact⟨_,rfl,Sl.rowOf g (D2 _ _) (by rw[D2];omega) (IM _ _),P⟩
def Xd(key data:List Int):List Int:=leB 16 (gA (leN (DO (key.take 16))) data+leN (key.drop 16))
theorem R7(key a:List Int):(Xd key a).length=16:=D2 _ _
theorem Xe(key a:List Int):∀ x∈Xd key a,0<=x/\x<256:=IM _ _
theorem Sl.sB(h:Sl w v l):∃ a c,v=.slice a l.length c:=by
 obtain⟨⟨a,b,e,_⟩,_⟩:=h;exact⟨a,b,e⟩
theorem jy(r q:Value)(key a:List Int)(w:World)(g:Sl w r key)(m:Sl w q a)(lk:key.length=32)(A:a.length<=4000) :
  Calls prog 177 #[r,q] w λe w'=>∃ v',e=.returned (.tuple #[v',.int .i64 0])/\Sl w' v' (Xd key a)/\Bw w w':=by
 obtain⟨k,l,rfl⟩:=g.sB;obtain⟨ad,J,rfl⟩:=m.sB;rw[lk]at g ⊢
 obtain⟨s,c1,c,o⟩:=g.ri 16 (by omega);obtain⟨t,u,d,p⟩:=g.from 16 (by omega);have v:∀ W,(Instr.slice 37 (.slice k 32 l) none (some (.int .i64 16)) none).run prog W=.ok (.slice s 16 c1) W:=c;have x:∀ W,(Instr.slice 37 (.slice k 32 l) (some (.int .i64 16)) none none).run prog W=.ok (.slice t 16 u) W:=d;clear c d;have lt:(key.take 16).length=16:=by rw[Y'];omega
 have n:(key.drop 16).length=16:=by rw[mI];omega
 have B:¬ (4000:Int)<(a.length:Int):=by omega
 have h:Hid (Xd key a=leB 16 (gA (leN (DO (key.take 16))) a+leN (key.drop 16))):=rfl;generalize key.take 16=K1 at o lt h;generalize key.drop 16=K2 at p n h;clear g lk;have j:Hid (a.length<=4000):=A;go_enter func177,ntmps177
 go_wp2_with fail
 go_region_with (first
  | (go_at_call 190;refine(SE _ K1 _ (o.af ((Below.refl _ _).drew)) lt).mono ?_;rintro e K ⟨D,rfl,y,F,b⟩)
  | (go_at_call 189;refine(Ph D (leN (DO K1)) _ a _ (m.af ((Below.refl _ _).drew.trans b)) j.out y F).mono ?_;rintro e I ⟨C,rfl,z,G,f⟩)
  | (go_at_call 188;refine(PK C _ K2 _ (p.af (((Below.refl _ _).drew.trans b).trans (f.mono b.size))) n z).mono ?_;rintro e L ⟨H,rfl,E,i⟩))
 all_goals
  go_wp2
  go_ret2
  refine⟨H,rfl,?_,?_⟩
  .rw[h.out,<- G];exact E
  .have b3:Bw w I:=((Below.refl _ _).drew.trans b).trans (f.mono b.size);exact b3.trans (i.mono b3.size)
def gap(n:Nat):Nat:=(16-n%16)%16
def E7(l:List Int):List Int:=l++List.replicate (gap l.length) 0
theorem EH(l:List Int):(E7 l).length=l.length+gap l.length:=by rw[E7,H',ol]
theorem Ik(n:Nat):gap n<16:=by unfold gap;omega
theorem UC(n:Nat):(n+gap n)%16=0:=by unfold gap;omega
theorem VO(n j:Nat)(h:j<gap n):¬ (n+j)%16=0:=by unfold gap at h;omega
theorem dx(n m:Nat)(h:n%16=0):gap (n+m)=gap m:=by unfold gap;omega
theorem O4(h:∀ x∈l,0<=x/\x<256):∀ x∈E7 l,0<=x/\x<256:=by
 intro x a;rcases U'.1 a with h1|h1
 .exact h x h1
 .rw[(pD.1 h1).2];omega
theorem ZJ(a s:List Int):E7 (E7 a++s)=E7 a++E7 s:=by
 have h:(E7 a).length%16=0:=by rw[EH];exact UC _
 rw[E7,H',dx _ _ h,mC];rfl
theorem Ze(k:Nat)(v:Int):leB (k+1) v=leB k v++[AK v k]:=by
 simp[leB,List.range_succ]
def G0(a s:List Int):List Int:=E7 a++E7 s++leB 8 (a.length:Int)++leB 8 (s.length:Int)
theorem IL(a s:List Int):(G0 a s).length=a.length+gap a.length+(s.length+gap s.length)+8+8:=by
 simp only[G0,H',EH,D2]
theorem SW{s:List Int}(b:∀ x∈a,0<=x/\x<256)(c:∀ x∈s,0<=x/\x<256):∀ x∈G0 a s,0<=x/\x<256:=by
 intro x hx;rcases U'.1 hx with hx|hx
 .rcases U'.1 hx with hx|hx
  .rcases U'.1 hx with hx|hx
   .exact O4 b x hx
   .exact O4 c x hx
  .exact IM _ _ x hx
 .exact IM _ _ x hx
def E2(key nonce a s:List Int):List Int:=Xd ((CO (Ce key (BitVec.ofNat 32 0) nonce)).take 32) (G0 a s)
theorem Jk(key b a s:List Int):(E2 key b a s).length=16:=R7 _ _
theorem MH(key b a s:List Int):∀ x∈E2 key b a s,0<=x/\x<256:=Xe _ _
def EM(key nonce p:List Int):List Int:=QM (Ce key (BitVec.ofNat 32 1) nonce) p
theorem FT(key a p:List Int):(EM key a p).length=p.length:=QN _ _
def K5(key nonce a p:List Int):List Int:=EM key nonce p++E2 key nonce a (EM key nonce p)
theorem Jh(key b a p:List Int):(K5 key b a p).length=p.length+16:=by
 rw[K5,H',FT,Jk]
theorem K6(v:Value)(l:List Int)(B:Nat)(w:World)(p:w.ownsRow B 5 1 v l.length (l.map (Value.int .u8)))(D:B<=w.heap.size)(I:l.length<=100000) :
  Calls prog 191 #[v] w λe w'=>∃ v',e=.returned v'/\w'.ownsRow B 5 1 v' (E7 l).length ((E7 l).map (Value.int .u8))/\Below B w w':=by
 have r:Hid (E7 l=l++List.replicate (gap l.length) 0):=rfl;have E:=Ik l.length;have s:Hid (∀ j,j<gap l.length->¬ (l.length+j)%16=0):=λj x=>VO _ _ x;have q:Hid ((l.length+gap l.length)%16=0):=UC _;obtain⟨a0,c0,rfl⟩:=EG p;generalize gap l.length=G at r E s q;go_enter func191,ntmps191
 go_wp2_with fail
 go_loopw [0] (λv wr=>∃ (j:Nat) (a:Option Addr) (f:Nat),j<=G/\v=.slice a (l.length+j) f/\wr.ownsRow B 5 1 v (l++List.replicate j 0).length ((l++List.replicate j 0).map (Value.int .u8))/\Below B w wr) (λv _=>l.length+G-Zi v)
 case atStart=>exact⟨0,a0,c0,by omega,rfl,by simpa using p,Below.refl _ _⟩
 case round =>
  clear p;obtain⟨j,a,f,x,rfl,b,d⟩:=hrel;have h:=b.lt;by_cases o:j<G
  .have t:=s.out j o;have u:¬ ((l.length:Int)+j)%16=0:=by omega
   go_wp2_with (at_builtin;refine Aa _ rfl _ _ 37 rfl B 5 underlying37 Av _ _ rfl rfl (l++List.replicate j 0) [0] (b.alloc _) (Sl.one _ _ _ rfl (by omega)) (by simp;omega) (by have:=d.size;simp;omega) ?_)
   intro H y i g;have c:y.ownsRow B 5 1 H (l++List.replicate (j+1) 0).length ((l++List.replicate (j+1) 0).map (Value.int .u8)):=by rw[<- MA];simpa using i
   have n:Below B w y:=(d.alloc (mB D d.size) _).grown g (by have:=d.size;simp;omega) (λk F=>(h k F).1);obtain⟨z,A,m⟩:=EG c;rw[H',ol]at m
   subst m;clear i g b h d t u;go_wp2
   go_roundw
   case rel=>exact⟨j+1,z,A,by omega,rfl,c,n⟩
   case measure=>simp[Zi];omega
  .have HJ:Hid (G=j):=by unfold Hid;omega
   have C:=q.out;have t:((l.length:Int)+j)%16=0:=by have:=HJ.out;omega
   have u:(((l.length:Int)+j)%16 != 0)=false:=by simp;omega
   clear C;go_wp2
   go_ret;refine⟨_,rfl,?_,d⟩;rw[r.out,HJ.out];exact b
theorem GP(v:Value)(l:List Int)(n:Nat)(B:Nat)(w:World)(r:w.ownsRow B 5 1 v l.length (l.map (Value.int .u8)))(A:B<=w.heap.size)(G:l.length<=100000)(H:n<=100000) :
  Calls prog 192 #[v,.int .i64 n] w λe w'=>∃ v',e=.returned v'/\w'.ownsRow B 5 1 v' (l++leB 8 (n:Int)).length ((l++leB 8 (n:Int)).map (Value.int .u8))/\Below B w w':=by
 go_enter func192,ntmps192
 go_wp2_with fail
 go_loopw [0,1,5] (λv s i wr=>∃ k:Nat,k<=8/\i=.int .i64 k/\s=.int .i64 ((n:Int)/256^k)/\wr.ownsRow B 5 1 v (l++leB k (n:Int)).length ((l++leB k (n:Int)).map (Value.int .u8))/\Below B w wr) (λ_ _ i _=>8-(intOf i).toNat)
 case atStart=>exact⟨0,by omega,rfl,by simp,by simpa[leB]using r,Below.refl _ _⟩
 case round =>
  clear r;obtain⟨k,q,rfl,rfl,a,c⟩:=hrel;have h:=a.lt;by_cases C:k<8
  .have hki:(k:Int)<8:=by omega
   obtain⟨x,d⟩:∃ x:Int,(n:Int)/256^k=x:=⟨_,rfl⟩;have t:(0:Int)<256^k:=Mq k;have D:0<=x:=by rw[<- d];exact Int.ediv_nonneg (by omega) (by omega)
   have E:x<=100000:=by rw[<- d];have:=Int.ediv_le_self (256^k) (show(0:Int)<=n by omega);omega
   have z:Hid ((n:Int)/256^(k+1)=x/256):=by unfold Hid;rw[p9,<- pM (pV t),d]
   have b:Hid (x%256=AK n k):=by unfold Hid AK;rw[d]
   have g:=D2 k (n:Int);have o:Hid (leB (k+1) (n:Int)=leB k n++[AK n k]):=Ze k _;rw[d];clear d t;generalize leB k (n:Int)=pre at a o g;generalize AK (n:Int) k=y at b o;go_wp2_with (at_builtin;refine Aa _ rfl _ _ 37 rfl B 5 underlying37 Av _ _ rfl rfl (l++pre) [y] (a.alloc _) (Sl.sT _ _ _ _ rfl ?_ ?_) (by simp;omega) (by have:=c.size;simp;omega) ?_)
   .have:=b.out;omega
   .have:=b.out;omega
   intro F u j f;have m:u.ownsRow B 5 1 F (l++(pre++[y])).length ((l++(pre++[y])).map (Value.int .u8)):=by rw[<- mC];simpa[g]using j
   have p:Below B w u:=(c.alloc (mB A c.size) _).grown f (by have:=c.size;simp;omega) (λk q=>(h k q).1);clear j f a h c;go_wp2
   go_roundw
   case rel=>exact⟨k+1,by omega,by go_num,by rw[z.out],by rw[o.out];exact m,p⟩
   case measure=>simp[intOf];omega
  .obtain rfl:k=8:=by omega
   go_wp2
   go_ret;exact⟨_,rfl,a,c⟩
theorem Zb(O P:Value)(a s:List Int)(w:World)(z:Sl w O a)(B:Sl w P s)(U:a.length<=10000)(V:s.length<=10000) :
  Calls prog 178 #[O,P] w λe w'=>∃ v',e=.returned v'/\Sl w' v' (G0 a s)/\Bw w w':=by
 have f:Hid (G0 a s=E7 (E7 a++s)++leB 8 (a.length:Int)++leB 8 (s.length:Int)):=by unfold Hid;rw[ZJ];rfl
 have R:Hid (∀ x∈G0 a s,0<=x/\x<256):=SW z.byte B.byte;have Q:Hid ((G0 a s).length<=30000):=by unfold Hid;rw[IL];have:=Ik a.length;have:=Ik s.length;omega
 have H:(E7 a).length<=11000:=by rw[EH];have:=Ik a.length;omega
 have i:(E7 (E7 a++s)).length<=30000:=by rw[EH,H'];have:=Ik ((E7 a).length+s.length);omega
 obtain⟨aa,ca,rfl⟩:=z.shape;obtain⟨S,cs,rfl⟩:=B.shape;generalize L:a.length=n at U f z ⊢;generalize K:s.length=m at V f B ⊢;have l:Hid (a.length=n):=L;have j:Hid (s.length=m):=K;clear L K;go_enter func178,ntmps178
 go_wp2_with (at_builtin;refine Aa _ rfl _ _ 37 rfl w.heap.size 5 underlying37 Av _ _ rfl rfl [] a (World.ownsRow_nil _ _ _ _) z (by have:=l.out;simp;omega) (A' _) ?_)
 intro M I c p;have C:Bw w I:=(Below.refl _ _).grown p (A' _) (by simp[Value.ownBlock]);replace c:I.ownsRow w.heap.size 5 1 M a.length (a.map (Value.int .u8)):=by simpa using c
 clear p;go_wp2_with fail
 refine(K6 M a w.heap.size I c C.size (by have:=l.out;omega)).mono ?_;rintro e w2 ⟨v2,rfl,d,g⟩;replace g:=C.trans g;clear c C;have v:=B.af g;have r:=d.lt;generalize E7 a=A at f H i d;go_wp2_with (at_builtin;refine Aa _ rfl _ _ 37 rfl w.heap.size 5 underlying37 Av _ _ rfl rfl A s d v (by have:=j.out;omega) g.size ?_)
 intro N J b q;have D:Bw w J:=g.grown q g.size (λk T=>(r k T).1);clear q r d g v;replace b:J.ownsRow w.heap.size 5 1 N (A++s).length ((A++s).map (Value.int .u8)):=by simpa using b
 have F:(A++s).length<=21000:=by rw[H'];have:=j.out;omega
 generalize A++s=AS at f i b F;go_wp2_with fail
 refine(K6 N AS w.heap.size J b D.size (by omega)).mono ?_;rintro e Z ⟨W,rfl,h,o⟩;replace o:=D.trans o;clear b D;generalize E7 AS=X at f i h;go_wp2_with fail
 refine(GP W X n w.heap.size Z h o.size (by omega) (by omega)).mono ?_;rintro e w5 ⟨Y,rfl,t,y⟩;replace y:=o.trans y;have G:(X++leB 8 (n:Int)).length<=30008:=by rw[H',D2];omega
 clear h o;generalize X++leB 8 (n:Int)=X5 at f G t;go_wp2_with fail
 refine(GP Y X5 m w.heap.size w5 t y.size (by omega) (by omega)).mono ?_;rintro e w6 ⟨v6,rfl,u,E⟩;replace E:=y.trans E;rw[<- f.out]at u
 go_wp2
 go_ret;exact⟨_,rfl,Sl.nn u (by have:=Q.out;omega) R.out,E⟩
def Hl(key nonce a:List Int):Bool:=decide (key.length=32)&&decide (nonce.length=12)&&decide (a.length<=256)
theorem Ha(h i g:Value)(key b a:List Int)(w:World)(d:Sl w h key)(f:Sl w i b)(c:Sl w g a) :
  Calls prog 149 #[h,i,g] w λe w'=>e=.returned (.bool (Hl key b a))/\w'=w:=by
 have j:=d.len;have k:=f.len;have l:=c.len;obtain⟨n,q,rfl⟩:=d.shape;obtain⟨o,r,rfl⟩:=f.shape;obtain⟨m,p,rfl⟩:=c.shape;unfold Hl;generalize key.length=n1 at j d ⊢;generalize b.length=n2 at k f ⊢;generalize a.length=n3 at l c ⊢;clear d f c;by_cases c1:(n1:Int)=32
 .by_cases c2:(n2:Int)=12
  .by_cases c3:(n3:Int)<=256
   .go_enter func149,ntmps149
    go_wp2
    go_ret;refine⟨Am ?_,rfl⟩;simp;omega
   .go_enter func149,ntmps149
    go_wp2
    go_ret;refine⟨Am ?_,rfl⟩;simp;omega
  .go_enter func149,ntmps149
   go_wp2
   go_ret;refine⟨Am ?_,rfl⟩;simp;omega
 .go_enter func149,ntmps149
  go_wp2
  go_ret;refine⟨Am ?_,rfl⟩;simp;omega
theorem XK(b d:Value)(key a:List Int)(x:Int)(c:Nat)(j:x=(c:Int))(w:World)(g:Sl w b key)(h:Sl w d a)(lk:key.length=32)(k:a.length=12)(f:c<=1073741824)(i:CX w) :
  Calls prog 176 #[b,.int .i64 x,d] w λe w'=>∃ v',e=.returned (.tuple #[v',.int .i64 0])/\Got w w' v' (CO (Ce key (BitVec.ofNat 32 c) a)):=by
 subst j;exact XL b d key a c w g h lk k f i
theorem PD(u v D E:Value)(key b a s:List Int)(w:World)(y:Sl w u key)(z:Sl w v b)(x:Sl w D a)(A:Sl w E s)(lk:key.length=32)(B:b.length=12)(L:a.length<=256)(M:s.length<=2000)(J:CX w) :
  Calls prog 151 #[u,v,D,E] w λe w'=>∃ v',e=.returned (.tuple #[v',.int .i64 0])/\Sl w' v' (E2 key b a s)/\Bw w w':=by
 have o:Hid (E2 key b a s=Xd ((CO (Ce key (BitVec.ofNat 32 0) b)).take 32) (G0 a s)):=rfl;have g:(G0 a s).length<=4000:=by rw[IL];have:=Ik a.length;have:=Ik s.length;omega
 go_enter func151,ntmps151
 go_wp2_with fail
 refine(XK u v key b 0 0 rfl w y z lk B (by omega) J).mono ?_;rintro e S ⟨R,rfl,p⟩;have j:=p.sl;have k:=p.rF;clear p;have d:=EU (Ce key (BitVec.ofNat 32 0) b);generalize CO (Ce key (BitVec.ofNat 32 0) b)=bs at o j d;obtain⟨G,H,rfl⟩:=j.shape;rw[d]at j ⊢
 obtain⟨F,c1,c,C⟩:=j.ri 32 (by omega);have I:∀ W,(Instr.slice 37 (.slice G 64 H) none (some (.int .i64 32)) none).run prog W=.ok (.slice F 32 c1) W:=c;have lt:(bs.take 32).length=32:=by rw[Y'];omega
 generalize bs.take 32=K at o C lt;have q:=x.af k;have t:=A.af k;clear c j d;have h:a.length<=10000:=by omega
 have i:s.length<=10000:=by omega
 have l:Hid (a.length<=10000):=h;have n:Hid (s.length<=10000):=i;have m:Hid ((G0 a s).length<=4000):=g;clear L M h i g y z x A lk B;go_wp2_with fail
 go_region_with (first
  | (go_at_call 178;refine(Zb _ _ a s _ (q.af ((Below.refl _ _).drew)) (t.af ((Below.refl _ _).drew)) l.out n.out).mono ?_;rintro e P ⟨Q,rfl,N,f⟩)
  | (go_at_call 177;refine(jy _ _ K _ _ (C.af ((Below.refl _ _).drew.trans f)) N lt m.out).mono ?_;rintro e T ⟨O,rfl,s3,r⟩))
 all_goals
  go_wp2
  go_ret2
  refine⟨O,rfl,?_,?_⟩
  .rw[o.out];exact s3
  .have b2:Bw w P:=k.trans (((Below.refl _ _).drew.trans f).mono k.size);exact b2.trans (r.mono b2.size)
theorem QL(c f b:Value)(key a d:List Int)(w:World)(h:Sl w c key)(i:Sl w f a)(g:Sl w b d)(lk:key.length=32)(l:a.length=12)(k:d.length<=2000)(j:CX w) :
  Calls prog 150 #[c,.int .i64 1,f,b] w λe w'=>∃ v',e=.returned (.tuple #[v',.int .i64 0])/\w'.ownsRow w.heap.size 5 1 v' (EM key a d).length ((EM key a d).map (Value.int .u8))/\Bw w w' :=
 dS c f b key a d 1 w h i g lk l (by omega) k j
theorem FN{b:World}{a e:Nat}{n:Nat}{c:List Value}(h:w.ownsRow a e 1 v n c)(d:Bw w b):b.ownsRow a e 1 v n c :=
 Fq h λk f=>d.block k (h.lt k f).2
theorem J8(h:Hl key nonce a=true):key.length=32/\nonce.length=12/\a.length<=256:=by
 unfold Hl at h;simp at h;omega
theorem eY(o q v K:Value)(key b a p:List Int)(w:World)(i:Sl w o key)(s:Sl w q b)(A:Sl w v a)(t:Sl w K p)(E:Hl key b a=true)(U:p.length<=2000)(D:CX w) :
  Calls prog 118 #[o,q,v,K] w λe w'=>∃ v',e=.returned (.tuple #[v',.int .i64 0])/\Sl w' v' (K5 key b a p)/\Bw w w':=by
 obtain⟨lk,F,S⟩:=J8 E;have j:=D.pos;have y:Hid (K5 key b a p=EM key b p++E2 key b a (EM key b p)):=rfl;have n:=FT key b p;have g:∀ x∈EM key b p,0<=x/\x<256:=JE _ t.byte;have Q:¬ (2000:Int)<(p.length:Int):=by omega
 obtain⟨ap,W,rfl⟩:=t.shape;go_enter func118,ntmps118
 go_wp2_with fail
 refine(Ha o q v key b a w i s A).mono ?_;rintro e r ⟨rfl,rfl⟩;rw[E];go_wp2_with fail
 refine(QL o q _ key b p r i s t lk F U D).mono ?_;rintro e M ⟨L,rfl,u,c⟩;generalize EM key b p=X at y n g u;have H:Sl M L X:=Sl.nn u (by omega) g;go_wp2_with fail
 refine(PD o q v L key b a X M (i.af c) (s.af c) (A.af c) H lk F S (by omega) (D.af j c)).mono ?_;rintro e V ⟨Y,rfl,I,z⟩;have G:=FN u z;have C:=G.lt;have d:Bw r V:=c.trans (z.mono c.size);have m:=Jk key b a X;have l:=MH key b a X;generalize E2 key b a X=T at y I m l;have P:X.length<=2000:=by omega
 clear n u H c z i s A t;go_wp2_with (at_builtin;refine Aa _ rfl _ _ 37 rfl r.heap.size 5 underlying37 Av _ _ rfl rfl X T G I (by omega) d.size ?_)
 intro J N f B;replace f:N.ownsRow r.heap.size 5 1 J (X++T).length ((X++T).map (Value.int .u8)):=by simpa[m]using f
 have O:Bw r N:=d.grown B d.size (λk i=>(C k i).1);go_wp2
 go_ret2
 refine⟨J,rfl,?_,O⟩;rw[y.out];refine Sl.nn f (by rw[H'];omega) ?_;intro x R;rcases U'.1 R with h|h
 .exact g x h
 .exact l x h
def Es(key nonce a d:List Int):Int :=
 if Hl key nonce a=true/\d.length<=2016 then(if d.length<16 then 13 else if E2 key nonce a (d.take (d.length-16))=d.drop (d.length-16)then 0 else 6)else 1
def QY(key nonce a d:List Int):List Int:=if Es key nonce a d=0 then EM key nonce (d.take (d.length-16))else[]
theorem ei(g i f o:Value)(key b a d:List Int)(w:World)(m:Sl w g key)(n:Sl w i b)(k:Sl w f a)(l:Sl w o d)(j:Hl key b a=false\/2016<d.length) :
  Calls prog 196 #[g,i,f,o] w λe w'=>e=.returned (.tuple #[.slice none 0 0,.int .i64 1])/\w'=w:=by
 have r:=l.len;obtain⟨ap,q,rfl⟩:=l.shape;by_cases c:Hl key b a=true
 .have hpl:(2016:Int)<(d.length:Int):=by
   rcases j with h|h
   .rw[c]at h;cases h
   .omega
  go_enter func196,ntmps196
  go_wp2_with fail
  refine(Ha g i f key b a w m n k).mono ?_;rintro e p ⟨rfl,rfl⟩;rw[c];go_wp2
  go_ret2
  exact⟨rfl,rfl⟩
 .rw[Bool.not_eq_true]at c
  go_enter func196,ntmps196
  go_wp2_with fail
  refine(Ha g i f key b a w m n k).mono ?_;rintro e p ⟨rfl,rfl⟩;rw[c];go_wp2
  go_ret2
  exact⟨rfl,rfl⟩
theorem Tp(f g c h:Value)(key b a d:List Int)(w:World)(l:Sl w f key)(m:Sl w g b)(i:Sl w c a)(j:Sl w h d)(k:Hl key b a=true)(p:d.length<16) :
  Calls prog 196 #[f,g,c,h] w λe w'=>e=.returned (.tuple #[.slice none 0 0,.int .i64 13])/\w'=w:=by
 obtain⟨ap,o,rfl⟩:=j.shape;have n:(d.length:Int)<16:=by omega
 go_enter func196,ntmps196
 go_wp2_with fail
 refine(Ha f g c key b a w l m i).mono ?_;rintro e q ⟨rfl,rfl⟩;rw[k];go_wp2
 go_ret2
 exact⟨rfl,rfl⟩
theorem ZE(r s q H:Value)(key b a d:List Int)(w:World)(l:Sl w r key)(n:Sl w s b)(k:Sl w q a)(f:Sl w H d)(E:Hl key b a=true)(m:Nat)(F:d.length=m+16)(V:m<=2000)(o:CX w)(G:E2 key b a (d.take m)≠d.drop m) :
  Calls prog 196 #[r,s,q,H] w λe w'=>e=.returned (.tuple #[.slice none 0 0,.int .i64 6])/\Bw w w':=by
 obtain⟨lk,N,M⟩:=J8 E;have h:=o.pos;have i:=f.byte;obtain⟨ad,U,rfl⟩:=f.shape;rw[F]at f ⊢
 obtain⟨R,c1,A,p⟩:=f.ri m (by omega);obtain⟨S,T,g,j⟩:=f.from m (by omega);rw[Nat.add_sub_cancel_left]at g j
 have B:(d.take m).length=m:=by rw[Y'];omega
 have Q:∀ x∈d.take m,0<=x/\x<256:=λx K=>i x (mP K);have y:Hid (E2 key b a (d.take m)≠d.drop m):=G;clear G;generalize d.take m=D at p B Q y ⊢;generalize d.drop m=L at j y;have v:Hid (D.length=m):=B;clear f F i B;go_enter func196,ntmps196
 go_wp2_with fail
 refine(Ha r s q key b a w l n k).mono ?_;rintro e t ⟨rfl,rfl⟩;rw[E];go_wp2_with fail
 go_quiet (fail)
 have c:Bw t (t.drewN nq):=Ap (Below.refl _ _) nq;generalize t.drewN nq=w1 at c ⊢;replace l:=l.af c;replace n:=n.af c;replace k:=k.af c;replace p:=p.af c;replace j:=j.af c;replace o:=o.af h c;clear A g;go_wp2_with fail
 refine(PD r s q _ key b a D w1 l n k p lk N M (by have:=v.out;omega) o).mono ?_;rintro e u ⟨P,rfl,O,z⟩;go_wp2_with fail
 refine(Jg P _ (E2 key b a D) L u O (j.af z)).mono ?_;rintro e W ⟨rfl,C,rfl⟩;have I:Bw u (u.drewN C):=Ap (Below.refl _ _) C;have J:Bw t (u.drewN C):=c.trans ((z.trans (I.mono z.size)).mono c.size);rw[E' y.out];go_wp2
 go_ret2
 exact⟨rfl,J⟩
theorem ej(y z B P:Value)(key b a d:List Int)(w:World)(f:Sl w y key)(g:Sl w z b)(r:Sl w B a)(n:Sl w P d)(I:Hl key b a=true)(m:Nat)(J:d.length=m+16)(hl:m<=2000)(i:CX w)(K:E2 key b a (d.take m)=d.drop m) :
  Calls prog 196 #[y,z,B,P] w λe w'=>∃ v',e=.returned (.tuple #[v',.int .i64 0])/\Sl w' v' (EM key b (d.take m))/\Bw w w':=by
 obtain⟨lk,M,Y⟩:=J8 I;have h:=i.pos;have u:=n.byte;obtain⟨ad,cd,rfl⟩:=n.shape;rw[J]at n ⊢
 obtain⟨a1,c1,G,j⟩:=n.ri m (by omega);obtain⟨a2,c2,s,o⟩:=n.from m (by omega);rw[Nat.add_sub_cancel_left]at s o
 have H:(d.take m).length=m:=by rw[Y'];omega
 have T:∀ x∈d.take m,0<=x/\x<256:=λx W=>u x (mP W);have C:Hid (E2 key b a (d.take m)=d.drop m):=K;clear K;generalize d.take m=D at j H T C ⊢;generalize d.drop m=L at o C;have k:Hid (D.length=m):=H;clear n J u H;go_enter func196,ntmps196
 go_wp2_with fail
 refine(Ha y z B key b a w f g r).mono ?_;rintro e A ⟨rfl,rfl⟩;rw[I];go_wp2_with fail
 go_quiet (fail)
 have c:Bw A (A.drewN nq):=Ap (Below.refl _ _) nq;generalize A.drewN nq=w1 at c ⊢;replace f:=f.af c;replace g:=g.af c;replace r:=r.af c;replace j:=j.af c;replace o:=o.af c;replace i:=i.af h c;clear G s;go_wp2_with fail
 refine(PD y z B _ key b a D w1 f g r j lk M Y (by have:=k.out;omega) i).mono ?_;rintro e p ⟨vt,rfl,O,l⟩;go_wp2_with fail
 refine(Jg vt _ (E2 key b a D) L p O (o.af l)).mono ?_;rintro e R ⟨rfl,v,rfl⟩;have E:Bw p (p.drewN v):=Ap (Below.refl _ _) v;have F:Bw A (p.drewN v):=c.trans ((l.trans (E.mono l.size)).mono c.size);rw[O' C.out];have q:Bw w1 (p.drewN v):=l.trans (E.mono l.size);replace f:=f.af q;replace g:=g.af q;replace j:=j.af q;replace i:=i.af (j' h c.size) q;have X:=FT key b D;have t:∀ x∈EM key b D,0<=x/\x<256:=JE _ T;clear o O r E l;generalize p.drewN v=R at f g j i F q ⊢;go_wp2_with fail
 refine(QL y z _ key b D R f g j lk M (by have:=k.out;omega) i).mono ?_;rintro e S ⟨Q,rfl,N,U⟩;have Z:Sl S Q (EM key b D):=Sl.nn N (by have:=k.out;omega) t;have V:Bw A S:=F.trans (U.mono F.size);clear N t;go_wp2
 go_ret2
 exact⟨Q,rfl,Z,V⟩
theorem ZD(i j f g:Value)(key c a d:List Int)(w:World)(m:Sl w i key)(n:Sl w j c)(k:Sl w f a)(l:Sl w g d)(o:CX w) :
  Calls prog 196 #[i,j,f,g] w λe w'=>∃ v',e=.returned (.tuple #[v',.int .i64 (Es key c a d)])/\Sl w' v' (QY key c a d)/\Bw w w':=by
 unfold QY;by_cases h:Hl key c a=true/\d.length<=2016
 .by_cases h16:d.length<16
  .have hE:Es key c a d=13:=by unfold Es;rw[if_pos h,if_pos h16]
   rw[hE,if_neg (by omega)];refine(Tp i j f g key c a d w m n k l h.1 h16).mono ?_;rintro e p ⟨rfl,rfl⟩;exact⟨_,rfl,Sl.nil _ _,Below.refl _ _⟩
  .by_cases hq:E2 key c a (d.take (d.length-16))=d.drop (d.length-16)
   .have hE:Es key c a d=0:=by unfold Es;rw[if_pos h,if_neg h16,if_pos hq]
    rw[hE,if_pos rfl];exact ej i j f g key c a d w m n k l h.1 (d.length-16) (by omega) (by omega) o hq
   .have hE:Es key c a d=6:=by unfold Es;rw[if_pos h,if_neg h16,if_neg hq]
    rw[hE,if_neg (by omega)];refine(ZE i j f g key c a d w m n k l h.1 (d.length-16) (by omega) (by omega) o hq).mono ?_;rintro e p ⟨rfl,b⟩;exact⟨_,rfl,Sl.nil _ _,b⟩
 .have hE:Es key c a d=1:=by unfold Es;rw[if_neg h]
  rw[hE,if_neg (by omega)];refine(ei i j f g key c a d w m n k l ?_).mono ?_
  .by_cases hf:Hl key c a=true
   .exact .inr (by have:¬ d.length<=2016:=λq=>h ⟨hf,q⟩;omega)
   .exact .inl (by simpa using hf)
  .rintro e p ⟨rfl,rfl⟩;exact⟨_,rfl,Sl.nil _ _,Below.refl _ _⟩
theorem TS(key a:List Int){p:List Int}(b:∀ x∈p,0<=x/\x<256):∀ x∈EM key a p,0<=x/\x<256:=JE _ b
theorem TJ(key b a:List Int){p:List Int}(c:∀ x∈p,0<=x/\x<256):∀ x∈K5 key b a p,0<=x/\x<256:=by
 intro x d;rcases U'.1 d with h|h
 .exact TS key b c x h
 .exact MH _ _ _ _ x h
theorem di(lk:key.length=32)(c:nonce.length=12)(b:a.length<=256):Hl key nonce a=true:=by
 unfold Hl;simp;omega
end
end
section
def KO(key:List Int)(n:Int)(p:List Int):List Int:=Ad n++K5 key (BI (Ad n)) (Ad n) p
theorem GB(key:List Int)(n:Int)(p:List Int):(KO key n p).length=p.length+20:=by
 rw[KO,H',CI,Jh];omega
theorem WG(key:List Int)(n:Int){p:List Int}(a:∀ x∈p,0<=x/\x<256):∀ x∈KO key n p,0<=x/\x<256:=by
 intro x b;rcases U'.1 b with h|h
 .exact Bb n x h
 .exact TJ _ _ _ a x h
def Ey(key:List Int)(s t:Int)(l:List Bool)(p:List Int):Int:=if ¬ OkC key s t l then 5 else if 2000<p.length then 1 else if s=1073741824 then 8 else 0
def CM(key:List Int)(s t:Int)(l:List Bool)(r:List Int):Int :=
 if ¬ OkC key s t l then 5 else if 2020<r.length then 1 else if r.length<20 then 13 else if 1073741824<=FL (r.take 4)then 2 else if Io t l (FL (r.take 4))=true then 7
 else Es key (BI (r.take 4)) (r.take 4) (r.drop 4)
def K9(key:List Int)(r:List Int):List Int:=QY key (BI (r.take 4)) (r.take 4) (r.drop 4)
end
section
open Go.RowKit
section
structure Bt(w:World)(g:Nat)(c r u:Int):Prop where
 lt:g<w.heap.size
 row:w.heap[g]?=some (.cells (tkA c r u) 57)
theorem Bt.made(w:World)(c r u:Int):Bt (w.alloc (.cells (tkA c r u) 57)) w.heap.size c r u:=⟨by simp,heap_alloc_new _ _⟩
variable{c r u:Int}{g:Nat}{key:List Int}{w:World}
theorem Bt.af{b:World}(h:Bt w g c r u)(a:Bw w b):Bt b g c r u :=
 ⟨j' h.lt a.size,(a.block g h.lt).trans h.row⟩
theorem Jp(c r u:Int):(prog.info? 57).map (·.size)=some (tkA c r u).size:=by show _=some 3;kernel_rfl
theorem JW{a:TypeId}{fr:Nat × Nat}(h:w.heap[g]?=some (.cells (tkA c r u) a fr)) :
  w.cell? ⟨g,0,none⟩=some (.int .i64 c)/\w.cell? ⟨g,1,none⟩=some (.int .i64 r)/\w.cell? ⟨g,2,none⟩=some (.int .i64 u) :=
 ⟨cell_of_row _ _ 0 _ _ _ h,cell_of_row _ _ 1 _ _ _ h,cell_of_row _ _ 2 _ _ _ h⟩
theorem JD(c r u:Int)(w:World) :
  Calls prog 70 #[.agg (tkA c r u)] w λe w'=>e=.returned (.bool (decide (D0 c r u)))/\Bw w w':=by
 have b:Bw w (w.alloc (.cells (tkA c r u) 57)):=(Below.refl _ _).alloc (A' _) _;have i:=Bt.made w c r u;generalize k:w.alloc (.cells (tkA c r u) 57)=W at b i;obtain⟨c0,c1,l⟩:=JW i.row;clear i;go_enter func70,ntmps70
 go_wp2_with fail
 clear k;refine(Fx c 7 _).mono ?_;rintro e j ⟨rfl,rfl⟩;by_cases d:0<=c/\c<=7
 .rw[O' d];go_wp2_with fail
  refine(Fx r 7 _).mono ?_;rintro e j ⟨rfl,rfl⟩;by_cases f:0<=r/\r<=7
  .rw[O' f];go_wp2_with fail
   refine(Fx u 1048576 _).mono ?_;rintro e j ⟨rfl,rfl⟩;by_cases h:0<=u/\u<=1048576
   .rw[O' h];have a:Hid (true=decide (D0 c r u)):=(O' ⟨d,f,h⟩).symm;go_wp2
    go_ret;exact⟨Am a.out,b⟩
   .rw[E' h];have a:Hid (false=decide (D0 c r u)):=(E' (λg=>h g.2.2)).symm;go_wp2
    go_ret;exact⟨Am a.out,b⟩
  .rw[E' f];have a:Hid (false=decide (D0 c r u)):=(E' (λg=>f g.2.1)).symm;go_wp2
   go_ret;exact⟨Am a.out,b⟩
 .rw[E' d];have a:Hid (false=decide (D0 c r u)):=(E' (λg=>d g.1)).symm;go_wp2
  go_ret;exact⟨Am a.out,b⟩
def KY(key:List Int)(c r u:Int):List Int:=KX c r u++(E6 key (KX c r u)).take 16
theorem NN(key b:List Int):((E6 key b).take 16).length=16:=by rw[Y',DL];rfl
theorem ER(key:List Int)(c r u:Int):(KY key c r u).length=22:=by unfold KY;rw[H',NN,EQ]
theorem RA(key b:List Int):∀ x∈(E6 key b).take 16,0<=x/\x<256:=λx a=>Oz key b x (mP a)
theorem Xp(key:List Int){c r u:Int}(h:D0 c r u):∀ x∈KY key c r u,0<=x/\x<256:=by
 intro x hx;rcases U'.1 hx with hx|hx
 .exact OJ h x hx
 .exact RA _ _ x hx
def Nx(key:List Int)(c r u:Int):Int:=if key.length≠32 then 1 else NO c r u
def Q8(key:List Int)(c r u:Int):List Int:=if Nx key c r u=0 then KY key c r u else[]
theorem VQ(h:¬ key.length=32):Nx key c r u=1:=if_pos h
theorem Q7(h:key.length=32):Nx key c r u=NO c r u:=if_neg (λg=>g h)
theorem dz(h:Nx key c r u=0):Q8 key c r u=KY key c r u:=if_pos h
theorem UD(h:¬ Nx key c r u=0):Q8 key c r u=[]:=if_neg h
theorem SM(c r u:Int)(w:World)(h:D0 c r u) :
  Calls prog 71 #[.agg (tkA c r u)] w λe w'=>∃ v',e=.returned v'/\w'.ownsRow w.heap.size 5 1 v' (KX c r u).length ((KX c r u).map (Value.int .u8))/\Bw w w':=by
 have d:Bw w (w.alloc (.cells (tkA c r u) 57)):=(Below.refl _ _).alloc (A' _) _;have f:=Bt.made w c r u;generalize o:w.alloc (.cells (tkA c r u) 57)=W at d f;obtain⟨c0,c1,m⟩:=JW f.row;have lt:=f.lt;clear f;obtain⟨⟨q,s⟩,⟨t,v⟩,i,x⟩:=h;have C:c%256=c:=by omega
 have D:r%256=r:=by omega
 have A:Hid (KX c r u=[c,r]++Ad u):=rfl;have b:Bw W (W.alloc (.cells #[.int .u8 c,.int .u8 r] 5)):=(Below.refl _ _).alloc (A' _) _;have k:(W.alloc (.cells #[.int .u8 c,.int .u8 r] 5)).ownsRow W.heap.size 5 1 (.slice (some ⟨W.heap.size,0,none⟩) 2 2) ([c,r]:List Int).length (([c,r]:List Int).map (Value.int .u8)) :=
  ⟨rfl,.inr ⟨W.heap.size,2,#[.int .u8 c,.int .u8 r],rfl,A' _,heap_alloc_new _ _,by simp,by simp[maxLen],rfl,rfl⟩⟩
 have j:Hid ((W.alloc (.cells #[.int .u8 c,.int .u8 r] 5)).ownsRow W.heap.size 5 1 (.slice (some ⟨W.heap.size,0,none⟩) 2 2) ([c,r]:List Int).length (([c,r]:List Int).map (Value.int .u8))):=k;clear k;generalize g:W.alloc (.cells #[.int .u8 c,.int .u8 r] 5)=W1 at b j;have B:W1.cell? ⟨w.heap.size,2,none⟩=some (.int .i64 u):=(b.cell (p:=⟨w.heap.size,2,none⟩) lt).trans m;have n:=d.trans (b.mono d.size);have y:=b.size;go_enter func71,ntmps71
 go_wp2_with fail
 clear o g;refine(H7 _ [c,r] u W.heap.size W1 j.out y (by simp) i (by omega)).mono ?_;rintro e F ⟨E,rfl,z,l⟩;have a:=d.size;go_wp2
 go_ret;exact⟨_,rfl,Be z a,n.trans (l.mono a)⟩
theorem R8(d c:Value)(key b:List Int)(w:World)(n:Sl w d key)(m:Sl w c b)(lk:key.length<=256)(p:b.length<=2000)(o:AJ w) :
  Calls prog 72 #[d,c] w λe w'=>∃ v',e=.returned (.tuple #[v',.int .i64 0])/\Sl w' v' ((E6 key b).take 16)/\Bw w w':=by
 go_enter func72,ntmps72
 go_wp2_with fail
 refine(gy d c key b w n m lk p o).mono ?_;rintro e t ⟨s,rfl,l⟩;obtain⟨f,i,g,k,rfl,_,_⟩:=l;obtain⟨h,j,a,q⟩:=f.ri 16 (by rw[DL];omega);rw[DL]at a ⊢
 have r:∀ W,(Instr.slice 37 (.slice (some ⟨g,0,none⟩) 32 k) none (some (.int .i64 16)) none).run prog W=.ok (.slice h 16 j) W:=a;clear a f;go_wp2
 go_ret2
 exact⟨_,rfl,q,i⟩
theorem VR(E:Value)(key:List Int)(c r u:Int)(w:World)(f:Sl w E key)(N:AJ w) :
  Calls prog 34 #[E,.agg (tkA c r u)] w λe w'=>∃ v',e=.returned (.tuple #[v',.int .i64 (Nx key c r u)])/\w'.ownsRow w.heap.size 5 1 v' (Q8 key c r u).length ((Q8 key c r u).map (Value.int .u8))/\Bw w w':=by
 have i:Bw w (w.alloc (.cells (tkA c r u) 57)):=(Below.refl _ _).alloc (A' _) _;have j:=Bt.made w c r u;have A:=Jp c r u;have m:=f.len;obtain⟨S,T,rfl⟩:=f.shape;generalize M:w.alloc (.cells (tkA c r u) 57)=W at i j;by_cases l:key.length=32
 .have HE:=Q7 (key:=key) (c:=c) (r:=r) (u:=u) l;have J:Hid (key.length=32):=l;rw[l]at f ⊢
  clear l m;go_enter func34,ntmps34
  go_wp2_with (refine wpList_load_row rfl 57 _ rfl w.heap.size rfl 57 _ (0,0) _ j.row underlying57 rfl A ?_)
  clear M;refine(JD c r u W).mono ?_;rintro e g ⟨rfl,p⟩;have b:=i.trans (p.mono i.size);replace j:=j.af p;clear p i;by_cases d:D0 c r u
  .have a:Hid (Nx key c r u=0):=HE.trans (Lq d);have h:Hid (Q8 key c r u=KY key c r u):=dz a.out;rw[O' d];clear HE;go_wp2_with (refine wpList_load_row rfl 57 _ rfl w.heap.size rfl 57 _ (0,0) _ j.row underlying57 rfl A ?_)
   refine(SM c r u g d).mono ?_;rintro e R ⟨P,rfl,x,q⟩;have s:=b.trans (q.mono b.size);have D:=Sl.nn x (by rw[EQ];omega) (OJ d);have H:=q.size;go_wp2_with fail
   refine(R8 _ P key (KX c r u) R (f.af s) D (by rw[J.out];omega) (by rw[EQ];omega) (N.af s)).mono ?_;rintro e F ⟨U,rfl,s3,n⟩;have y:=Ks x n;have t:Bw g F:=q.trans (n.mono H);have I:g.heap.size<=F.heap.size:=mB H n.size;have v:=y.lt;have O:=s3.len;have o:Hid (KY key c r u=KX c r u++(E6 key (KX c r u)).take 16):=rfl;have B:=EQ c r u;clear x n s D;generalize (E6 key (KX c r u)).take 16=Y at s3 o O;generalize KX c r u=X at y o B;go_wp2_with (at_builtin;refine Aa _ rfl _ _ 37 rfl g.heap.size 5 underlying37 Av _ _ rfl rfl X Y y s3 (by omega) I ?_)
   intro Q G C z;have L:Bw g G:=t.grown z I (λk f=>(v k f).1);have K:Hid (G.ownsRow g.heap.size 5 1 Q (KY key c r u).length ((KY key c r u).map (Value.int .u8))):=by unfold Hid;rw[o.out];simpa[B]using C
   clear C z;go_wp2
   go_ret2
   rw[h.out,a.out];exact⟨_,rfl,Be K.out b.size,b.trans (L.mono b.size)⟩
  .have a:Hid (Nx key c r u=2):=HE.trans (Vh d);have h:Hid (Q8 key c r u=[]):=UD (by rw[a.out];omega);rw[E' d];go_wp2
   go_ret2
   rw[h.out,a.out];exact⟨_,rfl,World.ownsRow_nil _ _ _ _,b⟩
 .have h1':¬ (key.length:Int)=32:=by omega
  have a:Hid (Nx key c r u=1):=VQ l;have h:Hid (Q8 key c r u=[]):=UD (by rw[a.out];omega);go_enter func34,ntmps34
  go_wp2
  go_ret2
  rw[h.out,a.out];exact⟨_,rfl,World.ownsRow_nil _ _ _ _,i⟩
end
end
end Go.Proofs.YtgbabbapcibnlaaGreatDoor
