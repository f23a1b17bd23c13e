/- Part 10 of the walk. -/
import Derived.Deep.OwnRows
import Derived.Laws.OwnMore
import Derived.Maps.AppendAt
import Derived.Test.YtdjfdfpkkenjbaaGreatDoorZ9
set_option maxRecDepth 100000
set_option maxHeartbeats 4000000
open Go.Proofs.Tryz
set_option linter.unusedVariables false
namespace Go.Proofs.YtdjfdfpkkenjbaaGreatDoor
section
open Go.RowKit
section
def FT(t:Nat)(x:Int):Int:=if t%4=3 then x%16 else if t%4=0/\0<t then x/4*4 else x
def Dq(l:List Int):List Int:=(List.range 16).map λt=>FT t (l.getD t 0)
theorem LB(l:List Int):(Dq l).length=16:=by simp[Dq]
theorem Qm(l:List Int)(t:Nat)(h:t<16):(Dq l).getD t 0=FT t (l.getD t 0):=by
 simp[Dq,List.getD,List.getElem?_map,List.getElem?_range h]
theorem Nh(t:Nat){x:Int}(h:0<=x/\x<256):0<=FT t x/\FT t x<256:=by
 unfold FT;split
 .omega
 .split<;>omega
variable{a key l m nonce p:List Int}{j:Nat}{v:Value}{w:World}
theorem Ox(h:∀ x∈l,0<=x/\x<256):∀ x∈Dq l,0<=x/\x<256:=by
 intro x a;obtain⟨t,_,rfl⟩:=i7.1 a;exact Nh t (Ag h t)
theorem Q3(h:l.length=m.length)(c:∀ t,t<l.length->l.getD t 0=m.getD t 0):l=m:=by
 apply kl h;intro t a b;have:=c t a
 rwa [AN a,AN b]at this
theorem eT(x:Int)(a:0<=x)(b:x<256):bits .and .u8 x 15=x%16:=by
 obtain⟨n,rfl⟩:=iO a;rw[show(15:Int)=((15:Nat):Int)from rfl,u8_and_nat _ _ (by omega) (by omega),show(15:Nat)=2^4-1 from rfl,kU];omega
theorem Qc:∀ n:Fin 256,n.val &&& 252=n.val/4*4:=by decide +kernel
theorem cH(x:Int)(a:0<=x)(b:x<256):bits .and .u8 x 252=x/4*4:=by
 obtain⟨n,rfl⟩:=iO a;have e:n &&& 252=n/4*4:=Qc ⟨n,by omega⟩;rw[show(252:Int)=((252:Nat):Int)from rfl,u8_and_nat _ _ (by omega) (by omega),e];omega
structure Upper(l m:List Int)(j:Nat):Prop where
 len:m.length=16
 at_:∀ t,m.getD t 0=if t%4=3/\t<3+4*j then l.getD t 0%16 else l.getD t 0
theorem Upper.zero(h:l.length=16):Upper l l 0:=by
 refine⟨h,λt=>?_⟩;rw[if_neg (by omega)]
theorem Upper.succ(h:Upper l m j)(a:j<4):Upper l (m.set (3+4*j) (m.getD (3+4*j) 0%16)) (j+1):=by
 refine⟨by simpa using h.len,λt=>?_⟩;by_cases e:3+4*j=t
 .subst e;rw[AF (by rw[h.len];omega),h.at_,if_neg (by omega),if_pos (by omega)]
 .rw[Aw e,h.at_];by_cases c:t%4=3/\t<3+4*j
  .rw[if_pos c,if_pos (by omega)]
  .rw[if_neg c,if_neg (by omega)]
structure Lower(l m:List Int)(j:Nat):Prop where
 len:m.length=16
 at_:∀ t,t<16->m.getD t 0=if t%4=3 then l.getD t 0%16 else if t%4=0/\0<t/\t<4+4*j then l.getD t 0/4*4 else l.getD t 0
theorem Upper.lower(h:Upper l m 4):Lower l m 0:=by
 refine⟨h.len,λt a=>?_⟩;rw[h.at_];by_cases c:t%4=3
 .rw[if_pos (by omega),if_pos c]
 .rw[if_neg (by omega),if_neg c,if_neg (by omega)]
theorem Lower.succ(h:Lower l m j)(b:j<3):Lower l (m.set (4+4*j) (m.getD (4+4*j) 0/4*4)) (j+1):=by
 refine⟨by simpa using h.len,λt a=>?_⟩;by_cases e:4+4*j=t
 .subst e;rw[AF (by rw[h.len];omega),h.at_ _ a,if_neg (by omega),if_neg (by omega),if_neg (by omega),if_pos (by omega)]
 .rw[Aw e,h.at_ _ a];by_cases c:t%4=3
  .rw[if_pos c,if_pos c]
  .rw[if_neg c,if_neg c];by_cases d:t%4=0/\0<t/\t<4+4*j
   .rw[if_pos d,if_pos (by omega)]
   .rw[if_neg d,if_neg (by omega)]
theorem Lower.nH(h:Lower l m 3):m=Dq l:=by
 refine Q3 (by rw[h.len,LB]) (λt a=>?_);rw[h.len]at a
 rw[h.at_ t a,Qm l t a,FT];by_cases c:t%4=3
 .rw[if_pos c,if_pos c]
 .rw[if_neg c,if_neg c];by_cases d:t%4=0/\0<t
  .rw[if_pos d,if_pos (by omega)]
  .rw[if_neg d,if_neg (by omega)]
theorem Upper.byte(h:Upper l m j)(a:∀ x∈l,0<=x/\x<256)(t:Nat):0<=m.getD t 0/\m.getD t 0<256:=by
 have:=Ag a t;rw[h.at_];split<;>omega
theorem Lower.byte(h:Lower l m j)(a:∀ x∈l,0<=x/\x<256)(t:Nat)(b:t<16):0<=m.getD t 0/\m.getD t 0<256:=by
 have:=Ag a t;rw[h.at_ t b];split
 .omega
 .split<;>omega
theorem Q6(v:Value)(l:List Int)(w:World)(h:Sl w v l)(S:l.length=16) :
  Calls prog 197 #[v] w λe w'=>∃ r,e=.returned (.agg (Af r))/\Lim 67108864 r/\val r%pp=leN (Dq l)%pp/\Bw w w':=by
 have T:=h;obtain⟨⟨a,Y,rfl,hc,hn,Z⟩,M,A⟩:=h;have n:Hid (∀ x∈l,0<=x/\x<256):=A;clear Z A hn M;have W:Hid (l.length=16):=S;go_enter func197,ntmps197
 go_wp2_with (refine wpList_copy_splice rfl _ _ 50 50 rfl 5 underlying50 Wr _ _ _ _ _ _ rfl rfl (w.heap.size+1) 0 ((List.replicate 16 (0:Int)).map (Value.int .u8)) 296 (heap_alloc2_new _ _ _) (l.map (Value.int .u8)) (by rw[iQ];exact(jw (show l.length<=16 by omega)).symm) (λhp=>⟨rfl,(T.ab (((Below.refl _ _).alloc (A' _) _).alloc (by simp) _)).src (by simpa using hp)⟩) (by rw[iQ,iQ,jI];omega) (E3 _) (w.heap.size+1) _ (Below.refl _ _) (A' _) ?_)
 intro F Q q;have E:F.heap[w.heap.size+1]?=some (.cells (byA l) 296 (0,0)):=by
  have R:F.heap[w.heap.size+1]?=some (.cells (splice ((List.replicate 16 (0:Int)).map (Value.int .u8)) 0 (l.map (Value.int .u8))).toArray 296 (0,0)):=Q.out;rw[H8,S]at R
  simpa[byA]using R
 have y:Bw w F:=(((Below.refl _ _).alloc (A' _) _).alloc (by simp) _).trans (q.mono (by omega));have C:F.heap[w.heap.size]?=some (.cells (Af [0,0,0,0,0]) 284 (0,0)):=by
  rw[q.block _ (by omega)];exact heap_alloc2_old _ _ _
 clear Q q T;go_wp2_with fail
 go_loopw [4] (λi wr=>∃ (j:Nat) (m:List Int),j<=4/\i=.int .i64 (3+4*(j:Int))/\Upper l m j/\wr.heap[w.heap.size]?=some (.cells (Af [0,0,0,0,0]) 284 (0,0))/\wr.heap[w.heap.size+1]?=some (.cells (byA m) 296 (0,0))/\Bw w wr) (λi _=>20-(intOf i).toNat)
 case atStart=>exact⟨0,l,by omega,rfl,Upper.zero W.out,C,E,y⟩
 case round =>
  clear C E y;obtain⟨j,m,hj,rfl,c,t,f,o⟩:=hrel;have N:=c.len;by_cases J:j<4
  .have K:3+4*(j:Int)<16:=by omega
   have H:=(cell_of_row _ _ (3+4*j) _ _ _ f).trans (GY m (3+4*j) (by omega));have fl:=frozen_of_row _ _ (3+4*j) _ _ f;have b:=c.byte n.out (3+4*j);have u:Hid (Upper l (m.set (3+4*j) (m.getD (3+4*j) 0%16)) (j+1)):=c.succ J;have d:=eT (m.getD (3+4*j) 0) b.1 b.2;generalize m.getD (3+4*j) 0=x at H u b d;clear c;go_wp2
   go_roundw
   case rel =>
    refine⟨j+1,_,by omega,by go_num,u.out,?_,FR f _ _,?_⟩
    .exact(heap_setCell_other _ _ _ _ (by simp)).trans t
    .exact o.setCell (p:=⟨w.heap.size+1,3+4*j,none⟩) (by simp) _
   case measure=>simp[intOf];omega
  .have HJ:Hid (j=4):=by unfold Hid;omega
   have K:¬ 3+4*(j:Int)<16:=by omega
   have B:Lower l m 0:=by have:=HJ.out;subst this;exact c.lower
   clear c;go_wp2_with fail
   go_loopw [5] (λi wr=>∃ (j:Nat) (m:List Int),j<=3/\i=.int .i64 (4+4*(j:Int))/\Lower l m j/\wr.heap[w.heap.size]?=some (.cells (Af [0,0,0,0,0]) 284 (0,0))/\wr.heap[w.heap.size+1]?=some (.cells (byA m) 296 (0,0))/\Bw w wr) (λi _=>20-(intOf i).toNat)
   case atStart=>exact⟨0,m,by omega,rfl,B,t,f,o⟩
   case round =>
    clear t f o B N;obtain⟨k,m,hk,rfl,c,t,f,o⟩:=hrel;have N:=c.len;by_cases L:k<3
    .have hki:4+4*(k:Int)<16:=by omega
     have H:=(cell_of_row _ _ (4+4*k) _ _ _ f).trans (GY m (4+4*k) (by omega));have fl:=frozen_of_row _ _ (4+4*k) _ _ f;have b:=c.byte n.out (4+4*k) (by omega);have u:Hid (Lower l (m.set (4+4*k) (m.getD (4+4*k) 0/4*4)) (k+1)):=c.succ L;have d:=cH (m.getD (4+4*k) 0) b.1 b.2;generalize m.getD (4+4*k) 0=x at H u b d;clear c;go_wp2
     go_roundw
     case rel =>
      refine⟨k+1,_,by omega,by go_num,u.out,?_,FR f _ _,?_⟩
      .exact(heap_setCell_other _ _ _ _ (by simp)).trans t
      .exact o.setCell (p:=⟨w.heap.size+1,4+4*k,none⟩) (by simp) _
     case measure=>simp[intOf];omega
    .have hki:¬ 4+4*(k:Int)<16:=by omega
     have V:Hid (k=3):=by unfold Hid;omega
     have s:m=Dq l:=by have:=V.out;subst this;exact c.nH
     have s3:Sl wr (.slice (some ⟨w.heap.size+1,0,none⟩) 16 16) m:=by
      refine Sl.rowOf f N (by omega) ?_;rw[s];exact Ox n.out
     have X:Hid (m=Dq l):=s;have G:Hid _:=s3;have O:w.heap.size<wr.heap.size:=(H'.1 t).1;clear c s3 s f;go_wp2_with fail
     refine(Pw _ m _ G.out (by omega)).mono ?_;rintro e U ⟨r,rfl,P,vr,z⟩;have D:=(z.block w.heap.size O).trans t;have I:Bw w U:=o.trans (z.mono o.size);have g:=Cz P.1;go_wp2_with ((with_reducible (refine An ?_));(refine wpList_store_row rfl 284 _ _ rfl (w.heap.size) _ rfl rfl 284 _ D g (by rw[Ah,Ah,P.1];rfl) (Bj r) ?_))
     exact bodyPost_ret (v:=.agg (Af r)) (results_cell_row rfl _ _ (w.heap.size) 284 _ (0,0) _ rfl (setRow_heap U (w.heap.size) _ _ 284 _ D) underlying284 rfl g) rfl ⟨r,rfl,P,by rw[vr,X.out],AR I (A' _) _⟩
def AC(v:Int)(i:Nat):Int:=v/256^i%256
theorem Ft(v:Int)(i:Nat):0<=AC v i/\AC v i<256:=by unfold AC;omega
def leB(n:Nat)(v:Int):List Int:=(List.range n).map (AC v)
theorem CY(n:Nat)(v:Int):(leB n v).length=n:=by simp[leB]
theorem Hk(n:Nat)(v:Int):∀ x∈leB n v,0<=x/\x<256:=by
 intro x a;obtain⟨j,_,rfl⟩:=i7.1 a;exact Ft v j
def Fc(S:Nat->Int):Nat->Int
 | 0=>0
 | k+1=>Fc S k+S k*256^k
def GZ(S:Nat->Int)(k:Nat):Int:=Fc S k/256^k
theorem KO(k:Nat):(0:Int)<256^k:=Int.pow_pos (by omega)
theorem Mj(S:Nat->Int):GZ S 0=0:=by simp[GZ,Fc]
theorem Mi(S:Nat->Int)(k:Nat):GZ S (k+1)=(GZ S k+S k)/256:=by
 have a:=KO k;unfold GZ;rw[Fc,kZ,<- kA (kQ a),Int.add_mul_ediv_right _ _ (Int.ne_of_gt a)]
theorem Qf(S:Nat->Int)(h:∀ j,0<=S j/\S j<1000)(k:Nat):0<=GZ S k/\GZ S k<256:=by
 induction k with
 | zero=>rw[Mj];omega
 | succ k ih=>rw[Mi];have:=h k;omega
theorem Uz(S:Nat->Int)(k d:Nat):∃ Z,Fc S (k+d)=Fc S k+256^k*Z:=by
 induction d with
 | zero=>exact⟨0,by simp⟩
 | succ d ih =>
  obtain⟨Z,a⟩:=ih;refine⟨Z+S (k+d)*256^d,?_⟩;rw[<- jg,Fc,a,kq]
  grind
theorem Kc(v Z:Int)(n k:Nat)(h:k<n):AC (v+256^n*Z) k=AC v k:=by
 have a:=KO k;obtain⟨d,rfl⟩:∃ d,n=k+(1+d):=⟨n-k-1,by omega⟩;unfold AC;rw[kq,kq,show(256:Int)^k*(256^1*256^d)*Z=256^k*(256*(256^d*Z))by grind,Int.add_mul_ediv_left _ _ (Int.ne_of_gt a)];omega
theorem Tj(S:Nat->Int)(n k:Nat)(h:k<n):(GZ S k+S k)%256=AC (Fc S n) k:=by
 have b:=KO k;obtain⟨d,rfl⟩:∃ d,n=(k+1)+d:=⟨n-(k+1),by omega⟩;obtain⟨Z,a⟩:=Uz S (k+1) d;rw[a,Kc _ _ _ _ (by omega),AC,Fc,Int.add_mul_ediv_right _ _ (Int.ne_of_gt b)];rfl
theorem XS(S T:Nat->Int)(k:Nat):Fc (λj=>S j+T j) k=Fc S k+Fc T k:=by
 induction k with
 | zero=>rfl
 | succ k ih=>simp only[Fc,ih];grind
theorem XT(l:List Int)(k:Nat):Fc (λj=>l.getD j 0) k=leP l k:=by
 induction k with
 | zero=>rfl
 | succ k ih=>simp only[Fc,leP,ih]
theorem RI(v:Int)(n:Nat):∃ Z,v=Fc (AC v) n+256^n*Z/\Z=v/256^n:=by
 induction n with
 | zero=>exact⟨v,by simp[Fc],by simp⟩
 | succ n ih =>
  obtain⟨Z,b,a⟩:=ih;refine⟨Z/256,?_,?_⟩
  .rw[Fc,AC,<- a,kZ];have:Z=Z%256+256*(Z/256):=by omega
   grind
  .rw[a,kZ,kA (kQ (KO n))]
theorem Vk(v:Int)(s:List Int)(k:Nat)(a:k<16)(b:s.length<=16) :
  (GZ (λj=>AC v j+s.getD j 0) k+(AC v k+s.getD k 0))%256=AC (v+leN s) k:=by
 rw[Tj (λj=>AC v j+s.getD j 0) 16 k a,XS (AC v) (λj=>s.getD j 0),XT,WD 16 b];obtain⟨Z,c,_⟩:=RI v 16;have e:v+leN s=Fc (AC v) 16+leN s+256^16*Z:=by omega
 rw[e,Kc _ _ _ _ a]
def Ib(v:Int)(k:Nat):List Int:=(List.range 16).map λj=>if j<k then AC v j else 0
theorem PI(v:Int)(k:Nat):(Ib v k).length=16:=by simp[Ib]
theorem U9(v:Int):Ib v 0=List.replicate 16 0:=rfl
theorem Ya(v:Int):Ib v 16=leB 16 v:=by
 unfold Ib leB;refine lA λj a=>?_;rw[if_pos (j5.1 a)]
theorem U8(v:Int)(k:Nat)(_hk:k<16):(Ib v k).set k (AC v k)=Ib v (k+1):=by
 apply kl (by simp[Ib]);intro j a b;rw[jO];simp only[Ib,List.getElem_map,List.getElem_range];by_cases e:k=j
 .subst e;rw[if_pos rfl,if_pos (by omega)]
 .rw[if_neg e];by_cases c:j<k
  .rw[if_pos c,if_pos (by omega)]
  .rw[if_neg c,if_neg (by omega)]
theorem Rm(a b:Int)(k:Nat)(m:Int)(d:m=2^k)(g:0<=a)(c:a<m)(h:0<=b)(i:a+b*m<18446744073709551616):bits .or .u64 a (b*m)=a+b*m:=by
 obtain⟨x,rfl⟩:=iO g;obtain⟨y,rfl⟩:=iO h;have e:(y:Int)*m=((2^k*y:Nat):Int):=by rw[d,lz,j',Int.mul_comm];rfl
 rw[e]at i ⊢
 have j:x<2^k:=by
  have:((x:Nat):Int)<((2^k:Nat):Int):=by rw[j'];rw[d]at c;exact c
  omega
 have f:=kf j y;rw[u64_or_nat _ _ (by omega) (by omega),Nat.or_comm,<- f];omega
theorem ea{a b:Int}(h:a=b):Ending.returned (.int .u8 a)=.returned (.int .u8 b):=by rw[h]
theorem Qe(n:List Int)(i:Nat)(w:World)(o:Lim 67108864 n)(A:i<16) :
  Calls prog 206 #[.agg (Af n),.int .i64 i] w λe w'=>e=.returned (.int .u8 (AC (val n) i))/\Bw w w':=by
 obtain⟨a,b,c,d,e,rfl,⟨q,r⟩,⟨s,t⟩,⟨c1,u⟩,⟨v,x⟩,⟨y,z⟩⟩:=o.split;have f:(w.alloc (.cells (Af [a,b,c,d,e]) 284 (0,0))).heap[w.heap.size]?=some (.cells (Af [a,b,c,d,e]) 284 (0,0)):=heap_alloc_new _ _;have h:=(cell_of_row _ _ 0 _ _ _ f).trans (Ap _ 0 (by simp));have j:=(cell_of_row _ _ 1 _ _ _ f).trans (Ap _ 1 (by simp));have k:=(cell_of_row _ _ 2 _ _ _ f).trans (Ap _ 2 (by simp));have l:=(cell_of_row _ _ 3 _ _ _ f).trans (Ap _ 3 (by simp));have m:=(cell_of_row _ _ 4 _ _ _ f).trans (Ap _ 4 (by simp));simp only[iP,i6]at h j k l m;have g:Hid (val [a,b,c,d,e]=a+67108864*b+4503599627370496*c+302231454903657293676544*d+20282409603651670423947251286016*e):=CS a b c d e;generalize Af [a,b,c,d,e]=arr at h j k l m ⊢;generalize val [a,b,c,d,e]=V at g ⊢;clear o f;obtain rfl|rfl|rfl|rfl|rfl|rfl|rfl|rfl|rfl|rfl|rfl|rfl|rfl|rfl|rfl|rfl:i=0\/i=1\/i=2\/i=3\/i=4\/i=5\/i=6\/i=7\/i=8\/i=9\/i=10\/i=11\/i=12\/i=13\/i=14\/i=15:=by omega
 all_goals
  go_enter func206,ntmps206
  go_wp2
  go_ret;refine⟨ea ?_,(Below.refl _ _).alloc (A' _) _⟩;have p:=g.out;clear g h j k l m;unfold AC
  first
   | rw[Rm _ _ 2 4 rfl (by omega) (by omega) (by omega) (by omega)]
   | rw[Rm _ _ 4 16 rfl (by omega) (by omega) (by omega) (by omega)]
   | rw[Rm _ _ 6 64 rfl (by omega) (by omega) (by omega) (by omega)]
   | skip
  subst p;simp only[Int.reducePow];omega
theorem LT{P:Program}{e:Nat}{d:Array Oper}{K:Act->World->Prop}{Q:Exit->Act->World->Prop}{a:Act}(R:World->Prop){A:Act}(c:∀ K':Act->World->Prop,Hid (∀ W2,R W2->K' A W2)->(Code.region e d true).wp P (Exit.then K' Q) a w)(b:∀ W2,R W2->K A W2):(Code.region e d true).wp P (Exit.then K Q) a w:=c K b
theorem NV(nl:List Int)(v:Value)(s:List Int)(w:World)(h:Sl w v s)(Z:s.length=16)(hn:Lim 67108864 nl) :
  Calls prog 195 #[.agg (Af nl),v] w λe w'=>∃ v',e=.returned v'/\Sl w' v' (leB 16 (val nl+leN s))/\Bw w w':=by
 obtain⟨⟨a,a3,rfl,hc,a1,O⟩,a0,r⟩:=h;rcases O with rfl|⟨B,off,rfl,hB,hcell⟩
 .simp at Z
 have HC:Hid (∀ i,i<16->w.cell? ⟨B,off+i,none⟩=some (.int .u8 (s.getD i 0))):=λi hi=>hcell i (by omega);have n:Hid (∀ x∈s,0<=x/\x<256):=r;have o:Hid (s.length=16):=Z;rw[Z]at hc ⊢
 clear hcell r a1 a0;obtain⟨J,K,L,M,N,rfl,_⟩:=hn.split;obtain⟨V,X⟩:∃ V,val [J,K,L,M,N]=V:=⟨_,rfl⟩;have HV:Hid (val [J,K,L,M,N]=V):=X;rw[X];clear X;obtain⟨i0,z,A,C,D⟩:=info_parts Aq;go_enter func195,ntmps195
 go_wp2_with (at_make;refine wpList_make_row _ rfl _ _ 50 rfl 5 i0 (.int .u8 0) underlying50 z A C rfl _ _ 16 rfl rfl (by rw[D];omega) (by omega) ?_)
 clear z A C D
 go_loopw [6,11] (λcv i wr=>∃ (k:Nat),k<=16/\i=.int .i64 k/\cv=.int .i64 (GZ (λj=>AC V j+s.getD j 0) k)/\wr.heap[w.heap.size]?=some (.cells (Af [J,K,L,M,N]) 284 (0,0))/\wr.heap[w.heap.size+1]?=some (.cells (byA (Ib (V+leN s) k)) 5 (0,0))/\Bw w wr) (λ_ i _=>16-(intOf i).toNat)
 case atStart =>
  refine⟨0,by omega,rfl,by rw[Mj],?_,?_,?_⟩
  .exact heap_alloc2_old _ _ _
  .have e:madeCells #[Value.int .u8 0] 16=byA (Ib (V+leN s) 0):=by rw[U9];kernel_rfl
   rw[e];exact heap_alloc2_new _ _ _
  .exact((Below.refl _ _).alloc (A' _) _).alloc (by simp) _
 case round =>
  obtain⟨k,hk,rfl,rfl,f,g,P⟩:=hrel;by_cases b:k<16
  .have hki:(k:Int)<16:=by omega
   have E:=(cell_of_row _ _ 0 _ _ _ f).trans (Ap _ 0 (by simp));have F:=(cell_of_row _ _ 1 _ _ _ f).trans (Ap _ 1 (by simp));have G:=(cell_of_row _ _ 2 _ _ _ f).trans (Ap _ 2 (by simp));have H:=(cell_of_row _ _ 3 _ _ _ f).trans (Ap _ 3 (by simp));have I:=(cell_of_row _ _ 4 _ _ _ f).trans (Ap _ 4 (by simp));simp only[iP,i6]at E F G H I;have a2:w.heap.size+1<wr.heap.size:=(H'.1 g).1;have U:B<wr.heap.size:=by omega
   have ch:=(P.cell (p:=⟨B,off+k,none⟩) hB).trans (HC.out k b);have t:∀ j,0<=AC V j+s.getD j 0/\AC V j+s.getD j 0<1000:=λj=>by
    have R:=Ft V j;have S:=Ag n.out j;omega
   have u:=Qf (λj=>AC V j+s.getD j 0) t k;have d:Hid (GZ (λj=>AC V j+s.getD j 0) (k+1)=(GZ (λj=>AC V j+s.getD j 0) k+(AC V k+s.getD k 0))/256):=Mi _ k;have c:Hid ((GZ (λj=>AC V j+s.getD j 0) k+(AC V k+s.getD k 0))%256=AC (V+leN s) k):=Vk V s k b (by rw[o.out];omega);have R:=Ft V k;have S:=Ag n.out k;have l:=Qe [J,K,L,M,N] k;rw[HV.out]at l
   have m:Hid (∀ W,Calls prog 206 #[.agg (Af [J,K,L,M,N]),.int .i64 k] W λe w'=>e=.returned (.int .u8 (AC V k))/\Bw W w'):=λW=>l W hn b;have HT:Hid _:=g;have HR:Hid _:=f;have HB:Hid _:=P;clear l t g f P;have a5:=PI (V+leN s) k;have Q:Hid ((Ib (V+leN s) k).set k (AC (V+leN s) k)=Ib (V+leN s) (k+1)):=U8 _ k b;generalize GZ (λj=>AC V j+s.getD j 0) k=cy at d c u;generalize AC V k=x at d c R m;generalize s.getD k 0=y at d c S ch;obtain⟨x1,x2⟩:=R;obtain⟨y1,y2⟩:=S;obtain⟨z1,z2⟩:=u;go_wp2_with fail
   apply LT (λW=>Bw wr W)
   .intro K2 HK2
    go_region_with (go_at_call 206;refine(m.out _).mono ?_;rintro e w2 ⟨rfl,q⟩;have a4:=(q.cell (p:=⟨B,off+k,none⟩) U).trans ch)
    all_goals exact HK2.out _ ((Below.refl _ _).drew.trans q)
   intro W Y;have g:=(Y.block _ a2).trans HT.out;have f:=(Y.block _ (by omega)).trans HR.out;have ct:=(cell_of_row _ _ k _ _ _ g).trans (GY _ k (by omega));have ft:=frozen_of_row _ _ k _ _ g;have T:Bw w W:=HB.out.trans (Y.mono HB.out.size);clear E F G H I ch;generalize (Ib (V+leN s) k).getD k 0=c0 at ct;go_wp2
   go_roundw
   case rel =>
    refine⟨k+1,by omega,by go_num,?_,?_,?_,?_⟩
    .rw[d.out]
    .exact(heap_setCell_other _ _ _ _ (by simp)).trans f
    .have O:=FR g k (AC (V+leN s) k);rw[Q.out,<- c.out]at O
     exact O
    .exact T.setCell (p:=⟨w.heap.size+1,k,none⟩) (by simp) _
   case measure=>simp[intOf];omega
  .have hki:¬ (k:Int)<16:=by omega
   have HK:Hid (k=16):=by unfold Hid;omega
   go_wp2
   go_ret;have hK:=HK.out;subst hK;rw[Ya]at g
   exact⟨_,rfl,Sl.rowOf g (CY _ _) (by rw[CY];omega) (Hk _ _),P⟩
def U6(key data:List Int):List Int:=leB 16 (cx (leN (Dq (key.take 16))) data+leN (key.drop 16))
theorem PG(key a:List Int):(U6 key a).length=16:=CY _ _
theorem U7(key a:List Int):∀ x∈U6 key a,0<=x/\x<256:=Hk _ _
theorem Sl.nf(h:Sl w v l):∃ a c,v=.slice a l.length c:=by
 obtain⟨⟨a,b,e,_⟩,_⟩:=h;exact⟨a,b,e⟩
theorem ey(r q:Value)(key a:List Int)(w:World)(g:Sl w r key)(m:Sl w q a)(lk:key.length=32)(A:a.length<=4000) :
  Calls prog 186 #[r,q] w λe w'=>∃ v',e=.returned (.tuple #[v',.int .i64 0])/\Sl w' v' (U6 key a)/\Bw w w':=by
 obtain⟨k,l,rfl⟩:=g.nf;obtain⟨ad,J,rfl⟩:=m.nf;rw[lk]at g ⊢
 obtain⟨s,c1,c,o⟩:=g.mf 16 (by omega);obtain⟨t,u,d,p⟩:=g.from 16 (by omega);have v:∀ W,(Instr.slice 50 (.slice k 32 l) none (some (.int .i64 16)) none).run prog W=.ok (.slice s 16 c1) W:=c;have x:∀ W,(Instr.slice 50 (.slice k 32 l) (some (.int .i64 16)) none none).run prog W=.ok (.slice t 16 u) W:=d;clear c d;have lt:(key.take 16).length=16:=by rw[X'];omega
 have n:(key.drop 16).length=16:=by rw[iA];omega
 have B:¬ (4000:Int)<(a.length:Int):=by omega
 have h:Hid (U6 key a=leB 16 (cx (leN (Dq (key.take 16))) a+leN (key.drop 16))):=rfl;generalize key.take 16=K1 at o lt h;generalize key.drop 16=K2 at p n h;clear g lk;have j:Hid (a.length<=4000):=A;go_enter func186,ntmps186
 go_wp2_with fail
 go_region_with (first
  | (go_at_call 197;refine(Q6 _ K1 _ (o.ab ((Below.refl _ _).drew)) lt).mono ?_;rintro e K ⟨D,rfl,y,F,b⟩)
  | (go_at_call 196;refine(No D (leN (Dq K1)) _ a _ (m.ab ((Below.refl _ _).drew.trans b)) j.out y F).mono ?_;rintro e I ⟨C,rfl,z,G,f⟩)
  | (go_at_call 195;refine(NV C _ K2 _ (p.ab (((Below.refl _ _).drew.trans b).trans (f.mono b.size))) n z).mono ?_;rintro e L ⟨H,rfl,E,i⟩))
 all_goals
  go_wp2
  go_ret2
  refine⟨H,rfl,?_,?_⟩
  .rw[h.out,<- G];exact E
  .have b3:Bw w I:=((Below.refl _ _).drew.trans b).trans (f.mono b.size);exact b3.trans (i.mono b3.size)
def gap(n:Nat):Nat:=(16-n%16)%16
def DS(l:List Int):List Int:=l++List.replicate (gap l.length) 0
theorem Eb(l:List Int):(DS l).length=l.length+gap l.length:=by rw[DS,G',jI]
theorem GD(n:Nat):gap n<16:=by unfold gap;omega
theorem Sr(n:Nat):(n+gap n)%16=0:=by unfold gap;omega
theorem T4(n j:Nat)(h:j<gap n):¬ (n+j)%16=0:=by unfold gap at h;omega
theorem Zg(n m:Nat)(h:n%16=0):gap (n+m)=gap m:=by unfold gap;omega
theorem MB(h:∀ x∈l,0<=x/\x<256):∀ x∈DS l,0<=x/\x<256:=by
 intro x a;rcases P'.1 a with h1|h1
 .exact h x h1
 .rw[(ks.1 h1).2];omega
theorem Xi(a s:List Int):DS (DS a++s)=DS a++DS s:=by
 have h:(DS a).length%16=0:=by rw[Eb];exact Sr _
 rw[DS,G',Zg _ _ h,iB];rfl
theorem WC(k:Nat)(v:Int):leB (k+1) v=leB k v++[AC v k]:=by
 simp[leB,List.range_succ]
def F5(a s:List Int):List Int:=DS a++DS s++leB 8 (a.length:Int)++leB 8 (s.length:Int)
theorem Hj(a s:List Int):(F5 a s).length=a.length+gap a.length+(s.length+gap s.length)+8+8:=by
 simp only[F5,G',Eb,CY]
theorem QP{s:List Int}(b:∀ x∈a,0<=x/\x<256)(c:∀ x∈s,0<=x/\x<256):∀ x∈F5 a s,0<=x/\x<256:=by
 intro x hx;rcases P'.1 hx with hx|hx
 .rcases P'.1 hx with hx|hx
  .rcases P'.1 hx with hx|hx
   .exact MB b x hx
   .exact MB c x hx
  .exact Hk _ _ x hx
 .exact Hk _ _ x hx
def DO(key nonce a s:List Int):List Int:=U6 ((Cd (BC key (BitVec.ofNat 32 0) nonce)).take 32) (F5 a s)
theorem H9(key b a s:List Int):(DO key b a s).length=16:=PG _ _
theorem Lb(key b a s:List Int):∀ x∈DO key b a s,0<=x/\x<256:=U7 _ _
def Ed(key nonce p:List Int):List Int:=OV (BC key (BitVec.ofNat 32 1) nonce) p
theorem Fb(key a p:List Int):(Ed key a p).length=p.length:=OW _ _
def Ji(key nonce a p:List Int):List Int:=Ed key nonce p++DO key nonce a (Ed key nonce p)
theorem H6(key b a p:List Int):(Ji key b a p).length=p.length+16:=by
 rw[Ji,G',Fb,H9]
theorem Jj(v:Value)(l:List Int)(B:Nat)(w:World)(p:w.ownsRow B 5 1 v l.length (l.map (Value.int .u8)))(D:B<=w.heap.size)(I:l.length<=100000) :
  Calls prog 198 #[v] w λe w'=>∃ v',e=.returned v'/\w'.ownsRow B 5 1 v' (DS l).length ((DS l).map (Value.int .u8))/\Below B w w':=by
 have r:Hid (DS l=l++List.replicate (gap l.length) 0):=rfl;have E:=GD l.length;have s:Hid (∀ j,j<gap l.length->¬ (l.length+j)%16=0):=λj x=>T4 _ _ x;have q:Hid ((l.length+gap l.length)%16=0):=Sr _;obtain⟨a0,c0,rfl⟩:=Ea p;generalize gap l.length=G at r E s q;go_enter func198,ntmps198
 go_wp2_with fail
 go_loopw [0] (λv wr=>∃ (j:Nat) (a:Option Addr) (f:Nat),j<=G/\v=.slice a (l.length+j) f/\wr.ownsRow B 5 1 v (l++List.replicate j 0).length ((l++List.replicate j 0).map (Value.int .u8))/\Below B w wr) (λv _=>l.length+G-WG v)
 case atStart=>exact⟨0,a0,c0,by omega,rfl,by simpa using p,Below.refl _ _⟩
 case round =>
  clear p;obtain⟨j,a,f,x,rfl,b,d⟩:=hrel;have h:=b.lt;by_cases o:j<G
  .have t:=s.out j o;have u:¬ ((l.length:Int)+j)%16=0:=by omega
   go_wp2_with (at_builtin;refine Aa _ rfl _ _ 50 rfl B 5 underlying50 Aq _ _ rfl rfl (l++List.replicate j 0) [0] (b.alloc _) (Sl.one _ _ _ rfl (by omega)) (by simp;omega) (by have:=d.size;simp;omega) ?_)
   intro H y i g;have c:y.ownsRow B 5 1 H (l++List.replicate (j+1) 0).length ((l++List.replicate (j+1) 0).map (Value.int .u8)):=by rw[<- KY];simpa using i
   have n:Below B w y:=(d.alloc (iy D d.size) _).grown g (by have:=d.size;simp;omega) (λk F=>(h k F).1);obtain⟨z,A,m⟩:=Ea c;rw[G',jI]at m
   subst m;clear i g b h d t u;go_wp2
   go_roundw
   case rel=>exact⟨j+1,z,A,by omega,rfl,c,n⟩
   case measure=>simp[WG];omega
  .have HJ:Hid (G=j):=by unfold Hid;omega
   have C:=q.out;have t:((l.length:Int)+j)%16=0:=by have:=HJ.out;omega
   have u:(((l.length:Int)+j)%16 != 0)=false:=by simp;omega
   clear C;go_wp2
   go_ret;refine⟨_,rfl,?_,d⟩;rw[r.out,HJ.out];exact b
theorem FN(v:Value)(l:List Int)(n:Nat)(B:Nat)(w:World)(r:w.ownsRow B 5 1 v l.length (l.map (Value.int .u8)))(A:B<=w.heap.size)(G:l.length<=100000)(H:n<=100000) :
  Calls prog 199 #[v,.int .i64 n] w λe w'=>∃ v',e=.returned v'/\w'.ownsRow B 5 1 v' (l++leB 8 (n:Int)).length ((l++leB 8 (n:Int)).map (Value.int .u8))/\Below B w w':=by
 go_enter func199,ntmps199
 go_wp2_with fail
 go_loopw [0,1,5] (λv s i wr=>∃ k:Nat,k<=8/\i=.int .i64 k/\s=.int .i64 ((n:Int)/256^k)/\wr.ownsRow B 5 1 v (l++leB k (n:Int)).length ((l++leB k (n:Int)).map (Value.int .u8))/\Below B w wr) (λ_ _ i _=>8-(intOf i).toNat)
 case atStart=>exact⟨0,by omega,rfl,by simp,by simpa[leB]using r,Below.refl _ _⟩
 case round =>
  clear r;obtain⟨k,q,rfl,rfl,a,c⟩:=hrel;have h:=a.lt;by_cases C:k<8
  .have hki:(k:Int)<8:=by omega
   obtain⟨x,d⟩:∃ x:Int,(n:Int)/256^k=x:=⟨_,rfl⟩;have t:(0:Int)<256^k:=KO k;have D:0<=x:=by rw[<- d];exact Int.ediv_nonneg (by omega) (by omega)
   have E:x<=100000:=by rw[<- d];have:=Int.ediv_le_self (256^k) (show(0:Int)<=n by omega);omega
   have z:Hid ((n:Int)/256^(k+1)=x/256):=by unfold Hid;rw[kZ,<- kA (kQ t),d]
   have b:Hid (x%256=AC n k):=by unfold Hid AC;rw[d]
   have g:=CY k (n:Int);have o:Hid (leB (k+1) (n:Int)=leB k n++[AC n k]):=WC k _;rw[d];clear d t;generalize leB k (n:Int)=pre at a o g;generalize AC (n:Int) k=y at b o;go_wp2_with (at_builtin;refine Aa _ rfl _ _ 50 rfl B 5 underlying50 Aq _ _ rfl rfl (l++pre) [y] (a.alloc _) (Sl.nz _ _ _ _ rfl ?_ ?_) (by simp;omega) (by have:=c.size;simp;omega) ?_)
   .have:=b.out;omega
   .have:=b.out;omega
   intro F u j f;have m:u.ownsRow B 5 1 F (l++(pre++[y])).length ((l++(pre++[y])).map (Value.int .u8)):=by rw[<- iB];simpa[g]using j
   have p:Below B w u:=(c.alloc (iy A c.size) _).grown f (by have:=c.size;simp;omega) (λk q=>(h k q).1);clear j f a h c;go_wp2
   go_roundw
   case rel=>exact⟨k+1,by omega,by go_num,by rw[z.out],by rw[o.out];exact m,p⟩
   case measure=>simp[intOf];omega
  .obtain rfl:k=8:=by omega
   go_wp2
   go_ret;exact⟨_,rfl,a,c⟩
theorem W8(O P:Value)(a s:List Int)(w:World)(z:Sl w O a)(B:Sl w P s)(U:a.length<=10000)(V:s.length<=10000) :
  Calls prog 187 #[O,P] w λe w'=>∃ v',e=.returned v'/\Sl w' v' (F5 a s)/\Bw w w':=by
 have f:Hid (F5 a s=DS (DS a++s)++leB 8 (a.length:Int)++leB 8 (s.length:Int)):=by unfold Hid;rw[Xi];rfl
 have R:Hid (∀ x∈F5 a s,0<=x/\x<256):=QP z.byte B.byte;have Q:Hid ((F5 a s).length<=30000):=by unfold Hid;rw[Hj];have:=GD a.length;have:=GD s.length;omega
 have H:(DS a).length<=11000:=by rw[Eb];have:=GD a.length;omega
 have i:(DS (DS a++s)).length<=30000:=by rw[Eb,G'];have:=GD ((DS a).length+s.length);omega
 obtain⟨aa,ca,rfl⟩:=z.shape;obtain⟨S,cs,rfl⟩:=B.shape;generalize L:a.length=n at U f z ⊢;generalize K:s.length=m at V f B ⊢;have l:Hid (a.length=n):=L;have j:Hid (s.length=m):=K;clear L K;go_enter func187,ntmps187
 go_wp2_with (at_builtin;refine Aa _ rfl _ _ 50 rfl w.heap.size 5 underlying50 Aq _ _ rfl rfl [] a (World.ownsRow_nil _ _ _ _) z (by have:=l.out;simp;omega) (A' _) ?_)
 intro M I c p;have C:Bw w I:=(Below.refl _ _).grown p (A' _) (by simp[Value.ownBlock]);replace c:I.ownsRow w.heap.size 5 1 M a.length (a.map (Value.int .u8)):=by simpa using c
 clear p;go_wp2_with fail
 refine(Jj M a w.heap.size I c C.size (by have:=l.out;omega)).mono ?_;rintro e w2 ⟨v2,rfl,d,g⟩;replace g:=C.trans g;clear c C;have v:=B.ab g;have r:=d.lt;generalize DS a=A at f H i d;go_wp2_with (at_builtin;refine Aa _ rfl _ _ 50 rfl w.heap.size 5 underlying50 Aq _ _ rfl rfl A s d v (by have:=j.out;omega) g.size ?_)
 intro N J b q;have D:Bw w J:=g.grown q g.size (λk T=>(r k T).1);clear q r d g v;replace b:J.ownsRow w.heap.size 5 1 N (A++s).length ((A++s).map (Value.int .u8)):=by simpa using b
 have F:(A++s).length<=21000:=by rw[G'];have:=j.out;omega
 generalize A++s=AS at f i b F;go_wp2_with fail
 refine(Jj N AS w.heap.size J b D.size (by omega)).mono ?_;rintro e Z ⟨W,rfl,h,o⟩;replace o:=D.trans o;clear b D;generalize DS AS=X at f i h;go_wp2_with fail
 refine(FN W X n w.heap.size Z h o.size (by omega) (by omega)).mono ?_;rintro e w5 ⟨Y,rfl,t,y⟩;replace y:=o.trans y;have G:(X++leB 8 (n:Int)).length<=30008:=by rw[G',CY];omega
 clear h o;generalize X++leB 8 (n:Int)=X5 at f G t;go_wp2_with fail
 refine(FN Y X5 m w.heap.size w5 t y.size (by omega) (by omega)).mono ?_;rintro e w6 ⟨v6,rfl,u,E⟩;replace E:=y.trans E;rw[<- f.out]at u
 go_wp2
 go_ret;exact⟨_,rfl,Sl.jv u (by have:=Q.out;omega) R.out,E⟩
def Gi(key nonce a:List Int):Bool:=decide (key.length=32)&&decide (nonce.length=12)&&decide (a.length<=256)
theorem FY(h i g:Value)(key b a:List Int)(w:World)(d:Sl w h key)(f:Sl w i b)(c:Sl w g a) :
  Calls prog 161 #[h,i,g] w λe w'=>e=.returned (.bool (Gi key b a))/\w'=w:=by
 have j:=d.len;have k:=f.len;have l:=c.len;obtain⟨n,q,rfl⟩:=d.shape;obtain⟨o,r,rfl⟩:=f.shape;obtain⟨m,p,rfl⟩:=c.shape;unfold Gi;generalize key.length=n1 at j d ⊢;generalize b.length=n2 at k f ⊢;generalize a.length=n3 at l c ⊢;clear d f c;by_cases c1:(n1:Int)=32
 .by_cases c2:(n2:Int)=12
  .by_cases c3:(n3:Int)<=256
   .go_enter func161,ntmps161
    go_wp2
    go_ret;refine⟨Aj ?_,rfl⟩;simp;omega
   .go_enter func161,ntmps161
    go_wp2
    go_ret;refine⟨Aj ?_,rfl⟩;simp;omega
  .go_enter func161,ntmps161
   go_wp2
   go_ret;refine⟨Aj ?_,rfl⟩;simp;omega
 .go_enter func161,ntmps161
  go_wp2
  go_ret;refine⟨Aj ?_,rfl⟩;simp;omega
theorem Vh(b d:Value)(key a:List Int)(x:Int)(c:Nat)(j:x=(c:Int))(w:World)(g:Sl w b key)(h:Sl w d a)(lk:key.length=32)(k:a.length=12)(f:c<=1073741824)(i:Ct w) :
  Calls prog 185 #[b,.int .i64 x,d] w λe w'=>∃ v',e=.returned (.tuple #[v',.int .i64 0])/\Got w w' v' (Cd (BC key (BitVec.ofNat 32 c) a)):=by
 subst j;exact Vi b d key a c w g h lk k f i
theorem NO(u v D E:Value)(key b a s:List Int)(w:World)(y:Sl w u key)(z:Sl w v b)(x:Sl w D a)(A:Sl w E s)(lk:key.length=32)(B:b.length=12)(L:a.length<=256)(M:s.length<=2000)(J:Ct w) :
  Calls prog 163 #[u,v,D,E] w λe w'=>∃ v',e=.returned (.tuple #[v',.int .i64 0])/\Sl w' v' (DO key b a s)/\Bw w w':=by
 have o:Hid (DO key b a s=U6 ((Cd (BC key (BitVec.ofNat 32 0) b)).take 32) (F5 a s)):=rfl;have g:(F5 a s).length<=4000:=by rw[Hj];have:=GD a.length;have:=GD s.length;omega
 go_enter func163,ntmps163
 go_wp2_with fail
 refine(Vh u v key b 0 0 rfl w y z lk B (by omega) J).mono ?_;rintro e S ⟨R,rfl,p⟩;have j:=p.sl;have k:=p.mu;clear p;have d:=Ej (BC key (BitVec.ofNat 32 0) b);generalize Cd (BC key (BitVec.ofNat 32 0) b)=bs at o j d;obtain⟨G,H,rfl⟩:=j.shape;rw[d]at j ⊢
 obtain⟨F,c1,c,C⟩:=j.mf 32 (by omega);have I:∀ W,(Instr.slice 50 (.slice G 64 H) none (some (.int .i64 32)) none).run prog W=.ok (.slice F 32 c1) W:=c;have lt:(bs.take 32).length=32:=by rw[X'];omega
 generalize bs.take 32=K at o C lt;have q:=x.ab k;have t:=A.ab k;clear c j d;have h:a.length<=10000:=by omega
 have i:s.length<=10000:=by omega
 have l:Hid (a.length<=10000):=h;have n:Hid (s.length<=10000):=i;have m:Hid ((F5 a s).length<=4000):=g;clear L M h i g y z x A lk B;go_wp2_with fail
 go_region_with (first
  | (go_at_call 187;refine(W8 _ _ a s _ (q.ab ((Below.refl _ _).drew)) (t.ab ((Below.refl _ _).drew)) l.out n.out).mono ?_;rintro e P ⟨Q,rfl,N,f⟩)
  | (go_at_call 186;refine(ey _ _ K _ _ (C.ab ((Below.refl _ _).drew.trans f)) N lt m.out).mono ?_;rintro e T ⟨O,rfl,s3,r⟩))
 all_goals
  go_wp2
  go_ret2
  refine⟨O,rfl,?_,?_⟩
  .rw[o.out];exact s3
  .have b2:Bw w P:=k.trans (((Below.refl _ _).drew.trans f).mono k.size);exact b2.trans (r.mono b2.size)
theorem OU(c f b:Value)(key a d:List Int)(w:World)(h:Sl w c key)(i:Sl w f a)(g:Sl w b d)(lk:key.length=32)(l:a.length=12)(k:d.length<=2000)(j:Ct w) :
  Calls prog 162 #[c,.int .i64 1,f,b] w λe w'=>∃ v',e=.returned (.tuple #[v',.int .i64 0])/\w'.ownsRow w.heap.size 5 1 v' (Ed key a d).length ((Ed key a d).map (Value.int .u8))/\Bw w w' :=
 ZD c f b key a d 1 w h i g lk l (by omega) k j
theorem EV{b:World}{a e:Nat}{n:Nat}{c:List Value}(h:w.ownsRow a e 1 v n c)(d:Bw w b):b.ownsRow a e 1 v n c :=
 E5 h λk f=>d.block k (h.lt k f).2
theorem Iu(h:Gi key nonce a=true):key.length=32/\nonce.length=12/\a.length<=256:=by
 unfold Gi at h;simp at h;omega
theorem aF(o q v K:Value)(key b a p:List Int)(w:World)(i:Sl w o key)(s:Sl w q b)(A:Sl w v a)(t:Sl w K p)(E:Gi key b a=true)(U:p.length<=2000)(D:Ct w) :
  Calls prog 132 #[o,q,v,K] w λe w'=>∃ v',e=.returned (.tuple #[v',.int .i64 0])/\Sl w' v' (Ji key b a p)/\Bw w w':=by
 obtain⟨lk,F,S⟩:=Iu E;have j:=D.pos;have y:Hid (Ji key b a p=Ed key b p++DO key b a (Ed key b p)):=rfl;have n:=Fb key b p;have g:∀ x∈Ed key b p,0<=x/\x<256:=Iz _ t.byte;have Q:¬ (2000:Int)<(p.length:Int):=by omega
 obtain⟨ap,W,rfl⟩:=t.shape;go_enter func132,ntmps132
 go_wp2_with fail
 refine(FY o q v key b a w i s A).mono ?_;rintro e r ⟨rfl,rfl⟩;rw[E];go_wp2_with fail
 refine(OU o q _ key b p r i s t lk F U D).mono ?_;rintro e M ⟨L,rfl,u,c⟩;generalize Ed key b p=X at y n g u;have H:Sl M L X:=Sl.jv u (by omega) g;go_wp2_with fail
 refine(NO o q v L key b a X M (i.ab c) (s.ab c) (A.ab c) H lk F S (by omega) (D.ab j c)).mono ?_;rintro e V ⟨Y,rfl,I,z⟩;have G:=EV u z;have C:=G.lt;have d:Bw r V:=c.trans (z.mono c.size);have m:=H9 key b a X;have l:=Lb key b a X;generalize DO key b a X=T at y I m l;have P:X.length<=2000:=by omega
 clear n u H c z i s A t;go_wp2_with (at_builtin;refine Aa _ rfl _ _ 50 rfl r.heap.size 5 underlying50 Aq _ _ rfl rfl X T G I (by omega) d.size ?_)
 intro J N f B;replace f:N.ownsRow r.heap.size 5 1 J (X++T).length ((X++T).map (Value.int .u8)):=by simpa[m]using f
 have O:Bw r N:=d.grown B d.size (λk i=>(C k i).1);go_wp2
 go_ret2
 refine⟨J,rfl,?_,O⟩;rw[y.out];refine Sl.jv f (by rw[G'];omega) ?_;intro x R;rcases P'.1 R with h|h
 .exact g x h
 .exact l x h
def DI(key nonce a d:List Int):Int :=
 if Gi key nonce a=true/\d.length<=2016 then(if d.length<16 then 13 else if DO key nonce a (d.take (d.length-16))=d.drop (d.length-16)then 0 else 6)else 1
def Pi(key nonce a d:List Int):List Int:=if DI key nonce a d=0 then Ed key nonce (d.take (d.length-16))else[]
theorem ZN(g i f o:Value)(key b a d:List Int)(w:World)(m:Sl w g key)(n:Sl w i b)(k:Sl w f a)(l:Sl w o d)(j:Gi key b a=false\/2016<d.length) :
  Calls prog 203 #[g,i,f,o] w λe w'=>e=.returned (.tuple #[.slice none 0 0,.int .i64 1])/\w'=w:=by
 have r:=l.len;obtain⟨ap,q,rfl⟩:=l.shape;by_cases c:Gi key b a=true
 .have hpl:(2016:Int)<(d.length:Int):=by
   rcases j with h|h
   .rw[c]at h;cases h
   .omega
  go_enter func203,ntmps203
  go_wp2_with fail
  refine(FY g i f key b a w m n k).mono ?_;rintro e p ⟨rfl,rfl⟩;rw[c];go_wp2
  go_ret2
  exact⟨rfl,rfl⟩
 .rw[Bool.not_eq_true]at c
  go_enter func203,ntmps203
  go_wp2_with fail
  refine(FY g i f key b a w m n k).mono ?_;rintro e p ⟨rfl,rfl⟩;rw[c];go_wp2
  go_ret2
  exact⟨rfl,rfl⟩
theorem Rl(f g c h:Value)(key b a d:List Int)(w:World)(l:Sl w f key)(m:Sl w g b)(i:Sl w c a)(j:Sl w h d)(k:Gi key b a=true)(p:d.length<16) :
  Calls prog 203 #[f,g,c,h] w λe w'=>e=.returned (.tuple #[.slice none 0 0,.int .i64 13])/\w'=w:=by
 obtain⟨ap,o,rfl⟩:=j.shape;have n:(d.length:Int)<16:=by omega
 go_enter func203,ntmps203
 go_wp2_with fail
 refine(FY f g c key b a w l m i).mono ?_;rintro e q ⟨rfl,rfl⟩;rw[k];go_wp2
 go_ret2
 exact⟨rfl,rfl⟩
theorem Xd(r s q H:Value)(key b a d:List Int)(w:World)(l:Sl w r key)(n:Sl w s b)(k:Sl w q a)(f:Sl w H d)(E:Gi key b a=true)(m:Nat)(F:d.length=m+16)(V:m<=2000)(o:Ct w)(G:DO key b a (d.take m)≠d.drop m) :
  Calls prog 203 #[r,s,q,H] w λe w'=>e=.returned (.tuple #[.slice none 0 0,.int .i64 6])/\Bw w w':=by
 obtain⟨lk,N,M⟩:=Iu E;have h:=o.pos;have i:=f.byte;obtain⟨ad,U,rfl⟩:=f.shape;rw[F]at f ⊢
 obtain⟨R,c1,A,p⟩:=f.mf m (by omega);obtain⟨S,T,g,j⟩:=f.from m (by omega);rw[Nat.add_sub_cancel_left]at g j
 have B:(d.take m).length=m:=by rw[X'];omega
 have Q:∀ x∈d.take m,0<=x/\x<256:=λx K=>i x (iJ K);have y:Hid (DO key b a (d.take m)≠d.drop m):=G;clear G;generalize d.take m=D at p B Q y ⊢;generalize d.drop m=L at j y;have v:Hid (D.length=m):=B;clear f F i B;go_enter func203,ntmps203
 go_wp2_with fail
 refine(FY r s q key b a w l n k).mono ?_;rintro e t ⟨rfl,rfl⟩;rw[E];go_wp2_with fail
 go_quiet (fail)
 have c:Bw t (t.drewN nq):=Am (Below.refl _ _) nq;generalize t.drewN nq=w1 at c ⊢;replace l:=l.ab c;replace n:=n.ab c;replace k:=k.ab c;replace p:=p.ab c;replace j:=j.ab c;replace o:=o.ab h c;clear A g;go_wp2_with fail
 refine(NO r s q _ key b a D w1 l n k p lk N M (by have:=v.out;omega) o).mono ?_;rintro e u ⟨P,rfl,O,z⟩;go_wp2_with fail
 refine(Hz P _ (DO key b a D) L u O (j.ab z)).mono ?_;rintro e W ⟨rfl,C,rfl⟩;have I:Bw u (u.drewN C):=Am (Below.refl _ _) C;have J:Bw t (u.drewN C):=c.trans ((z.trans (I.mono z.size)).mono c.size);rw[D' y.out];go_wp2
 go_ret2
 exact⟨rfl,J⟩
theorem ZO(y z B P:Value)(key b a d:List Int)(w:World)(f:Sl w y key)(g:Sl w z b)(r:Sl w B a)(n:Sl w P d)(I:Gi key b a=true)(m:Nat)(J:d.length=m+16)(hl:m<=2000)(i:Ct w)(K:DO key b a (d.take m)=d.drop m) :
  Calls prog 203 #[y,z,B,P] w λe w'=>∃ v',e=.returned (.tuple #[v',.int .i64 0])/\Sl w' v' (Ed key b (d.take m))/\Bw w w':=by
 obtain⟨lk,M,Y⟩:=Iu I;have h:=i.pos;have u:=n.byte;obtain⟨ad,cd,rfl⟩:=n.shape;rw[J]at n ⊢
 obtain⟨a1,c1,G,j⟩:=n.mf m (by omega);obtain⟨a2,c2,s,o⟩:=n.from m (by omega);rw[Nat.add_sub_cancel_left]at s o
 have H:(d.take m).length=m:=by rw[X'];omega
 have T:∀ x∈d.take m,0<=x/\x<256:=λx W=>u x (iJ W);have C:Hid (DO key b a (d.take m)=d.drop m):=K;clear K;generalize d.take m=D at j H T C ⊢;generalize d.drop m=L at o C;have k:Hid (D.length=m):=H;clear n J u H;go_enter func203,ntmps203
 go_wp2_with fail
 refine(FY y z B key b a w f g r).mono ?_;rintro e A ⟨rfl,rfl⟩;rw[I];go_wp2_with fail
 go_quiet (fail)
 have c:Bw A (A.drewN nq):=Am (Below.refl _ _) nq;generalize A.drewN nq=w1 at c ⊢;replace f:=f.ab c;replace g:=g.ab c;replace r:=r.ab c;replace j:=j.ab c;replace o:=o.ab c;replace i:=i.ab h c;clear G s;go_wp2_with fail
 refine(NO y z B _ key b a D w1 f g r j lk M Y (by have:=k.out;omega) i).mono ?_;rintro e p ⟨vt,rfl,O,l⟩;go_wp2_with fail
 refine(Hz vt _ (DO key b a D) L p O (o.ab l)).mono ?_;rintro e R ⟨rfl,v,rfl⟩;have E:Bw p (p.drewN v):=Am (Below.refl _ _) v;have F:Bw A (p.drewN v):=c.trans ((l.trans (E.mono l.size)).mono c.size);rw[I' C.out];have q:Bw w1 (p.drewN v):=l.trans (E.mono l.size);replace f:=f.ab q;replace g:=g.ab q;replace j:=j.ab q;replace i:=i.ab (Y' h c.size) q;have X:=Fb key b D;have t:∀ x∈Ed key b D,0<=x/\x<256:=Iz _ T;clear o O r E l;generalize p.drewN v=R at f g j i F q ⊢;go_wp2_with fail
 refine(OU y z _ key b D R f g j lk M (by have:=k.out;omega) i).mono ?_;rintro e S ⟨Q,rfl,N,U⟩;have Z:Sl S Q (Ed key b D):=Sl.jv N (by have:=k.out;omega) t;have V:Bw A S:=F.trans (U.mono F.size);clear N t;go_wp2
 go_ret2
 exact⟨Q,rfl,Z,V⟩
theorem Xc(i j f g:Value)(key c a d:List Int)(w:World)(m:Sl w i key)(n:Sl w j c)(k:Sl w f a)(l:Sl w g d)(o:Ct w) :
  Calls prog 203 #[i,j,f,g] w λe w'=>∃ v',e=.returned (.tuple #[v',.int .i64 (DI key c a d)])/\Sl w' v' (Pi key c a d)/\Bw w w':=by
 unfold Pi;by_cases h:Gi key c a=true/\d.length<=2016
 .by_cases h16:d.length<16
  .have hE:DI key c a d=13:=by unfold DI;rw[if_pos h,if_pos h16]
   rw[hE,if_neg (by omega)];refine(Rl i j f g key c a d w m n k l h.1 h16).mono ?_;rintro e p ⟨rfl,rfl⟩;exact⟨_,rfl,Sl.nil _ _,Below.refl _ _⟩
  .by_cases hq:DO key c a (d.take (d.length-16))=d.drop (d.length-16)
   .have hE:DI key c a d=0:=by unfold DI;rw[if_pos h,if_neg h16,if_pos hq]
    rw[hE,if_pos rfl];exact ZO i j f g key c a d w m n k l h.1 (d.length-16) (by omega) (by omega) o hq
   .have hE:DI key c a d=6:=by unfold DI;rw[if_pos h,if_neg h16,if_neg hq]
    rw[hE,if_neg (by omega)];refine(Xd i j f g key c a d w m n k l h.1 (d.length-16) (by omega) (by omega) o hq).mono ?_;rintro e p ⟨rfl,b⟩;exact⟨_,rfl,Sl.nil _ _,b⟩
 .have hE:DI key c a d=1:=by unfold DI;rw[if_neg h]
  rw[hE,if_neg (by omega)];refine(ZN i j f g key c a d w m n k l ?_).mono ?_
  .by_cases hf:Gi key c a=true
   .exact .inr (by have:¬ d.length<=2016:=λq=>h ⟨hf,q⟩;omega)
   .exact .inl (by simpa using hf)
  .rintro e p ⟨rfl,rfl⟩;exact⟨_,rfl,Sl.nil _ _,Below.refl _ _⟩
theorem RE(key a:List Int)(b:∀ x∈p,0<=x/\x<256):∀ x∈Ed key a p,0<=x/\x<256:=Iz _ b
theorem R9(key b a:List Int)(c:∀ x∈p,0<=x/\x<256):∀ x∈Ji key b a p,0<=x/\x<256:=by
 intro x d;rcases P'.1 d with h|h
 .exact RE key b c x h
 .exact Lb _ _ _ _ x h
theorem YX(lk:key.length=32)(c:nonce.length=12)(b:a.length<=256):Gi key nonce a=true:=by
 unfold Gi;simp;omega
end
end
section
def J5(key:List Int)(n:Int)(p:List Int):List Int:=Ab n++Ji key (Bg (Ab n)) (Ab n) p
theorem FC(key:List Int)(n:Int)(p:List Int):(J5 key n p).length=p.length+20:=by
 rw[J5,G',BX,H6];omega
theorem Un(key:List Int)(n:Int){p:List Int}(a:∀ x∈p,0<=x/\x<256):∀ x∈J5 key n p,0<=x/\x<256:=by
 intro x b;rcases P'.1 b with h|h
 .exact As n x h
 .exact R9 _ _ _ a x h
def DM(key:List Int)(s t:Int)(l:List Bool)(p:List Int):Int:=if ¬ OkC key s t l then 5 else if 2000<p.length then 1 else if s=1073741824 then 8 else 0
def Cb(key:List Int)(s t:Int)(l:List Bool)(r:List Int):Int :=
 if ¬ OkC key s t l then 5 else if 2020<r.length then 1 else if r.length<20 then 13 else if 1073741824<=ET (r.take 4)then 2 else if GI t l (ET (r.take 4))=true then 7
 else DI key (Bg (r.take 4)) (r.take 4) (r.drop 4)
def Jm(key:List Int)(r:List Int):List Int:=Pi key (Bg (r.take 4)) (r.take 4) (r.drop 4)
end
section
open Go.RowKit
section
structure Bt(w:World)(g:Nat)(c r u:Int):Prop where
 lt:g<w.heap.size
 row:w.heap[g]?=some (.cells (tkA c r u) 79)
theorem Bt.made(w:World)(c r u:Int):Bt (w.alloc (.cells (tkA c r u) 79)) w.heap.size c r u:=⟨by simp,heap_alloc_new _ _⟩
variable{c r u:Int}{g:Nat}{key:List Int}{w:World}
theorem Bt.ab{b:World}(h:Bt w g c r u)(a:Bw w b):Bt b g c r u :=
 ⟨Y' h.lt a.size,(a.block g h.lt).trans h.row⟩
theorem Ig(c r u:Int):(prog.info? 79).map (·.size)=some (tkA c r u).size:=by show _=some 3;kernel_rfl
theorem IH{a:TypeId}{fr:Nat × Nat}(h:w.heap[g]?=some (.cells (tkA c r u) a fr)) :
  w.cell? ⟨g,0,none⟩=some (.int .i64 c)/\w.cell? ⟨g,1,none⟩=some (.int .i64 r)/\w.cell? ⟨g,2,none⟩=some (.int .i64 u) :=
 ⟨cell_of_row _ _ 0 _ _ _ h,cell_of_row _ _ 1 _ _ _ h,cell_of_row _ _ 2 _ _ _ h⟩
theorem Iy(c r u:Int)(w:World) :
  Calls prog 89 #[.agg (tkA c r u)] w λe w'=>e=.returned (.bool (decide (CW c r u)))/\Bw w w':=by
 have b:Bw w (w.alloc (.cells (tkA c r u) 79)):=(Below.refl _ _).alloc (A' _) _;have i:=Bt.made w c r u;generalize k:w.alloc (.cells (tkA c r u) 79)=W at b i;obtain⟨c0,c1,l⟩:=IH i.row;clear i;go_enter func89,ntmps89
 go_wp2_with fail
 clear k;refine(EB c 7 _).mono ?_;rintro e j ⟨rfl,rfl⟩;by_cases d:0<=c/\c<=7
 .rw[I' d];go_wp2_with fail
  refine(EB r 7 _).mono ?_;rintro e j ⟨rfl,rfl⟩;by_cases f:0<=r/\r<=7
  .rw[I' f];go_wp2_with fail
   refine(EB u 1048576 _).mono ?_;rintro e j ⟨rfl,rfl⟩;by_cases h:0<=u/\u<=1048576
   .rw[I' h];have a:Hid (true=decide (CW c r u)):=(I' ⟨d,f,h⟩).symm;go_wp2
    go_ret;exact⟨Aj a.out,b⟩
   .rw[D' h];have a:Hid (false=decide (CW c r u)):=(D' (λg=>h g.2.2)).symm;go_wp2
    go_ret;exact⟨Aj a.out,b⟩
  .rw[D' f];have a:Hid (false=decide (CW c r u)):=(D' (λg=>f g.2.1)).symm;go_wp2
   go_ret;exact⟨Aj a.out,b⟩
 .rw[D' d];have a:Hid (false=decide (CW c r u)):=(D' (λg=>d g.1)).symm;go_wp2
  go_ret;exact⟨Aj a.out,b⟩
def JE(key:List Int)(c r u:Int):List Int:=JD c r u++(DR key (JD c r u)).take 16
theorem LZ(key b:List Int):((DR key b).take 16).length=16:=by rw[X',Dl];rfl
theorem Eg(key:List Int)(c r u:Int):(JE key c r u).length=22:=by unfold JE;rw[G',LZ,Ef]
theorem PJ(key b:List Int):∀ x∈(DR key b).take 16,0<=x/\x<256:=λx a=>M0 key b x (iJ a)
theorem UG(key:List Int)(h:CW c r u):∀ x∈JE key c r u,0<=x/\x<256:=by
 intro x hx;rcases P'.1 hx with hx|hx
 .exact MN h x hx
 .exact PJ _ _ x hx
def LI(key:List Int)(c r u:Int):Int:=if key.length≠32 then 1 else Ma c r u
def OJ(key:List Int)(c r u:Int):List Int:=if LI key c r u=0 then JE key c r u else[]
theorem T6(h:¬ key.length=32):LI key c r u=1:=if_pos h
theorem OI(h:key.length=32):LI key c r u=Ma c r u:=if_neg (λg=>g h)
theorem Zi(h:LI key c r u=0):OJ key c r u=JE key c r u:=if_pos h
theorem Ss(h:¬ LI key c r u=0):OJ key c r u=[]:=if_neg h
theorem QG(c r u:Int)(w:World)(h:CW c r u) :
  Calls prog 90 #[.agg (tkA c r u)] w λe w'=>∃ v',e=.returned v'/\w'.ownsRow w.heap.size 5 1 v' (JD c r u).length ((JD c r u).map (Value.int .u8))/\Bw w w':=by
 have d:Bw w (w.alloc (.cells (tkA c r u) 79)):=(Below.refl _ _).alloc (A' _) _;have f:=Bt.made w c r u;generalize o:w.alloc (.cells (tkA c r u) 79)=W at d f;obtain⟨c0,c1,m⟩:=IH f.row;have lt:=f.lt;clear f;obtain⟨⟨q,s⟩,⟨t,v⟩,i,x⟩:=h;have C:c%256=c:=by omega
 have D:r%256=r:=by omega
 have A:Hid (JD c r u=[c,r]++Ab u):=rfl;have b:Bw W (W.alloc (.cells #[.int .u8 c,.int .u8 r] 5)):=(Below.refl _ _).alloc (A' _) _;have k:(W.alloc (.cells #[.int .u8 c,.int .u8 r] 5)).ownsRow W.heap.size 5 1 (.slice (some ⟨W.heap.size,0,none⟩) 2 2) ([c,r]:List Int).length (([c,r]:List Int).map (Value.int .u8)) :=
  ⟨rfl,.inr ⟨W.heap.size,2,#[.int .u8 c,.int .u8 r],rfl,A' _,heap_alloc_new _ _,by simp,by simp[maxLen],rfl,rfl⟩⟩
 have j:Hid ((W.alloc (.cells #[.int .u8 c,.int .u8 r] 5)).ownsRow W.heap.size 5 1 (.slice (some ⟨W.heap.size,0,none⟩) 2 2) ([c,r]:List Int).length (([c,r]:List Int).map (Value.int .u8))):=k;clear k;generalize g:W.alloc (.cells #[.int .u8 c,.int .u8 r] 5)=W1 at b j;have B:W1.cell? ⟨w.heap.size,2,none⟩=some (.int .i64 u):=(b.cell (p:=⟨w.heap.size,2,none⟩) lt).trans m;have n:=d.trans (b.mono d.size);have y:=b.size;go_enter func90,ntmps90
 go_wp2_with fail
 clear o g;refine(G1 _ [c,r] u W.heap.size W1 j.out y (by simp) i (by omega)).mono ?_;rintro e F ⟨E,rfl,z,l⟩;have a:=d.size;go_wp2
 go_ret;exact⟨_,rfl,AH z a,n.trans (l.mono a)⟩
theorem PH(d c:Value)(key b:List Int)(w:World)(n:Sl w d key)(m:Sl w c b)(lk:key.length<=256)(p:b.length<=2000)(o:Av w) :
  Calls prog 91 #[d,c] w λe w'=>∃ v',e=.returned (.tuple #[v',.int .i64 0])/\Sl w' v' ((DR key b).take 16)/\Bw w w':=by
 go_enter func91,ntmps91
 go_wp2_with fail
 refine(co d c key b w n m lk p o).mono ?_;rintro e t ⟨s,rfl,l⟩;obtain⟨f,i,g,k,rfl,_,_⟩:=l;obtain⟨h,j,a,q⟩:=f.mf 16 (by rw[Dl];omega);rw[Dl]at a ⊢
 have r:∀ W,(Instr.slice 50 (.slice (some ⟨g,0,none⟩) 32 k) none (some (.int .i64 16)) none).run prog W=.ok (.slice h 16 j) W:=a;clear a f;go_wp2
 go_ret2
 exact⟨_,rfl,q,i⟩
theorem T7(E:Value)(key:List Int)(c r u:Int)(w:World)(f:Sl w E key)(N:Av w) :
  Calls prog 47 #[E,.agg (tkA c r u)] w λe w'=>∃ v',e=.returned (.tuple #[v',.int .i64 (LI key c r u)])/\w'.ownsRow w.heap.size 5 1 v' (OJ key c r u).length ((OJ key c r u).map (Value.int .u8))/\Bw w w':=by
 have i:Bw w (w.alloc (.cells (tkA c r u) 79)):=(Below.refl _ _).alloc (A' _) _;have j:=Bt.made w c r u;have A:=Ig c r u;have m:=f.len;obtain⟨S,T,rfl⟩:=f.shape;generalize M:w.alloc (.cells (tkA c r u) 79)=W at i j;by_cases l:key.length=32
 .have HE:=OI (key:=key) (c:=c) (r:=r) (u:=u) l;have J:Hid (key.length=32):=l;rw[l]at f ⊢
  clear l m;go_enter func47,ntmps47
  go_wp2_with (refine wpList_load_row rfl 79 _ rfl w.heap.size rfl 79 _ (0,0) _ j.row underlying79 rfl A ?_)
  clear M;refine(Iy c r u W).mono ?_;rintro e g ⟨rfl,p⟩;have b:=i.trans (p.mono i.size);replace j:=j.ab p;clear p i;by_cases d:CW c r u
  .have a:Hid (LI key c r u=0):=HE.trans (JR d);have h:Hid (OJ key c r u=JE key c r u):=Zi a.out;rw[I' d];clear HE;go_wp2_with (refine wpList_load_row rfl 79 _ rfl w.heap.size rfl 79 _ (0,0) _ j.row underlying79 rfl A ?_)
   refine(QG c r u g d).mono ?_;rintro e R ⟨P,rfl,x,q⟩;have s:=b.trans (q.mono b.size);have D:=Sl.jv x (by rw[Ef];omega) (MN d);have H:=q.size;go_wp2_with fail
   refine(PH _ P key (JD c r u) R (f.ab s) D (by rw[J.out];omega) (by rw[Ef];omega) (N.ab s)).mono ?_;rintro e F ⟨U,rfl,s3,n⟩;have y:=Ja x n;have t:Bw g F:=q.trans (n.mono H);have I:g.heap.size<=F.heap.size:=iy H n.size;have v:=y.lt;have O:=s3.len;have o:Hid (JE key c r u=JD c r u++(DR key (JD c r u)).take 16):=rfl;have B:=Ef c r u;clear x n s D;generalize (DR key (JD c r u)).take 16=Y at s3 o O;generalize JD c r u=X at y o B;go_wp2_with (at_builtin;refine Aa _ rfl _ _ 50 rfl g.heap.size 5 underlying50 Aq _ _ rfl rfl X Y y s3 (by omega) I ?_)
   intro Q G C z;have L:Bw g G:=t.grown z I (λk f=>(v k f).1);have K:Hid (G.ownsRow g.heap.size 5 1 Q (JE key c r u).length ((JE key c r u).map (Value.int .u8))):=by unfold Hid;rw[o.out];simpa[B]using C
   clear C z;go_wp2
   go_ret2
   rw[h.out,a.out];exact⟨_,rfl,AH K.out b.size,b.trans (L.mono b.size)⟩
  .have a:Hid (LI key c r u=2):=HE.trans (SS d);have h:Hid (OJ key c r u=[]):=Ss (by rw[a.out];omega);rw[D' d];go_wp2
   go_ret2
   rw[h.out,a.out];exact⟨_,rfl,World.ownsRow_nil _ _ _ _,b⟩
 .have h1':¬ (key.length:Int)=32:=by omega
  have a:Hid (LI key c r u=1):=T6 l;have h:Hid (OJ key c r u=[]):=Ss (by rw[a.out];omega);go_enter func47,ntmps47
  go_wp2
  go_ret2
  rw[h.out,a.out];exact⟨_,rfl,World.ownsRow_nil _ _ _ _,i⟩
end
end
end Go.Proofs.YtdjfdfpkkenjbaaGreatDoor
