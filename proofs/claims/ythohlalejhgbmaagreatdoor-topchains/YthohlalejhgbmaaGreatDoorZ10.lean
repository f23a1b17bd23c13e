/- Part 10 of the walk. -/
import Derived.Deep.OwnRows
import Derived.Laws.OwnMore
import Derived.Maps.AppendAt
import Derived.Test.YthohlalejhgbmaaGreatDoorZ9
set_option maxRecDepth 100000
set_option maxHeartbeats 4000000
open Go.Proofs.Tryz
set_option linter.unusedVariables false
namespace Go.Proofs.YthohlalejhgbmaaGreatDoor
section
open Go.RowKit
section
def Gg(t:Nat)(x:Int):Int:=if t%4=3 then x%16 else if t%4=0/\0<t then x/4*4 else x
def Dw(l:List Int):List Int:=(List.range 16).map λt=>Gg t (l.getD t 0)
theorem Mn(l:List Int):(Dw l).length=16:=by simp[Dw]
theorem QQ(l:List Int)(t:Nat)(h:t<16):(Dw l).getD t 0=Gg t (l.getD t 0):=by
 simp[Dw,List.getD,List.getElem?_map,List.getElem?_range h]
theorem NW(t:Nat){x:Int}(h:0<=x/\x<256):0<=Gg t x/\Gg t x<256:=by
 unfold Gg;split
 .omega
 .split<;>omega
variable{a key l m nonce:List Int}{e j n:Nat}{v:Value}{w:World}{xs:List Value}
theorem Pb(h:∀ x∈l,0<=x/\x<256):∀ x∈Dw l,0<=x/\x<256:=by
 intro x a;obtain⟨t,_,rfl⟩:=kn.1 a;exact NW t (Ai h t)
theorem Ri(h:l.length=m.length)(c:∀ t,t<l.length->l.getD t 0=m.getD t 0):l=m:=by
 apply mo h;intro t a b;have:=c t a
 rwa [AO a,AO b]at this
theorem gJ(x:Int)(a:0<=x)(b:x<256):bits .and .u8 x 15=x%16:=by
 obtain⟨n,rfl⟩:=jY a;rw[show(15:Int)=((15:Nat):Int)from rfl,u8_and_nat _ _ (by omega) (by omega),show(15:Nat)=2^4-1 from rfl,mQ];omega
theorem QE:∀ n:Fin 256,n.val &&& 252=n.val/4*4:=by decide +kernel
theorem ei(x:Int)(a:0<=x)(b:x<256):bits .and .u8 x 252=x/4*4:=by
 obtain⟨n,rfl⟩:=jY a;have e:n &&& 252=n/4*4:=QE ⟨n,by omega⟩;rw[show(252:Int)=((252:Nat):Int)from rfl,u8_and_nat _ _ (by omega) (by omega),e];omega
structure Upper(l m:List Int)(j:Nat):Prop where
 len:m.length=16
 at_:∀ t,m.getD t 0=if t%4=3/\t<3+4*j then l.getD t 0%16 else l.getD t 0
theorem Upper.zero(h:l.length=16):Upper l l 0:=by
 refine⟨h,λt=>?_⟩;rw[if_neg (by omega)]
theorem Upper.succ(h:Upper l m j)(a:j<4):Upper l (m.set (3+4*j) (m.getD (3+4*j) 0%16)) (j+1):=by
 refine⟨by simpa using h.len,λt=>?_⟩;by_cases e:3+4*j=t
 .subst e;rw[AH (by rw[h.len];omega),h.at_,if_neg (by omega),if_pos (by omega)]
 .rw[Ay e,h.at_];by_cases c:t%4=3/\t<3+4*j
  .rw[if_pos c,if_pos (by omega)]
  .rw[if_neg c,if_neg (by omega)]
structure Lower(l m:List Int)(j:Nat):Prop where
 len:m.length=16
 at_:∀ t,t<16->m.getD t 0=if t%4=3 then l.getD t 0%16 else if t%4=0/\0<t/\t<4+4*j then l.getD t 0/4*4 else l.getD t 0
theorem Upper.lower(h:Upper l m 4):Lower l m 0:=by
 refine⟨h.len,λt a=>?_⟩;rw[h.at_];by_cases c:t%4=3
 .rw[if_pos (by omega),if_pos c]
 .rw[if_neg (by omega),if_neg c,if_neg (by omega)]
theorem Lower.succ(h:Lower l m j)(b:j<3):Lower l (m.set (4+4*j) (m.getD (4+4*j) 0/4*4)) (j+1):=by
 refine⟨by simpa using h.len,λt a=>?_⟩;by_cases e:4+4*j=t
 .subst e;rw[AH (by rw[h.len];omega),h.at_ _ a,if_neg (by omega),if_neg (by omega),if_neg (by omega),if_pos (by omega)]
 .rw[Ay e,h.at_ _ a];by_cases c:t%4=3
  .rw[if_pos c,if_pos c]
  .rw[if_neg c,if_neg c];by_cases d:t%4=0/\0<t/\t<4+4*j
   .rw[if_pos d,if_pos (by omega)]
   .rw[if_neg d,if_neg (by omega)]
theorem Lower.pJ(h:Lower l m 3):m=Dw l:=by
 refine Ri (by rw[h.len,Mn]) (λt a=>?_);rw[h.len]at a
 rw[h.at_ t a,QQ l t a,Gg];by_cases c:t%4=3
 .rw[if_pos c,if_pos c]
 .rw[if_neg c,if_neg c];by_cases d:t%4=0/\0<t
  .rw[if_pos d,if_pos (by omega)]
  .rw[if_neg d,if_neg (by omega)]
theorem Upper.byte(h:Upper l m j)(a:∀ x∈l,0<=x/\x<256)(t:Nat):0<=m.getD t 0/\m.getD t 0<256:=by
 have:=Ai a t;rw[h.at_];split<;>omega
theorem Lower.byte(h:Lower l m j)(a:∀ x∈l,0<=x/\x<256)(t:Nat)(b:t<16):0<=m.getD t 0/\m.getD t 0<256:=by
 have:=Ai a t;rw[h.at_ t b];split
 .omega
 .split<;>omega
theorem Rm(v:Value)(l:List Int)(w:World)(h:Sl w v l)(S:l.length=16) :
  Calls prog 200 #[v] w λe w'=>∃ r,e=.returned (.agg (Ag r))/\Lim 67108864 r/\val r%pp=leN (Dw l)%pp/\Bw w w':=by
 have T:=h;obtain⟨⟨a,Y,rfl,hc,hn,Z⟩,M,A⟩:=h;have n:Hid (∀ x∈l,0<=x/\x<256):=A;clear Z A hn M;have W:Hid (l.length=16):=S;go_enter func200,ntmps200
 go_wp2_with (refine wpList_copy_splice rfl _ _ 48 48 rfl 5 underlying48 Xk _ _ _ _ _ _ rfl rfl (w.heap.size+1) 0 ((List.replicate 16 (0:Int)).map (Value.int .u8)) 296 (heap_alloc2_new _ _ _) (l.map (Value.int .u8)) (by rw[ka];exact(kQ (show l.length<=16 by omega)).symm) (λhp=>⟨rfl,(T.ab (((Below.refl _ _).alloc (A' _) _).alloc (by simp) _)).src (by simpa using hp)⟩) (by rw[ka,ka,lD];omega) (EA _) (w.heap.size+1) _ (Below.refl _ _) (A' _) ?_)
 intro F Q q;have E:F.heap[w.heap.size+1]?=some (.cells (byA l) 296 (0,0)):=by
  have R:F.heap[w.heap.size+1]?=some (.cells (splice ((List.replicate 16 (0:Int)).map (Value.int .u8)) 0 (l.map (Value.int .u8))).toArray 296 (0,0)):=Q.out;rw[Is,S]at R
  simpa[byA]using R
 have y:Bw w F:=(((Below.refl _ _).alloc (A' _) _).alloc (by simp) _).trans (q.mono (by omega));have C:F.heap[w.heap.size]?=some (.cells (Ag [0,0,0,0,0]) 286 (0,0)):=by
  rw[q.block _ (by omega)];exact heap_alloc2_old _ _ _
 clear Q q T;go_wp2_with fail
 go_loopw [4] (λi wr=>∃ (j:Nat) (m:List Int),j<=4/\i=.int .i64 (3+4*(j:Int))/\Upper l m j/\wr.heap[w.heap.size]?=some (.cells (Ag [0,0,0,0,0]) 286 (0,0))/\wr.heap[w.heap.size+1]?=some (.cells (byA m) 296 (0,0))/\Bw w wr) (λi _=>20-(intOf i).toNat)
 case atStart=>exact⟨0,l,by omega,rfl,Upper.zero W.out,C,E,y⟩
 case round =>
  clear C E y;obtain⟨j,m,hj,rfl,c,t,f,o⟩:=hrel;have N:=c.len;by_cases J:j<4
  .have K:3+4*(j:Int)<16:=by omega
   have H:=(cell_of_row _ _ (3+4*j) _ _ _ f).trans (Hq m (3+4*j) (by omega));have fl:=frozen_of_row _ _ (3+4*j) _ _ f;have b:=c.byte n.out (3+4*j);have u:Hid (Upper l (m.set (3+4*j) (m.getD (3+4*j) 0%16)) (j+1)):=c.succ J;have d:=gJ (m.getD (3+4*j) 0) b.1 b.2;generalize m.getD (3+4*j) 0=x at H u b d;clear c;go_wp2
   go_roundw
   case rel =>
    refine⟨j+1,_,by omega,by go_num,u.out,?_,Ge f _ _,?_⟩
    .exact(heap_setCell_other _ _ _ _ (by simp)).trans t
    .exact o.setCell (p:=⟨w.heap.size+1,3+4*j,none⟩) (by simp) _
   case measure=>simp[intOf];omega
  .have HJ:Hid (j=4):=by unfold Hid;omega
   have K:¬ 3+4*(j:Int)<16:=by omega
   have B:Lower l m 0:=by have:=HJ.out;subst this;exact c.lower
   clear c;go_wp2_with fail
   go_loopw [5] (λi wr=>∃ (j:Nat) (m:List Int),j<=3/\i=.int .i64 (4+4*(j:Int))/\Lower l m j/\wr.heap[w.heap.size]?=some (.cells (Ag [0,0,0,0,0]) 286 (0,0))/\wr.heap[w.heap.size+1]?=some (.cells (byA m) 296 (0,0))/\Bw w wr) (λi _=>20-(intOf i).toNat)
   case atStart=>exact⟨0,m,by omega,rfl,B,t,f,o⟩
   case round =>
    clear t f o B N;obtain⟨k,m,hk,rfl,c,t,f,o⟩:=hrel;have N:=c.len;by_cases L:k<3
    .have hki:4+4*(k:Int)<16:=by omega
     have H:=(cell_of_row _ _ (4+4*k) _ _ _ f).trans (Hq m (4+4*k) (by omega));have fl:=frozen_of_row _ _ (4+4*k) _ _ f;have b:=c.byte n.out (4+4*k) (by omega);have u:Hid (Lower l (m.set (4+4*k) (m.getD (4+4*k) 0/4*4)) (k+1)):=c.succ L;have d:=ei (m.getD (4+4*k) 0) b.1 b.2;generalize m.getD (4+4*k) 0=x at H u b d;clear c;go_wp2
     go_roundw
     case rel =>
      refine⟨k+1,_,by omega,by go_num,u.out,?_,Ge f _ _,?_⟩
      .exact(heap_setCell_other _ _ _ _ (by simp)).trans t
      .exact o.setCell (p:=⟨w.heap.size+1,4+4*k,none⟩) (by simp) _
     case measure=>simp[intOf];omega
    .have hki:¬ 4+4*(k:Int)<16:=by omega
     have V:Hid (k=3):=by unfold Hid;omega
     have s:m=Dw l:=by have:=V.out;subst this;exact c.pJ
     have s3:Sl wr (.slice (some ⟨w.heap.size+1,0,none⟩) 16 16) m:=by
      refine Sl.rowOf f N (by omega) ?_;rw[s];exact Pb n.out
     have X:Hid (m=Dw l):=s;have G:Hid _:=s3;have O:w.heap.size<wr.heap.size:=(H'.1 t).1;clear c s3 s f;go_wp2_with fail
     refine(Qc _ m _ G.out (by omega)).mono ?_;rintro e U ⟨r,rfl,P,vr,z⟩;have D:=(z.block w.heap.size O).trans t;have I:Bw w U:=o.trans (z.mono o.size);have g:=CJ P.1;go_wp2_with ((with_reducible (refine An ?_));(refine wpList_store_row rfl 286 _ _ rfl (w.heap.size) _ rfl rfl 286 _ D g (by rw[Aj,Aj,P.1];rfl) (Bq r) ?_))
     exact bodyPost_ret (v:=.agg (Ag r)) (results_cell_row rfl _ _ (w.heap.size) 286 _ (0,0) _ rfl (setRow_heap U (w.heap.size) _ _ 286 _ D) underlying286 rfl g) rfl ⟨r,rfl,P,by rw[vr,X.out],AX I (A' _) _⟩
def AF(v:Int)(i:Nat):Int:=v/256^i%256
theorem F8(v:Int)(i:Nat):0<=AF v i/\AF v i<256:=by unfold AF;omega
def leB(n:Nat)(v:Int):List Int:=(List.range n).map (AF v)
theorem Dg(n:Nat)(v:Int):(leB n v).length=n:=by simp[leB]
theorem H8(n:Nat)(v:Int):∀ x∈leB n v,0<=x/\x<256:=by
 intro x a;obtain⟨j,_,rfl⟩:=kn.1 a;exact F8 v j
def Fp(S:Nat->Int):Nat->Int
 | 0=>0
 | k+1=>Fp S k+S k*256^k
def Hr(S:Nat->Int)(k:Nat):Int:=Fp S k/256^k
theorem Lu(k:Nat):(0:Int)<256^k:=Int.pow_pos (by omega)
theorem MM(S:Nat->Int):Hr S 0=0:=by simp[Hr,Fp]
theorem ML(S:Nat->Int)(k:Nat):Hr S (k+1)=(Hr S k+S k)/256:=by
 have a:=Lu k;unfold Hr;rw[Fp,mT,<- mF (mO a),Int.add_mul_ediv_right _ _ (Int.ne_of_gt a)]
theorem QJ(S:Nat->Int)(h:∀ j,0<=S j/\S j<1000)(k:Nat):0<=Hr S k/\Hr S k<256:=by
 induction k with
 | zero=>rw[MM];omega
 | succ k ih=>rw[ML];have:=h k;omega
theorem Vp(S:Nat->Int)(k d:Nat):∃ Z,Fp S (k+d)=Fp S k+256^k*Z:=by
 induction d with
 | zero=>exact⟨0,by simp⟩
 | succ d ih =>
  obtain⟨Z,a⟩:=ih;refine⟨Z+S (k+d)*256^d,?_⟩;rw[<- kM,Fp,a,mt]
  grind
theorem K8(v Z:Int)(n k:Nat)(h:k<n):AF (v+256^n*Z) k=AF v k:=by
 have a:=Lu k;obtain⟨d,rfl⟩:∃ d,n=k+(1+d):=⟨n-k-1,by omega⟩;unfold AF;rw[mt,mt,show(256:Int)^k*(256^1*256^d)*Z=256^k*(256*(256^d*Z))by grind,Int.add_mul_ediv_left _ _ (Int.ne_of_gt a)];omega
theorem TY(S:Nat->Int)(n k:Nat)(h:k<n):(Hr S k+S k)%256=AF (Fp S n) k:=by
 have b:=Lu k;obtain⟨d,rfl⟩:∃ d,n=(k+1)+d:=⟨n-(k+1),by omega⟩;obtain⟨Z,a⟩:=Vp S (k+1) d;rw[a,K8 _ _ _ _ (by omega),AF,Fp,Int.add_mul_ediv_right _ _ (Int.ne_of_gt b)];rfl
theorem YE(S T:Nat->Int)(k:Nat):Fp (λj=>S j+T j) k=Fp S k+Fp T k:=by
 induction k with
 | zero=>rfl
 | succ k ih=>simp only[Fp,ih];grind
theorem YF(l:List Int)(k:Nat):Fp (λj=>l.getD j 0) k=leP l k:=by
 induction k with
 | zero=>rfl
 | succ k ih=>simp only[Fp,leP,ih]
theorem S4(v:Int)(n:Nat):∃ Z,v=Fp (AF v) n+256^n*Z/\Z=v/256^n:=by
 induction n with
 | zero=>exact⟨v,by simp[Fp],by simp⟩
 | succ n ih =>
  obtain⟨Z,b,a⟩:=ih;refine⟨Z/256,?_,?_⟩
  .rw[Fp,AF,<- a,mT];have:Z=Z%256+256*(Z/256):=by omega
   grind
  .rw[a,mT,mF (mO (Lu n))]
theorem VY(v:Int)(s:List Int)(k:Nat)(a:k<16)(b:s.length<=16) :
  (Hr (λj=>AF v j+s.getD j 0) k+(AF v k+s.getD k 0))%256=AF (v+leN s) k:=by
 rw[TY (λj=>AF v j+s.getD j 0) 16 k a,YE (AF v) (λj=>s.getD j 0),YF,X0 16 b];obtain⟨Z,c,_⟩:=S4 v 16;have e:v+leN s=Fp (AF v) 16+leN s+256^16*Z:=by omega
 rw[e,K8 _ _ _ _ a]
def Iw(v:Int)(k:Nat):List Int:=(List.range 16).map λj=>if j<k then AF v j else 0
theorem Qt(v:Int)(k:Nat):(Iw v k).length=16:=by simp[Iw]
theorem Vw(v:Int):Iw v 0=List.replicate 16 0:=rfl
theorem YN(v:Int):Iw v 16=leB 16 v:=by
 unfold Iw leB;refine m6 λj a=>?_;rw[if_pos (l7.1 a)]
theorem Vv(v:Int)(k:Nat)(_hk:k<16):(Iw v k).set k (AF v k)=Iw v (k+1):=by
 apply mo (by simp[Iw]);intro j a b;rw[lK];simp only[Iw,List.getElem_map,List.getElem_range];by_cases e:k=j
 .subst e;rw[if_pos rfl,if_pos (by omega)]
 .rw[if_neg e];by_cases c:j<k
  .rw[if_pos c,if_pos (by omega)]
  .rw[if_neg c,if_neg (by omega)]
theorem RR(a b:Int)(k:Nat)(m:Int)(d:m=2^k)(g:0<=a)(c:a<m)(h:0<=b)(i:a+b*m<18446744073709551616):bits .or .u64 a (b*m)=a+b*m:=by
 obtain⟨x,rfl⟩:=jY g;obtain⟨y,rfl⟩:=jY h;have e:(y:Int)*m=((2^k*y:Nat):Int):=by rw[d,m5,me,Int.mul_comm];rfl
 rw[e]at i ⊢
 have j:x<2^k:=by
  have:((x:Nat):Int)<((2^k:Nat):Int):=by rw[me];rw[d]at c;exact c
  omega
 have f:=mj j y;rw[u64_or_nat _ _ (by omega) (by omega),Nat.or_comm,<- f];omega
theorem fQ{a b:Int}(h:a=b):Ending.returned (.int .u8 a)=.returned (.int .u8 b):=by rw[h]
theorem QI(n:List Int)(i:Nat)(w:World)(o:Lim 67108864 n)(A:i<16) :
  Calls prog 204 #[.agg (Ag n),.int .i64 i] w λe w'=>e=.returned (.int .u8 (AF (val n) i))/\Bw w w':=by
 obtain⟨a,b,c,d,e,rfl,⟨q,r⟩,⟨s,t⟩,⟨c1,u⟩,⟨v,x⟩,⟨y,z⟩⟩:=o.split;have f:(w.alloc (.cells (Ag [a,b,c,d,e]) 286 (0,0))).heap[w.heap.size]?=some (.cells (Ag [a,b,c,d,e]) 286 (0,0)):=heap_alloc_new _ _;have h:=(cell_of_row _ _ 0 _ _ _ f).trans (Ap _ 0 (by simp));have j:=(cell_of_row _ _ 1 _ _ _ f).trans (Ap _ 1 (by simp));have k:=(cell_of_row _ _ 2 _ _ _ f).trans (Ap _ 2 (by simp));have l:=(cell_of_row _ _ 3 _ _ _ f).trans (Ap _ 3 (by simp));have m:=(cell_of_row _ _ 4 _ _ _ f).trans (Ap _ 4 (by simp));simp only[jZ,kq]at h j k l m;have g:Hid (val [a,b,c,d,e]=a+67108864*b+4503599627370496*c+302231454903657293676544*d+20282409603651670423947251286016*e):=Db a b c d e;generalize Ag [a,b,c,d,e]=arr at h j k l m ⊢;generalize val [a,b,c,d,e]=V at g ⊢;clear o f;obtain rfl|rfl|rfl|rfl|rfl|rfl|rfl|rfl|rfl|rfl|rfl|rfl|rfl|rfl|rfl|rfl:i=0\/i=1\/i=2\/i=3\/i=4\/i=5\/i=6\/i=7\/i=8\/i=9\/i=10\/i=11\/i=12\/i=13\/i=14\/i=15:=by omega
 all_goals
  go_enter func204,ntmps204
  go_wp2
  go_ret;refine⟨fQ ?_,(Below.refl _ _).alloc (A' _) _⟩;have p:=g.out;clear g h j k l m;unfold AF
  first
   | rw[RR _ _ 2 4 rfl (by omega) (by omega) (by omega) (by omega)]
   | rw[RR _ _ 4 16 rfl (by omega) (by omega) (by omega) (by omega)]
   | rw[RR _ _ 6 64 rfl (by omega) (by omega) (by omega) (by omega)]
   | skip
  subst p;simp only[Int.reducePow];omega
theorem M1{P:Program}{e:Nat}{d:Array Oper}{K:Act->World->Prop}{Q:Exit->Act->World->Prop}{a:Act}(R:World->Prop){A:Act}(c:∀ K':Act->World->Prop,Hid (∀ W2,R W2->K' A W2)->(Code.region e d true).wp P (Exit.then K' Q) a w)(b:∀ W2,R W2->K A W2):(Code.region e d true).wp P (Exit.then K Q) a w:=c K b
theorem OD(nl:List Int)(v:Value)(s:List Int)(w:World)(h:Sl w v s)(Z:s.length=16)(hn:Lim 67108864 nl) :
  Calls prog 198 #[.agg (Ag nl),v] w λe w'=>∃ v',e=.returned v'/\Sl w' v' (leB 16 (val nl+leN s))/\Bw w w':=by
 obtain⟨⟨a,a3,rfl,hc,a1,O⟩,a0,r⟩:=h;rcases O with rfl|⟨B,off,rfl,hB,hcell⟩
 .simp at Z
 have HC:Hid (∀ i,i<16->w.cell? ⟨B,off+i,none⟩=some (.int .u8 (s.getD i 0))):=λi hi=>hcell i (by omega);have n:Hid (∀ x∈s,0<=x/\x<256):=r;have o:Hid (s.length=16):=Z;rw[Z]at hc ⊢
 clear hcell r a1 a0;obtain⟨J,K,L,M,N,rfl,_⟩:=hn.split;obtain⟨V,X⟩:∃ V,val [J,K,L,M,N]=V:=⟨_,rfl⟩;have HV:Hid (val [J,K,L,M,N]=V):=X;rw[X];clear X;obtain⟨i0,z,A,C,D⟩:=info_parts Aq;go_enter func198,ntmps198
 go_wp2_with (at_make;refine wpList_make_row _ rfl _ _ 48 rfl 5 i0 (.int .u8 0) underlying48 z A C rfl _ _ 16 rfl rfl (by rw[D];omega) (by omega) ?_)
 clear z A C D
 go_loopw [6,11] (λcv i wr=>∃ (k:Nat),k<=16/\i=.int .i64 k/\cv=.int .i64 (Hr (λj=>AF V j+s.getD j 0) k)/\wr.heap[w.heap.size]?=some (.cells (Ag [J,K,L,M,N]) 286 (0,0))/\wr.heap[w.heap.size+1]?=some (.cells (byA (Iw (V+leN s) k)) 5 (0,0))/\Bw w wr) (λ_ i _=>16-(intOf i).toNat)
 case atStart =>
  refine⟨0,by omega,rfl,by rw[MM],?_,?_,?_⟩
  .exact heap_alloc2_old _ _ _
  .have e:madeCells #[Value.int .u8 0] 16=byA (Iw (V+leN s) 0):=by rw[Vw];kernel_rfl
   rw[e];exact heap_alloc2_new _ _ _
  .exact((Below.refl _ _).alloc (A' _) _).alloc (by simp) _
 case round =>
  obtain⟨k,hk,rfl,rfl,f,g,P⟩:=hrel;by_cases b:k<16
  .have hki:(k:Int)<16:=by omega
   have E:=(cell_of_row _ _ 0 _ _ _ f).trans (Ap _ 0 (by simp));have F:=(cell_of_row _ _ 1 _ _ _ f).trans (Ap _ 1 (by simp));have G:=(cell_of_row _ _ 2 _ _ _ f).trans (Ap _ 2 (by simp));have H:=(cell_of_row _ _ 3 _ _ _ f).trans (Ap _ 3 (by simp));have I:=(cell_of_row _ _ 4 _ _ _ f).trans (Ap _ 4 (by simp));simp only[jZ,kq]at E F G H I;have a2:w.heap.size+1<wr.heap.size:=(H'.1 g).1;have U:B<wr.heap.size:=by omega
   have ch:=(P.cell (p:=⟨B,off+k,none⟩) hB).trans (HC.out k b);have t:∀ j,0<=AF V j+s.getD j 0/\AF V j+s.getD j 0<1000:=λj=>by
    have R:=F8 V j;have S:=Ai n.out j;omega
   have u:=QJ (λj=>AF V j+s.getD j 0) t k;have d:Hid (Hr (λj=>AF V j+s.getD j 0) (k+1)=(Hr (λj=>AF V j+s.getD j 0) k+(AF V k+s.getD k 0))/256):=ML _ k;have c:Hid ((Hr (λj=>AF V j+s.getD j 0) k+(AF V k+s.getD k 0))%256=AF (V+leN s) k):=VY V s k b (by rw[o.out];omega);have R:=F8 V k;have S:=Ai n.out k;have l:=QI [J,K,L,M,N] k;rw[HV.out]at l
   have m:Hid (∀ W,Calls prog 204 #[.agg (Ag [J,K,L,M,N]),.int .i64 k] W λe w'=>e=.returned (.int .u8 (AF V k))/\Bw W w'):=λW=>l W hn b;have HT:Hid _:=g;have HR:Hid _:=f;have HB:Hid _:=P;clear l t g f P;have a5:=Qt (V+leN s) k;have Q:Hid ((Iw (V+leN s) k).set k (AF (V+leN s) k)=Iw (V+leN s) (k+1)):=Vv _ k b;generalize Hr (λj=>AF V j+s.getD j 0) k=cy at d c u;generalize AF V k=x at d c R m;generalize s.getD k 0=y at d c S ch;obtain⟨x1,x2⟩:=R;obtain⟨y1,y2⟩:=S;obtain⟨z1,z2⟩:=u;go_wp2_with fail
   apply M1 (λW=>Bw wr W)
   .intro K2 HK2
    go_region_with (go_at_call 204;refine(m.out _).mono ?_;rintro e w2 ⟨rfl,q⟩;have a4:=(q.cell (p:=⟨B,off+k,none⟩) U).trans ch)
    all_goals exact HK2.out _ ((Below.refl _ _).drew.trans q)
   intro W Y;have g:=(Y.block _ a2).trans HT.out;have f:=(Y.block _ (by omega)).trans HR.out;have ct:=(cell_of_row _ _ k _ _ _ g).trans (Hq _ k (by omega));have ft:=frozen_of_row _ _ k _ _ g;have T:Bw w W:=HB.out.trans (Y.mono HB.out.size);clear E F G H I ch;generalize (Iw (V+leN s) k).getD k 0=c0 at ct;go_wp2
   go_roundw
   case rel =>
    refine⟨k+1,by omega,by go_num,?_,?_,?_,?_⟩
    .rw[d.out]
    .exact(heap_setCell_other _ _ _ _ (by simp)).trans f
    .have O:=Ge g k (AF (V+leN s) k);rw[Q.out,<- c.out]at O
     exact O
    .exact T.setCell (p:=⟨w.heap.size+1,k,none⟩) (by simp) _
   case measure=>simp[intOf];omega
  .have hki:¬ (k:Int)<16:=by omega
   have HK:Hid (k=16):=by unfold Hid;omega
   go_wp2
   go_ret;have hK:=HK.out;subst hK;rw[YN]at g
   exact⟨_,rfl,Sl.rowOf g (Dg _ _) (by rw[Dg];omega) (H8 _ _),P⟩
def Vs(key data:List Int):List Int:=leB 16 (dQ (leN (Dw (key.take 16))) data+leN (key.drop 16))
theorem Qr(key a:List Int):(Vs key a).length=16:=Dg _ _
theorem Vu(key a:List Int):∀ x∈Vs key a,0<=x/\x<256:=H8 _ _
theorem Sl.oY(h:Sl w v l):∃ a c,v=.slice a l.length c:=by
 obtain⟨⟨a,b,e,_⟩,_⟩:=h;exact⟨a,b,e⟩
theorem gi(r q:Value)(key a:List Int)(w:World)(g:Sl w r key)(m:Sl w q a)(lk:key.length=32)(A:a.length<=4000) :
  Calls prog 189 #[r,q] w λe w'=>∃ v',e=.returned (.tuple #[v',.int .i64 0])/\Sl w' v' (Vs key a)/\Bw w w':=by
 obtain⟨k,l,rfl⟩:=g.oY;obtain⟨ad,J,rfl⟩:=m.oY;rw[lk]at g ⊢
 obtain⟨s,c1,c,o⟩:=g.ni 16 (by omega);obtain⟨t,u,d,p⟩:=g.from 16 (by omega);have v:∀ W,(Instr.slice 48 (.slice k 32 l) none (some (.int .i64 16)) none).run prog W=.ok (.slice s 16 c1) W:=c;have x:∀ W,(Instr.slice 48 (.slice k 32 l) (some (.int .i64 16)) none none).run prog W=.ok (.slice t 16 u) W:=d;clear c d;have lt:(key.take 16).length=16:=by rw[X'];omega
 have n:(key.drop 16).length=16:=by rw[jL];omega
 have B:¬ (4000:Int)<(a.length:Int):=by omega
 have h:Hid (Vs key a=leB 16 (dQ (leN (Dw (key.take 16))) a+leN (key.drop 16))):=rfl;generalize key.take 16=K1 at o lt h;generalize key.drop 16=K2 at p n h;clear g lk;have j:Hid (a.length<=4000):=A;go_enter func189,ntmps189
 go_wp2_with fail
 go_region_with (first
  | (go_at_call 200;refine(Rm _ K1 _ (o.ab ((Below.refl _ _).drew)) lt).mono ?_;rintro e K ⟨D,rfl,y,F,b⟩)
  | (go_at_call 199;refine(Oh D (leN (Dw K1)) _ a _ (m.ab ((Below.refl _ _).drew.trans b)) j.out y F).mono ?_;rintro e I ⟨C,rfl,z,G,f⟩)
  | (go_at_call 198;refine(OD C _ K2 _ (p.ab (((Below.refl _ _).drew.trans b).trans (f.mono b.size))) n z).mono ?_;rintro e L ⟨H,rfl,E,i⟩))
 all_goals
  go_wp2
  go_ret2
  refine⟨H,rfl,?_,?_⟩
  .rw[h.out,<- G];exact E
  .have b3:Bw w I:=((Below.refl _ _).drew.trans b).trans (f.mono b.size);exact b3.trans (i.mono b3.size)
def gap(n:Nat):Nat:=(16-n%16)%16
def DW(l:List Int):List Int:=l++List.replicate (gap l.length) 0
theorem Ee(l:List Int):(DW l).length=l.length+gap l.length:=by rw[DW,M',lD]
theorem GR(n:Nat):gap n<16:=by unfold gap;omega
theorem Tb(n:Nat):(n+gap n)%16=0:=by unfold gap;omega
theorem Uq(n j:Nat)(h:j<gap n):¬ (n+j)%16=0:=by unfold gap at h;omega
theorem aE(n m:Nat)(h:n%16=0):gap (n+m)=gap m:=by unfold gap;omega
theorem Nn(h:∀ x∈l,0<=x/\x<256):∀ x∈DW l,0<=x/\x<256:=by
 intro x a;rcases Q'.1 a with h1|h1
 .exact h x h1
 .rw[(mx.1 h1).2];omega
theorem XV(a s:List Int):DW (DW a++s)=DW a++DW s:=by
 have h:(DW a).length%16=0:=by rw[Ee];exact Tb _
 rw[DW,M',aE _ _ h,jI];rfl
theorem Xz(k:Nat)(v:Int):leB (k+1) v=leB k v++[AF v k]:=by
 simp[leB,List.range_succ]
def FI(a s:List Int):List Int:=DW a++DW s++leB 8 (a.length:Int)++leB 8 (s.length:Int)
theorem H7(a s:List Int):(FI a s).length=a.length+gap a.length+(s.length+gap s.length)+8+8:=by
 simp only[FI,M',Ee,Dg]
theorem R8{s:List Int}(b:∀ x∈a,0<=x/\x<256)(c:∀ x∈s,0<=x/\x<256):∀ x∈FI a s,0<=x/\x<256:=by
 intro x hx;rcases Q'.1 hx with hx|hx
 .rcases Q'.1 hx with hx|hx
  .rcases Q'.1 hx with hx|hx
   .exact Nn b x hx
   .exact Nn c x hx
  .exact H8 _ _ x hx
 .exact H8 _ _ x hx
def DQ(key nonce a s:List Int):List Int:=Vs ((Cr (BK key (BitVec.ofNat 32 0) nonce)).take 32) (FI a s)
theorem It(key b a s:List Int):(DQ key b a s).length=16:=Qr _ _
theorem LH(key b a s:List Int):∀ x∈DQ key b a s,0<=x/\x<256:=Vu _ _
def Eg(key nonce p:List Int):List Int:=PD (BK key (BitVec.ofNat 32 1) nonce) p
theorem Fo(key a p:List Int):(Eg key a p).length=p.length:=PE _ _
def Io(key nonce a p:List Int):List Int:=Eg key nonce p++DQ key nonce a (Eg key nonce p)
theorem Ip(key b a p:List Int):(Io key b a p).length=p.length+16:=by
 rw[Io,M',Fo,It]
theorem J6(v:Value)(l:List Int)(B:Nat)(w:World)(p:w.ownsRow B 5 1 v l.length (l.map (Value.int .u8)))(D:B<=w.heap.size)(I:l.length<=100000) :
  Calls prog 201 #[v] w λe w'=>∃ v',e=.returned v'/\w'.ownsRow B 5 1 v' (DW l).length ((DW l).map (Value.int .u8))/\Below B w w':=by
 have r:Hid (DW l=l++List.replicate (gap l.length) 0):=rfl;have E:=GR l.length;have s:Hid (∀ j,j<gap l.length->¬ (l.length+j)%16=0):=λj x=>Uq _ _ x;have q:Hid ((l.length+gap l.length)%16=0):=Tb _;obtain⟨a0,c0,rfl⟩:=Ed p;generalize gap l.length=G at r E s q;go_enter func201,ntmps201
 go_wp2_with fail
 go_loopw [0] (λv wr=>∃ (j:Nat) (a:Option Addr) (f:Nat),j<=G/\v=.slice a (l.length+j) f/\wr.ownsRow B 5 1 v (l++List.replicate j 0).length ((l++List.replicate j 0).map (Value.int .u8))/\Below B w wr) (λv _=>l.length+G-X3 v)
 case atStart=>exact⟨0,a0,c0,by omega,rfl,by simpa using p,Below.refl _ _⟩
 case round =>
  clear p;obtain⟨j,a,f,x,rfl,b,d⟩:=hrel;have h:=b.lt;by_cases o:j<G
  .have t:=s.out j o;have u:¬ ((l.length:Int)+j)%16=0:=by omega
   go_wp2_with (at_builtin;refine Aa _ rfl _ _ 48 rfl B 5 underlying48 Aq _ _ rfl rfl (l++List.replicate j 0) [0] (b.alloc _) (Sl.one _ _ _ rfl (by omega)) (by simp;omega) (by have:=d.size;simp;omega) ?_)
   intro H y i g;have c:y.ownsRow B 5 1 H (l++List.replicate (j+1) 0).length ((l++List.replicate (j+1) 0).map (Value.int .u8)):=by rw[<- LA];simpa using i
   have n:Below B w y:=(d.alloc (jG D d.size) _).grown g (by have:=d.size;simp;omega) (λk F=>(h k F).1);obtain⟨z,A,m⟩:=Ed c;rw[M',lD]at m
   subst m;clear i g b h d t u;go_wp2
   go_roundw
   case rel=>exact⟨j+1,z,A,by omega,rfl,c,n⟩
   case measure=>simp[X3];omega
  .have HJ:Hid (G=j):=by unfold Hid;omega
   have C:=q.out;have t:((l.length:Int)+j)%16=0:=by have:=HJ.out;omega
   have u:(((l.length:Int)+j)%16 != 0)=false:=by simp;omega
   clear C;go_wp2
   go_ret;refine⟨_,rfl,?_,d⟩;rw[r.out,HJ.out];exact b
theorem Ga(v:Value)(l:List Int)(n:Nat)(B:Nat)(w:World)(r:w.ownsRow B 5 1 v l.length (l.map (Value.int .u8)))(A:B<=w.heap.size)(G:l.length<=100000)(H:n<=100000) :
  Calls prog 202 #[v,.int .i64 n] w λe w'=>∃ v',e=.returned v'/\w'.ownsRow B 5 1 v' (l++leB 8 (n:Int)).length ((l++leB 8 (n:Int)).map (Value.int .u8))/\Below B w w':=by
 go_enter func202,ntmps202
 go_wp2_with fail
 go_loopw [0,1,5] (λv s i wr=>∃ k:Nat,k<=8/\i=.int .i64 k/\s=.int .i64 ((n:Int)/256^k)/\wr.ownsRow B 5 1 v (l++leB k (n:Int)).length ((l++leB k (n:Int)).map (Value.int .u8))/\Below B w wr) (λ_ _ i _=>8-(intOf i).toNat)
 case atStart=>exact⟨0,by omega,rfl,by simp,by simpa[leB]using r,Below.refl _ _⟩
 case round =>
  clear r;obtain⟨k,q,rfl,rfl,a,c⟩:=hrel;have h:=a.lt;by_cases C:k<8
  .have hki:(k:Int)<8:=by omega
   obtain⟨x,d⟩:∃ x:Int,(n:Int)/256^k=x:=⟨_,rfl⟩;have t:(0:Int)<256^k:=Lu k;have D:0<=x:=by rw[<- d];exact Int.ediv_nonneg (by omega) (by omega)
   have E:x<=100000:=by rw[<- d];have:=Int.ediv_le_self (256^k) (show(0:Int)<=n by omega);omega
   have z:Hid ((n:Int)/256^(k+1)=x/256):=by unfold Hid;rw[mT,<- mF (mO t),d]
   have b:Hid (x%256=AF n k):=by unfold Hid AF;rw[d]
   have g:=Dg k (n:Int);have o:Hid (leB (k+1) (n:Int)=leB k n++[AF n k]):=Xz k _;rw[d];clear d t;generalize leB k (n:Int)=pre at a o g;generalize AF (n:Int) k=y at b o;go_wp2_with (at_builtin;refine Aa _ rfl _ _ 48 rfl B 5 underlying48 Aq _ _ rfl rfl (l++pre) [y] (a.alloc _) (Sl.pB _ _ _ _ rfl ?_ ?_) (by simp;omega) (by have:=c.size;simp;omega) ?_)
   .have:=b.out;omega
   .have:=b.out;omega
   intro F u j f;have m:u.ownsRow B 5 1 F (l++(pre++[y])).length ((l++(pre++[y])).map (Value.int .u8)):=by rw[<- jI];simpa[g]using j
   have p:Below B w u:=(c.alloc (jG A c.size) _).grown f (by have:=c.size;simp;omega) (λk q=>(h k q).1);clear j f a h c;go_wp2
   go_roundw
   case rel=>exact⟨k+1,by omega,by go_num,by rw[z.out],by rw[o.out];exact m,p⟩
   case measure=>simp[intOf];omega
  .obtain rfl:k=8:=by omega
   go_wp2
   go_ret;exact⟨_,rfl,a,c⟩
theorem Xw(O P:Value)(a s:List Int)(w:World)(z:Sl w O a)(B:Sl w P s)(U:a.length<=10000)(V:s.length<=10000) :
  Calls prog 190 #[O,P] w λe w'=>∃ v',e=.returned v'/\Sl w' v' (FI a s)/\Bw w w':=by
 have f:Hid (FI a s=DW (DW a++s)++leB 8 (a.length:Int)++leB 8 (s.length:Int)):=by unfold Hid;rw[XV];rfl
 have R:Hid (∀ x∈FI a s,0<=x/\x<256):=R8 z.byte B.byte;have Q:Hid ((FI a s).length<=30000):=by unfold Hid;rw[H7];have:=GR a.length;have:=GR s.length;omega
 have H:(DW a).length<=11000:=by rw[Ee];have:=GR a.length;omega
 have i:(DW (DW a++s)).length<=30000:=by rw[Ee,M'];have:=GR ((DW a).length+s.length);omega
 obtain⟨aa,ca,rfl⟩:=z.shape;obtain⟨S,cs,rfl⟩:=B.shape;generalize L:a.length=n at U f z ⊢;generalize K:s.length=m at V f B ⊢;have l:Hid (a.length=n):=L;have j:Hid (s.length=m):=K;clear L K;go_enter func190,ntmps190
 go_wp2_with (at_builtin;refine Aa _ rfl _ _ 48 rfl w.heap.size 5 underlying48 Aq _ _ rfl rfl [] a (World.ownsRow_nil _ _ _ _) z (by have:=l.out;simp;omega) (A' _) ?_)
 intro M I c p;have C:Bw w I:=(Below.refl _ _).grown p (A' _) (by simp[Value.ownBlock]);replace c:I.ownsRow w.heap.size 5 1 M a.length (a.map (Value.int .u8)):=by simpa using c
 clear p;go_wp2_with fail
 refine(J6 M a w.heap.size I c C.size (by have:=l.out;omega)).mono ?_;rintro e w2 ⟨v2,rfl,d,g⟩;replace g:=C.trans g;clear c C;have v:=B.ab g;have r:=d.lt;generalize DW a=A at f H i d;go_wp2_with (at_builtin;refine Aa _ rfl _ _ 48 rfl w.heap.size 5 underlying48 Aq _ _ rfl rfl A s d v (by have:=j.out;omega) g.size ?_)
 intro N J b q;have D:Bw w J:=g.grown q g.size (λk T=>(r k T).1);clear q r d g v;replace b:J.ownsRow w.heap.size 5 1 N (A++s).length ((A++s).map (Value.int .u8)):=by simpa using b
 have F:(A++s).length<=21000:=by rw[M'];have:=j.out;omega
 generalize A++s=AS at f i b F;go_wp2_with fail
 refine(J6 N AS w.heap.size J b D.size (by omega)).mono ?_;rintro e Z ⟨W,rfl,h,o⟩;replace o:=D.trans o;clear b D;generalize DW AS=X at f i h;go_wp2_with fail
 refine(Ga W X n w.heap.size Z h o.size (by omega) (by omega)).mono ?_;rintro e w5 ⟨Y,rfl,t,y⟩;replace y:=o.trans y;have G:(X++leB 8 (n:Int)).length<=30008:=by rw[M',Dg];omega
 clear h o;generalize X++leB 8 (n:Int)=X5 at f G t;go_wp2_with fail
 refine(Ga Y X5 m w.heap.size w5 t y.size (by omega) (by omega)).mono ?_;rintro e w6 ⟨v6,rfl,u,E⟩;replace E:=y.trans E;rw[<- f.out]at u
 go_wp2
 go_ret;exact⟨_,rfl,Sl.kc u (by have:=Q.out;omega) R.out,E⟩
def FF(key nonce a:List Int):Bool:=decide (key.length=32)&&decide (nonce.length=12)&&decide (a.length<=256)
theorem Gm(h i g:Value)(key b a:List Int)(w:World)(d:Sl w h key)(f:Sl w i b)(c:Sl w g a) :
  Calls prog 175 #[h,i,g] w λe w'=>e=.returned (.bool (FF key b a))/\w'=w:=by
 have j:=d.len;have k:=f.len;have l:=c.len;obtain⟨n,q,rfl⟩:=d.shape;obtain⟨o,r,rfl⟩:=f.shape;obtain⟨m,p,rfl⟩:=c.shape;unfold FF;generalize key.length=n1 at j d ⊢;generalize b.length=n2 at k f ⊢;generalize a.length=n3 at l c ⊢;clear d f c;by_cases c1:(n1:Int)=32
 .by_cases c2:(n2:Int)=12
  .by_cases c3:(n3:Int)<=256
   .go_enter func175,ntmps175
    go_wp2
    go_ret;refine⟨Al ?_,rfl⟩;simp;omega
   .go_enter func175,ntmps175
    go_wp2
    go_ret;refine⟨Al ?_,rfl⟩;simp;omega
  .go_enter func175,ntmps175
   go_wp2
   go_ret;refine⟨Al ?_,rfl⟩;simp;omega
 .go_enter func175,ntmps175
  go_wp2
  go_ret;refine⟨Al ?_,rfl⟩;simp;omega
theorem VV(b d:Value)(key a:List Int)(x:Int)(c:Nat)(j:x=(c:Int))(w:World)(g:Sl w b key)(h:Sl w d a)(lk:key.length=32)(k:a.length=12)(f:c<=1073741824)(i:Cp w) :
  Calls prog 188 #[b,.int .i64 x,d] w λe w'=>∃ v',e=.returned (.tuple #[v',.int .i64 0])/\Got w w' v' (Cr (BK key (BitVec.ofNat 32 c) a)):=by
 subst j;exact VW b d key a c w g h lk k f i
theorem O8(u v D E:Value)(key b a s:List Int)(w:World)(y:Sl w u key)(z:Sl w v b)(x:Sl w D a)(A:Sl w E s)(lk:key.length=32)(B:b.length=12)(L:a.length<=256)(M:s.length<=2000)(J:Cp w) :
  Calls prog 177 #[u,v,D,E] w λe w'=>∃ v',e=.returned (.tuple #[v',.int .i64 0])/\Sl w' v' (DQ key b a s)/\Bw w w':=by
 have o:Hid (DQ key b a s=Vs ((Cr (BK key (BitVec.ofNat 32 0) b)).take 32) (FI a s)):=rfl;have g:(FI a s).length<=4000:=by rw[H7];have:=GR a.length;have:=GR s.length;omega
 go_enter func177,ntmps177
 go_wp2_with fail
 refine(VV u v key b 0 0 rfl w y z lk B (by omega) J).mono ?_;rintro e S ⟨R,rfl,p⟩;have j:=p.sl;have k:=p.nY;clear p;have d:=Eo (BK key (BitVec.ofNat 32 0) b);generalize Cr (BK key (BitVec.ofNat 32 0) b)=bs at o j d;obtain⟨G,H,rfl⟩:=j.shape;rw[d]at j ⊢
 obtain⟨F,c1,c,C⟩:=j.ni 32 (by omega);have I:∀ W,(Instr.slice 48 (.slice G 64 H) none (some (.int .i64 32)) none).run prog W=.ok (.slice F 32 c1) W:=c;have lt:(bs.take 32).length=32:=by rw[X'];omega
 generalize bs.take 32=K at o C lt;have q:=x.ab k;have t:=A.ab k;clear c j d;have h:a.length<=10000:=by omega
 have i:s.length<=10000:=by omega
 have l:Hid (a.length<=10000):=h;have n:Hid (s.length<=10000):=i;have m:Hid ((FI a s).length<=4000):=g;clear L M h i g y z x A lk B;go_wp2_with fail
 go_region_with (first
  | (go_at_call 190;refine(Xw _ _ a s _ (q.ab ((Below.refl _ _).drew)) (t.ab ((Below.refl _ _).drew)) l.out n.out).mono ?_;rintro e P ⟨Q,rfl,N,f⟩)
  | (go_at_call 189;refine(gi _ _ K _ _ (C.ab ((Below.refl _ _).drew.trans f)) N lt m.out).mono ?_;rintro e T ⟨O,rfl,s3,r⟩))
 all_goals
  go_wp2
  go_ret2
  refine⟨O,rfl,?_,?_⟩
  .rw[o.out];exact s3
  .have b2:Bw w P:=k.trans (((Below.refl _ _).drew.trans f).mono k.size);exact b2.trans (r.mono b2.size)
theorem PC(c f b:Value)(key a d:List Int)(w:World)(h:Sl w c key)(i:Sl w f a)(g:Sl w b d)(lk:key.length=32)(l:a.length=12)(k:d.length<=2000)(j:Cp w) :
  Calls prog 176 #[c,.int .i64 1,f,b] w λe w'=>∃ v',e=.returned (.tuple #[v',.int .i64 0])/\w'.ownsRow w.heap.size 5 1 v' (Eg key a d).length ((Eg key a d).map (Value.int .u8))/\Bw w w' :=
 aY c f b key a d 1 w h i g lk l (by omega) k j
def NwV(B:Nat)(v:Value):Prop:=∀ a n c,v=.slice (some a) n c->B<=a.block
theorem NwV.own{B k:Nat}(h:w.ownsRow B e k v n xs):NwV B v:=λa m c e=>(h.lt a.block (by rw[e];rfl)).1
theorem Fh{b:World}{a:Nat}(h:w.ownsRow a e 1 v n xs)(c:Bw w b):b.ownsRow a e 1 v n xs :=
 EC h λk d=>c.block k (h.lt k d).2
theorem ID(h:FF key nonce a=true):key.length=32/\nonce.length=12/\a.length<=256:=by
 unfold FF at h;simp at h;omega
theorem Yx(o q v K:Value)(key b a p:List Int)(w:World)(i:Sl w o key)(s:Sl w q b)(A:Sl w v a)(t:Sl w K p)(E:FF key b a=true)(U:p.length<=2000)(D:Cp w) :
  Calls prog 150 #[o,q,v,K] w λe w'=>∃ v',e=.returned (.tuple #[v',.int .i64 0])/\Sl w' v' (Io key b a p)/\NwV w.heap.size v'/\Bw w w':=by
 obtain⟨lk,F,S⟩:=ID E;have j:=D.pos;have y:Hid (Io key b a p=Eg key b p++DQ key b a (Eg key b p)):=rfl;have n:=Fo key b p;have g:∀ x∈Eg key b p,0<=x/\x<256:=IL _ t.byte;have Q:¬ (2000:Int)<(p.length:Int):=by omega
 obtain⟨ap,W,rfl⟩:=t.shape;go_enter func150,ntmps150
 go_wp2_with fail
 refine(Gm o q v key b a w i s A).mono ?_;rintro e r ⟨rfl,rfl⟩;rw[E];go_wp2_with fail
 refine(PC o q _ key b p r i s t lk F U D).mono ?_;rintro e M ⟨L,rfl,u,d⟩;generalize Eg key b p=X at y n g u;have H:Sl M L X:=Sl.kc u (by omega) g;go_wp2_with fail
 refine(O8 o q v L key b a X M (i.ab d) (s.ab d) (A.ab d) H lk F S (by omega) (D.ab j d)).mono ?_;rintro e V ⟨Y,rfl,I,z⟩;have G:=Fh u z;have C:=G.lt;have f:Bw r V:=d.trans (z.mono d.size);have m:=It key b a X;have l:=LH key b a X;generalize DQ key b a X=T at y I m l;have P:X.length<=2000:=by omega
 clear n u H d z i s A t;go_wp2_with (at_builtin;refine Aa _ rfl _ _ 48 rfl r.heap.size 5 underlying48 Aq _ _ rfl rfl X T G I (by omega) f.size ?_)
 intro J N c B;replace c:N.ownsRow r.heap.size 5 1 J (X++T).length ((X++T).map (Value.int .u8)):=by simpa[m]using c
 have O:Bw r N:=f.grown B f.size (λk i=>(C k i).1);go_wp2
 go_ret2
 refine⟨J,rfl,?_,.own c,O⟩;rw[y.out];refine Sl.kc c (by rw[M'];omega) ?_;intro x R;rcases Q'.1 R with h|h
 .exact g x h
 .exact l x h
theorem cB(d f c g:Value)(key b a p:List Int)(w:World)(m:Sl w d key)(n:Sl w f b)(k:Sl w c a)(o:Sl w g p)(l:FF key b a=true)(r:p.length<=2000)(q:Cp w) :
  Calls prog 150 #[d,f,c,g] w λe w'=>∃ v',e=.returned (.tuple #[v',.int .i64 0])/\Sl w' v' (Io key b a p)/\Bw w w' :=
 (Yx d f c g key b a p w m n k o l r q).mono λe w' ⟨v,h,i,_,j⟩=>⟨v,h,i,j⟩
def D1(key nonce a d:List Int):Int :=
 if FF key nonce a=true/\d.length<=2016 then(if d.length<16 then 13 else if DQ key nonce a (d.take (d.length-16))=d.drop (d.length-16)then 0 else 6)else 1
def Nm(key nonce a d:List Int):List Int:=if D1 key nonce a d=0 then Eg key nonce (d.take (d.length-16))else[]
theorem bz(g i f o:Value)(key b a d:List Int)(w:World)(m:Sl w g key)(n:Sl w i b)(k:Sl w f a)(l:Sl w o d)(j:FF key b a=false\/2016<d.length) :
  Calls prog 194 #[g,i,f,o] w λe w'=>e=.returned (.tuple #[.slice none 0 0,.int .i64 1])/\w'=w:=by
 have r:=l.len;obtain⟨ap,q,rfl⟩:=l.shape;by_cases c:FF key b a=true
 .have hpl:(2016:Int)<(d.length:Int):=by
   rcases j with h|h
   .rw[c]at h;cases h
   .omega
  go_enter func194,ntmps194
  go_wp2_with fail
  refine(Gm g i f key b a w m n k).mono ?_;rintro e p ⟨rfl,rfl⟩;rw[c];go_wp2
  go_ret2
  exact⟨rfl,rfl⟩
 .rw[Bool.not_eq_true]at c
  go_enter func194,ntmps194
  go_wp2_with fail
  refine(Gm g i f key b a w m n k).mono ?_;rintro e p ⟨rfl,rfl⟩;rw[c];go_wp2
  go_ret2
  exact⟨rfl,rfl⟩
theorem RQ(f g c h:Value)(key b a d:List Int)(w:World)(l:Sl w f key)(m:Sl w g b)(i:Sl w c a)(j:Sl w h d)(k:FF key b a=true)(p:d.length<16) :
  Calls prog 194 #[f,g,c,h] w λe w'=>e=.returned (.tuple #[.slice none 0 0,.int .i64 13])/\w'=w:=by
 obtain⟨ap,o,rfl⟩:=j.shape;have n:(d.length:Int)<16:=by omega
 go_enter func194,ntmps194
 go_wp2_with fail
 refine(Gm f g c key b a w l m i).mono ?_;rintro e q ⟨rfl,rfl⟩;rw[k];go_wp2
 go_ret2
 exact⟨rfl,rfl⟩
theorem XQ(r s q H:Value)(key b a d:List Int)(w:World)(l:Sl w r key)(n:Sl w s b)(k:Sl w q a)(f:Sl w H d)(E:FF key b a=true)(m:Nat)(F:d.length=m+16)(V:m<=2000)(o:Cp w)(G:DQ key b a (d.take m)≠d.drop m) :
  Calls prog 194 #[r,s,q,H] w λe w'=>e=.returned (.tuple #[.slice none 0 0,.int .i64 6])/\Bw w w':=by
 obtain⟨lk,N,M⟩:=ID E;have h:=o.pos;have i:=f.byte;obtain⟨ad,U,rfl⟩:=f.shape;rw[F]at f ⊢
 obtain⟨R,c1,A,p⟩:=f.ni m (by omega);obtain⟨S,T,g,j⟩:=f.from m (by omega);rw[Nat.add_sub_cancel_left]at g j
 have B:(d.take m).length=m:=by rw[X'];omega
 have Q:∀ x∈d.take m,0<=x/\x<256:=λx K=>i x (jU K);have y:Hid (DQ key b a (d.take m)≠d.drop m):=G;clear G;generalize d.take m=D at p B Q y ⊢;generalize d.drop m=L at j y;have v:Hid (D.length=m):=B;clear f F i B;go_enter func194,ntmps194
 go_wp2_with fail
 refine(Gm r s q key b a w l n k).mono ?_;rintro e t ⟨rfl,rfl⟩;rw[E];go_wp2_with fail
 go_quiet (fail)
 have c:Bw t (t.drewN nq):=Am (Below.refl _ _) nq;generalize t.drewN nq=w1 at c ⊢;replace l:=l.ab c;replace n:=n.ab c;replace k:=k.ab c;replace p:=p.ab c;replace j:=j.ab c;replace o:=o.ab h c;clear A g;go_wp2_with fail
 refine(O8 r s q _ key b a D w1 l n k p lk N M (by have:=v.out;omega) o).mono ?_;rintro e u ⟨P,rfl,O,z⟩;go_wp2_with fail
 refine(In P _ (DQ key b a D) L u O (j.ab z)).mono ?_;rintro e W ⟨rfl,C,rfl⟩;have I:Bw u (u.drewN C):=Am (Below.refl _ _) C;have J:Bw t (u.drewN C):=c.trans ((z.trans (I.mono z.size)).mono c.size);rw[D' y.out];go_wp2
 go_ret2
 exact⟨rfl,J⟩
theorem bB(B C F S:Value)(key b a d:List Int)(w:World)(g:Sl w B key)(h:Sl w C b)(u:Sl w F a)(p:Sl w S d)(N:FF key b a=true)(m:Nat)(O:d.length=m+16)(hl:m<=2000)(j:Cp w)(P:DQ key b a (d.take m)=d.drop m) :
  Calls prog 194 #[B,C,F,S] w λe w'=>∃ v',e=.returned (.tuple #[v',.int .i64 0])/\Sl w' v' (Eg key b (d.take m))/\NwV w.heap.size v'/\Bw w w':=by
 obtain⟨lk,Q,la⟩:=ID N;have i:=j.pos;have z:=p.byte;obtain⟨ad,cd,rfl⟩:=p.shape;rw[O]at p ⊢
 obtain⟨a1,c1,I,k⟩:=p.ni m (by omega);obtain⟨a2,c2,v,q⟩:=p.from m (by omega);rw[Nat.add_sub_cancel_left]at v q
 have J:(d.take m).length=m:=by rw[X'];omega
 have V:∀ x∈d.take m,0<=x/\x<256:=λx Y=>z x (jU Y);have G:Hid (DQ key b a (d.take m)=d.drop m):=P;clear P;generalize d.take m=D at k J V G ⊢;generalize d.drop m=L at q G;have l:Hid (D.length=m):=J;clear p O z J;go_enter func194,ntmps194
 go_wp2_with fail
 refine(Gm B C F key b a w g h u).mono ?_;rintro e r ⟨rfl,rfl⟩;rw[N];go_wp2_with fail
 go_quiet (fail)
 have f:Bw r (r.drewN nq):=Am (Below.refl _ _) nq;generalize r.drewN nq=w1 at f ⊢;replace g:=g.ab f;replace h:=h.ab f;replace u:=u.ab f;replace k:=k.ab f;replace q:=q.ab f;replace j:=j.ab i f;clear I v;go_wp2_with fail
 refine(O8 B C F _ key b a D w1 g h u k lk Q la (by have:=l.out;omega) j).mono ?_;rintro e s ⟨vt,rfl,R,o⟩;go_wp2_with fail
 refine(In vt _ (DQ key b a D) L s R (q.ab o)).mono ?_;rintro e T ⟨rfl,A,rfl⟩;have H:Bw s (s.drewN A):=Am (Below.refl _ _) A;have E:Bw r (s.drewN A):=f.trans ((o.trans (H.mono o.size)).mono f.size);rw[I' G.out];have t:Bw w1 (s.drewN A):=o.trans (H.mono o.size);replace g:=g.ab t;replace h:=h.ab t;replace k:=k.ab t;replace j:=j.ab (Y' i f.size) t;have Z:=Fo key b D;have y:∀ x∈Eg key b D,0<=x/\x<256:=IL _ V;clear q R u H o;generalize s.drewN A=T at g h k j E t ⊢;go_wp2_with fail
 refine(PC B C _ key b D T g h k lk Q (by have:=l.out;omega) j).mono ?_;rintro e U ⟨M,rfl,K,W⟩;have s4:Sl U M (Eg key b D):=Sl.kc K (by have:=l.out;omega) y;have X:Bw r U:=E.trans (W.mono E.size);have n4:NwV r.heap.size M:=λa n c e=>jG E.size (NwV.own K a n c e);clear K y;go_wp2
 go_ret2
 exact⟨M,rfl,s4,n4,X⟩
theorem UQ(i j f g:Value)(key c a d:List Int)(w:World)(m:Sl w i key)(n:Sl w j c)(k:Sl w f a)(l:Sl w g d)(o:Cp w) :
  Calls prog 194 #[i,j,f,g] w λe w'=>∃ v',e=.returned (.tuple #[v',.int .i64 (D1 key c a d)])/\Sl w' v' (Nm key c a d)/\NwV w.heap.size v'/\Bw w w':=by
 unfold Nm;by_cases h:FF key c a=true/\d.length<=2016
 .by_cases h16:d.length<16
  .have hE:D1 key c a d=13:=by unfold D1;rw[if_pos h,if_pos h16]
   rw[hE,if_neg (by omega)];refine(RQ i j f g key c a d w m n k l h.1 h16).mono ?_;rintro e p ⟨rfl,rfl⟩;exact⟨_,rfl,Sl.nil _ _,λ_ _ _ e=>(by cases e),Below.refl _ _⟩
  .by_cases hq:DQ key c a (d.take (d.length-16))=d.drop (d.length-16)
   .have hE:D1 key c a d=0:=by unfold D1;rw[if_pos h,if_neg h16,if_pos hq]
    rw[hE,if_pos rfl];exact bB i j f g key c a d w m n k l h.1 (d.length-16) (by omega) (by omega) o hq
   .have hE:D1 key c a d=6:=by unfold D1;rw[if_pos h,if_neg h16,if_neg hq]
    rw[hE,if_neg (by omega)];refine(XQ i j f g key c a d w m n k l h.1 (d.length-16) (by omega) (by omega) o hq).mono ?_;rintro e p ⟨rfl,b⟩;exact⟨_,rfl,Sl.nil _ _,λ_ _ _ e=>(by cases e),b⟩
 .have hE:D1 key c a d=1:=by unfold D1;rw[if_neg h]
  rw[hE,if_neg (by omega)];refine(bz i j f g key c a d w m n k l ?_).mono ?_
  .by_cases hf:FF key c a=true
   .exact .inr (by have:¬ d.length<=2016:=λq=>h ⟨hf,q⟩;omega)
   .exact .inl (by simpa using hf)
  .rintro e p ⟨rfl,rfl⟩;exact⟨_,rfl,Sl.nil _ _,λ_ _ _ e=>(by cases e),Below.refl _ _⟩
theorem XP(g h c f:Value)(key b a d:List Int)(w:World)(n:Sl w g key)(o:Sl w h b)(l:Sl w c a)(m:Sl w f d)(p:Cp w) :
  Calls prog 194 #[g,h,c,f] w λe w'=>∃ v',e=.returned (.tuple #[v',.int .i64 (D1 key b a d)])/\Sl w' v' (Nm key b a d)/\Bw w w' :=
 (UQ g h c f key b a d w n o l m p).mono λe w' ⟨v,i,j,_,k⟩=>⟨v,i,j,k⟩
theorem Sy(key a:List Int){p:List Int}(b:∀ x∈p,0<=x/\x<256):∀ x∈Eg key a p,0<=x/\x<256:=IL _ b
theorem Ss(key b a:List Int){p:List Int}(c:∀ x∈p,0<=x/\x<256):∀ x∈Io key b a p,0<=x/\x<256:=by
 intro x d;rcases Q'.1 d with h|h
 .exact Sy key b c x h
 .exact LH _ _ _ _ x h
theorem ao(lk:key.length=32)(c:nonce.length=12)(b:a.length<=256):FF key nonce a=true:=by
 unfold FF;simp;omega
end
end
section
def JV(key:List Int)(n:Int)(p:List Int):List Int:=Ab n++Io key (Bm (Ab n)) (Ab n) p
theorem FQ(key:List Int)(n:Int)(p:List Int):(JV key n p).length=p.length+20:=by
 rw[JV,M',Ck,Ip];omega
theorem Vd(key:List Int)(n:Int){p:List Int}(a:∀ x∈p,0<=x/\x<256):∀ x∈JV key n p,0<=x/\x<256:=by
 intro x b;rcases Q'.1 b with h|h
 .exact Au n x h
 .exact Ss _ _ _ a x h
def DO(key:List Int)(s t:Int)(l:List Bool)(p:List Int):Int:=if ¬ OkC key s t l then 5 else if 2000<p.length then 1 else if s=1073741824 then 8 else 0
def Co(key:List Int)(s t:Int)(l:List Bool)(r:List Int):Int :=
 if ¬ OkC key s t l then 5 else if 2020<r.length then 1 else if r.length<20 then 13 else if 1073741824<=Fe (r.take 4)then 2 else if GW t l (Fe (r.take 4))=true then 7
 else D1 key (Bm (r.take 4)) (r.take 4) (r.drop 4)
def J9(key:List Int)(r:List Int):List Int:=Nm key (Bm (r.take 4)) (r.take 4) (r.drop 4)
end
section
open Go.RowKit
section
structure Bt(w:World)(g:Nat)(c r u:Int):Prop where
 lt:g<w.heap.size
 row:w.heap[g]?=some (.cells (tkA c r u) 115)
theorem Bt.made(w:World)(c r u:Int):Bt (w.alloc (.cells (tkA c r u) 115)) w.heap.size c r u:=⟨by simp,heap_alloc_new _ _⟩
variable{c r u:Int}{g:Nat}{key:List Int}{w:World}
theorem Bt.ab{b:World}(h:Bt w g c r u)(a:Bw w b):Bt b g c r u :=
 ⟨Y' h.lt a.size,(a.block g h.lt).trans h.row⟩
theorem I0(c r u:Int):(prog.info? 115).map (·.size)=some (tkA c r u).size:=by show _=some 3;kernel_rfl
theorem Je{a:TypeId}{fr:Nat × Nat}(h:w.heap[g]?=some (.cells (tkA c r u) a fr)) :
  w.cell? ⟨g,0,none⟩=some (.int .i64 c)/\w.cell? ⟨g,1,none⟩=some (.int .i64 r)/\w.cell? ⟨g,2,none⟩=some (.int .i64 u) :=
 ⟨cell_of_row _ _ 0 _ _ _ h,cell_of_row _ _ 1 _ _ _ h,cell_of_row _ _ 2 _ _ _ h⟩
theorem IK(c r u:Int)(w:World) :
  Calls prog 114 #[.agg (tkA c r u)] w λe w'=>e=.returned (.bool (decide (De c r u)))/\Bw w w':=by
 have b:Bw w (w.alloc (.cells (tkA c r u) 115)):=(Below.refl _ _).alloc (A' _) _;have i:=Bt.made w c r u;generalize k:w.alloc (.cells (tkA c r u) 115)=W at b i;obtain⟨c0,c1,l⟩:=Je i.row;clear i;go_enter func114,ntmps114
 go_wp2_with fail
 clear k;refine(EL c 7 _).mono ?_;rintro e j ⟨rfl,rfl⟩;by_cases d:0<=c/\c<=7
 .rw[I' d];go_wp2_with fail
  refine(EL r 7 _).mono ?_;rintro e j ⟨rfl,rfl⟩;by_cases f:0<=r/\r<=7
  .rw[I' f];go_wp2_with fail
   refine(EL u 1048576 _).mono ?_;rintro e j ⟨rfl,rfl⟩;by_cases h:0<=u/\u<=1048576
   .rw[I' h];have a:Hid (true=decide (De c r u)):=(I' ⟨d,f,h⟩).symm;go_wp2
    go_ret;exact⟨Al a.out,b⟩
   .rw[D' h];have a:Hid (false=decide (De c r u)):=(D' (λg=>h g.2.2)).symm;go_wp2
    go_ret;exact⟨Al a.out,b⟩
  .rw[D' f];have a:Hid (false=decide (De c r u)):=(D' (λg=>f g.2.1)).symm;go_wp2
   go_ret;exact⟨Al a.out,b⟩
 .rw[D' d];have a:Hid (false=decide (De c r u)):=(D' (λg=>d g.1)).symm;go_wp2
  go_ret;exact⟨Al a.out,b⟩
def Ke(key:List Int)(c r u:Int):List Int:=Kd c r u++(DV key (Kd c r u)).take 16
theorem MC(key b:List Int):((DV key b).take 16).length=16:=by rw[X',Dt];rfl
theorem Ek(key:List Int)(c r u:Int):(Ke key c r u).length=22:=by unfold Ke;rw[M',MC,Ej]
theorem Qu(key b:List Int):∀ x∈(DV key b).take 16,0<=x/\x<256:=λx a=>Ni key b x (jU a)
theorem V5(key:List Int){c r u:Int}(h:De c r u):∀ x∈Ke key c r u,0<=x/\x<256:=by
 intro x hx;rcases Q'.1 hx with hx|hx
 .exact ND h x hx
 .exact Qu _ _ x hx
def Mt(key:List Int)(c r u:Int):Int:=if key.length≠32 then 1 else MD c r u
def Py(key:List Int)(c r u:Int):List Int:=if Mt key c r u=0 then Ke key c r u else[]
theorem Us(h:¬ key.length=32):Mt key c r u=1:=if_pos h
theorem Px(h:key.length=32):Mt key c r u=MD c r u:=if_neg (λg=>g h)
theorem aG(h:Mt key c r u=0):Py key c r u=Ke key c r u:=if_pos h
theorem Tc(h:¬ Mt key c r u=0):Py key c r u=[]:=if_neg h
theorem Ry(c r u:Int)(w:World)(h:De c r u) :
  Calls prog 115 #[.agg (tkA c r u)] w λe w'=>∃ v',e=.returned v'/\w'.ownsRow w.heap.size 5 1 v' (Kd c r u).length ((Kd c r u).map (Value.int .u8))/\Bw w w':=by
 have d:Bw w (w.alloc (.cells (tkA c r u) 115)):=(Below.refl _ _).alloc (A' _) _;have f:=Bt.made w c r u;generalize o:w.alloc (.cells (tkA c r u) 115)=W at d f;obtain⟨c0,c1,m⟩:=Je f.row;have lt:=f.lt;clear f;obtain⟨⟨q,s⟩,⟨t,v⟩,i,x⟩:=h;have C:c%256=c:=by omega
 have D:r%256=r:=by omega
 have A:Hid (Kd c r u=[c,r]++Ab u):=rfl;have b:Bw W (W.alloc (.cells #[.int .u8 c,.int .u8 r] 5)):=(Below.refl _ _).alloc (A' _) _;have k:(W.alloc (.cells #[.int .u8 c,.int .u8 r] 5)).ownsRow W.heap.size 5 1 (.slice (some ⟨W.heap.size,0,none⟩) 2 2) ([c,r]:List Int).length (([c,r]:List Int).map (Value.int .u8)) :=
  ⟨rfl,.inr ⟨W.heap.size,2,#[.int .u8 c,.int .u8 r],rfl,A' _,heap_alloc_new _ _,by simp,by simp[maxLen],rfl,rfl⟩⟩
 have j:Hid ((W.alloc (.cells #[.int .u8 c,.int .u8 r] 5)).ownsRow W.heap.size 5 1 (.slice (some ⟨W.heap.size,0,none⟩) 2 2) ([c,r]:List Int).length (([c,r]:List Int).map (Value.int .u8))):=k;clear k;generalize g:W.alloc (.cells #[.int .u8 c,.int .u8 r] 5)=W1 at b j;have B:W1.cell? ⟨w.heap.size,2,none⟩=some (.int .i64 u):=(b.cell (p:=⟨w.heap.size,2,none⟩) lt).trans m;have n:=d.trans (b.mono d.size);have y:=b.size;go_enter func115,ntmps115
 go_wp2_with fail
 clear o g;refine(GE _ [c,r] u W.heap.size W1 j.out y (by simp) i (by omega)).mono ?_;rintro e F ⟨E,rfl,z,l⟩;have a:=d.size;go_wp2
 go_ret;exact⟨_,rfl,AJ z a,n.trans (l.mono a)⟩
theorem Qs(d c:Value)(key b:List Int)(w:World)(n:Sl w d key)(m:Sl w c b)(lk:key.length<=256)(p:b.length<=2000)(o:Ax w) :
  Calls prog 116 #[d,c] w λe w'=>∃ v',e=.returned (.tuple #[v',.int .i64 0])/\Sl w' v' ((DV key b).take 16)/\Bw w w':=by
 go_enter func116,ntmps116
 go_wp2_with fail
 refine(dP d c key b w n m lk p o).mono ?_;rintro e t ⟨s,rfl,l⟩;obtain⟨f,i,g,k,rfl,_,_⟩:=l;obtain⟨h,j,a,q⟩:=f.ni 16 (by rw[Dt];omega);rw[Dt]at a ⊢
 have r:∀ W,(Instr.slice 48 (.slice (some ⟨g,0,none⟩) 32 k) none (some (.int .i64 16)) none).run prog W=.ok (.slice h 16 j) W:=a;clear a f;go_wp2
 go_ret2
 exact⟨_,rfl,q,i⟩
theorem Ut(E:Value)(key:List Int)(c r u:Int)(w:World)(f:Sl w E key)(N:Ax w) :
  Calls prog 74 #[E,.agg (tkA c r u)] w λe w'=>∃ v',e=.returned (.tuple #[v',.int .i64 (Mt key c r u)])/\w'.ownsRow w.heap.size 5 1 v' (Py key c r u).length ((Py key c r u).map (Value.int .u8))/\Bw w w':=by
 have i:Bw w (w.alloc (.cells (tkA c r u) 115)):=(Below.refl _ _).alloc (A' _) _;have j:=Bt.made w c r u;have A:=I0 c r u;have m:=f.len;obtain⟨S,T,rfl⟩:=f.shape;generalize M:w.alloc (.cells (tkA c r u) 115)=W at i j;by_cases l:key.length=32
 .have HE:=Px (key:=key) (c:=c) (r:=r) (u:=u) l;have J:Hid (key.length=32):=l;rw[l]at f ⊢
  clear l m;go_enter func74,ntmps74
  go_wp2_with (refine wpList_load_row rfl 115 _ rfl w.heap.size rfl 115 _ (0,0) _ j.row underlying115 rfl A ?_)
  clear M;refine(IK c r u W).mono ?_;rintro e g ⟨rfl,p⟩;have b:=i.trans (p.mono i.size);replace j:=j.ab p;clear p i;by_cases d:De c r u
  .have a:Hid (Mt key c r u=0):=HE.trans (Ku d);have h:Hid (Py key c r u=Ke key c r u):=aG a.out;rw[I' d];clear HE;go_wp2_with (refine wpList_load_row rfl 115 _ rfl w.heap.size rfl 115 _ (0,0) _ j.row underlying115 rfl A ?_)
   refine(Ry c r u g d).mono ?_;rintro e R ⟨P,rfl,x,q⟩;have s:=b.trans (q.mono b.size);have D:=Sl.kc x (by rw[Ej];omega) (ND d);have H:=q.size;go_wp2_with fail
   refine(Qs _ P key (Kd c r u) R (f.ab s) D (by rw[J.out];omega) (by rw[Ej];omega) (N.ab s)).mono ?_;rintro e F ⟨U,rfl,s3,n⟩;have y:=Jy x n;have t:Bw g F:=q.trans (n.mono H);have I:g.heap.size<=F.heap.size:=jG H n.size;have v:=y.lt;have O:=s3.len;have o:Hid (Ke key c r u=Kd c r u++(DV key (Kd c r u)).take 16):=rfl;have B:=Ej c r u;clear x n s D;generalize (DV key (Kd c r u)).take 16=Y at s3 o O;generalize Kd c r u=X at y o B;go_wp2_with (at_builtin;refine Aa _ rfl _ _ 48 rfl g.heap.size 5 underlying48 Aq _ _ rfl rfl X Y y s3 (by omega) I ?_)
   intro Q G C z;have L:Bw g G:=t.grown z I (λk f=>(v k f).1);have K:Hid (G.ownsRow g.heap.size 5 1 Q (Ke key c r u).length ((Ke key c r u).map (Value.int .u8))):=by unfold Hid;rw[o.out];simpa[B]using C
   clear C z;go_wp2
   go_ret2
   rw[h.out,a.out];exact⟨_,rfl,AJ K.out b.size,b.trans (L.mono b.size)⟩
  .have a:Hid (Mt key c r u=2):=HE.trans (T8 d);have h:Hid (Py key c r u=[]):=Tc (by rw[a.out];omega);rw[D' d];go_wp2
   go_ret2
   rw[h.out,a.out];exact⟨_,rfl,World.ownsRow_nil _ _ _ _,b⟩
 .have h1':¬ (key.length:Int)=32:=by omega
  have a:Hid (Mt key c r u=1):=Us l;have h:Hid (Py key c r u=[]):=Tc (by rw[a.out];omega);go_enter func74,ntmps74
  go_wp2
  go_ret2
  rw[h.out,a.out];exact⟨_,rfl,World.ownsRow_nil _ _ _ _,i⟩
end
end
end Go.Proofs.YthohlalejhgbmaaGreatDoor
