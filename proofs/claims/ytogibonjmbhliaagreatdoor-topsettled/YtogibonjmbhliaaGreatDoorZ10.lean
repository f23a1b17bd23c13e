/- Part 10 of the walk. -/
import Derived.Deep.OwnRows
import Derived.Laws.OwnMore
import Derived.Maps.AppendAt
import Derived.Test.YtogibonjmbhliaaGreatDoorZ9
set_option maxRecDepth 100000
set_option maxHeartbeats 4000000
open Go.Proofs.Tryz
set_option linter.unusedVariables false
namespace Go.Proofs.YtogibonjmbhliaaGreatDoor
section
open Go.RowKit
section
def GW(t:Nat)(x:Int):Int:=if t%4=3 then x%16 else if t%4=0/\0<t then x/4*4 else x
def DO(l:List Int):List Int:=(List.range 16).map λt=>GW t (l.getD t 0)
theorem Nr(l:List Int):(DO l).length=16:=by simp[DO]
theorem Sj(l:List Int)(t:Nat)(h:t<16):(DO l).getD t 0=GW t (l.getD t 0):=by
 simp[DO,List.getD,List.getElem?_map,List.getElem?_range h]
theorem OZ(t:Nat){x:Int}(h:0<=x/\x<256):0<=GW t x/\GW t x<256:=by
 unfold GW;split
 .omega
 .split<;>omega
variable{a key l m nonce p:List Int}{j:Nat}{v:Value}{w:World}
theorem Qm(h:∀ x∈l,0<=x/\x<256):∀ x∈DO l,0<=x/\x<256:=by
 intro x a;obtain⟨t,_,rfl⟩:=mW.1 a;exact OZ t (Aj h t)
theorem SE(h:l.length=m.length)(c:∀ t,t<l.length->l.getD t 0=m.getD t 0):l=m:=by
 apply oL h;intro t a b;have:=c t a
 rwa [AY a,AY b]at this
theorem jP(x:Int)(a:0<=x)(b:x<256):bits .and .u8 x 15=x%16:=by
 obtain⟨n,rfl⟩:=nv a;rw[show(15:Int)=((15:Nat):Int)from rfl,u8_and_nat _ _ (by omega) (by omega),show(15:Nat)=2^4-1 from rfl,qe];omega
theorem RV:∀ n:Fin 256,n.val &&& 252=n.val/4*4:=by decide +kernel
theorem gT(x:Int)(a:0<=x)(b:x<256):bits .and .u8 x 252=x/4*4:=by
 obtain⟨n,rfl⟩:=nv a;have e:n &&& 252=n/4*4:=RV ⟨n,by omega⟩;rw[show(252:Int)=((252:Nat):Int)from rfl,u8_and_nat _ _ (by omega) (by omega),e];omega
structure Upper(l m:List Int)(j:Nat):Prop where
 len:m.length=16
 at_:∀ t,m.getD t 0=if t%4=3/\t<3+4*j then l.getD t 0%16 else l.getD t 0
theorem Upper.zero(h:l.length=16):Upper l l 0:=by
 refine⟨h,λt=>?_⟩;rw[if_neg (by omega)]
theorem Upper.succ(h:Upper l m j)(a:j<4):Upper l (m.set (3+4*j) (m.getD (3+4*j) 0%16)) (j+1):=by
 refine⟨by simpa using h.len,λt=>?_⟩;by_cases e:3+4*j=t
 .subst e;rw[AN (by rw[h.len];omega),h.at_,if_neg (by omega),if_pos (by omega)]
 .rw[AB e,h.at_];by_cases c:t%4=3/\t<3+4*j
  .rw[if_pos c,if_pos (by omega)]
  .rw[if_neg c,if_neg (by omega)]
structure Lower(l m:List Int)(j:Nat):Prop where
 len:m.length=16
 at_:∀ t,t<16->m.getD t 0=if t%4=3 then l.getD t 0%16 else if t%4=0/\0<t/\t<4+4*j then l.getD t 0/4*4 else l.getD t 0
theorem Upper.lower(h:Upper l m 4):Lower l m 0:=by
 refine⟨h.len,λt a=>?_⟩;rw[h.at_];by_cases c:t%4=3
 .rw[if_pos (by omega),if_pos c]
 .rw[if_neg (by omega),if_neg c,if_neg (by omega)]
theorem Lower.succ(h:Lower l m j)(b:j<3):Lower l (m.set (4+4*j) (m.getD (4+4*j) 0/4*4)) (j+1):=by
 refine⟨by simpa using h.len,λt a=>?_⟩;by_cases e:4+4*j=t
 .subst e;rw[AN (by rw[h.len];omega),h.at_ _ a,if_neg (by omega),if_neg (by omega),if_neg (by omega),if_pos (by omega)]
 .rw[AB e,h.at_ _ a];by_cases c:t%4=3
  .rw[if_pos c,if_pos c]
  .rw[if_neg c,if_neg c];by_cases d:t%4=0/\0<t/\t<4+4*j
   .rw[if_pos d,if_pos (by omega)]
   .rw[if_neg d,if_neg (by omega)]
theorem Lower.tH(h:Lower l m 3):m=DO l:=by
 refine SE (by rw[h.len,Nr]) (λt a=>?_);rw[h.len]at a
 rw[h.at_ t a,Sj l t a,GW];by_cases c:t%4=3
 .rw[if_pos c,if_pos c]
 .rw[if_neg c,if_neg c];by_cases d:t%4=0/\0<t
  .rw[if_pos d,if_pos (by omega)]
  .rw[if_neg d,if_neg (by omega)]
theorem Upper.byte(h:Upper l m j)(a:∀ x∈l,0<=x/\x<256)(t:Nat):0<=m.getD t 0/\m.getD t 0<256:=by
 have:=Aj a t;rw[h.at_];split<;>omega
theorem Lower.byte(h:Lower l m j)(a:∀ x∈l,0<=x/\x<256)(t:Nat)(b:t<16):0<=m.getD t 0/\m.getD t 0<256:=by
 have:=Aj a t;rw[h.at_ t b];split
 .omega
 .split<;>omega
theorem SH(v:Value)(l:List Int)(w:World)(h:Sl w v l)(S:l.length=16) :
  Calls prog 192 #[v] w λe w'=>∃ r,e=.returned (.agg (Ai r))/\Lim 67108864 r/\val r%pp=leN (DO l)%pp/\Bw w w':=by
 have T:=h;obtain⟨⟨a,Y,rfl,hc,hn,Z⟩,M,A⟩:=h;have n:Hid (∀ x∈l,0<=x/\x<256):=A;clear Z A hn M;have W:Hid (l.length=16):=S;go_enter func192,ntmps192
 go_wp2_with (refine wpList_copy_splice rfl _ _ 39 39 rfl 5 underlying39 YX _ _ _ _ _ _ rfl rfl (w.heap.size+1) 0 ((List.replicate 16 (0:Int)).map (Value.int .u8)) 284 (heap_alloc2_new _ _ _) (l.map (Value.int .u8)) (by rw[mV];exact(n8 (show l.length<=16 by omega)).symm) (λhp=>⟨rfl,(T.af (((Below.refl _ _).alloc (A' _) _).alloc (by simp) _)).src (by simpa using hp)⟩) (by rw[mV,mV,oC];omega) (Fl _) (w.heap.size+1) _ (Below.refl _ _) (A' _) ?_)
 intro F Q q;have E:F.heap[w.heap.size+1]?=some (.cells (byA l) 284 (0,0)):=by
  have R:F.heap[w.heap.size+1]?=some (.cells (splice ((List.replicate 16 (0:Int)).map (Value.int .u8)) 0 (l.map (Value.int .u8))).toArray 284 (0,0)):=Q.out;rw[Jl,S]at R
  simpa[byA]using R
 have y:Bw w F:=(((Below.refl _ _).alloc (A' _) _).alloc (by simp) _).trans (q.mono (by omega));have C:F.heap[w.heap.size]?=some (.cells (Ai [0,0,0,0,0]) 272 (0,0)):=by
  rw[q.block _ (by omega)];exact heap_alloc2_old _ _ _
 clear Q q T;go_wp2_with fail
 go_loopw [4] (λi wr=>∃ (j:Nat) (m:List Int),j<=4/\i=.int .i64 (3+4*(j:Int))/\Upper l m j/\wr.heap[w.heap.size]?=some (.cells (Ai [0,0,0,0,0]) 272 (0,0))/\wr.heap[w.heap.size+1]?=some (.cells (byA m) 284 (0,0))/\Bw w wr) (λi _=>20-(intOf i).toNat)
 case atStart=>exact⟨0,l,by omega,rfl,Upper.zero W.out,C,E,y⟩
 case round =>
  clear C E y;obtain⟨j,m,hj,rfl,c,t,f,o⟩:=hrel;have N:=c.len;by_cases J:j<4
  .have K:3+4*(j:Int)<16:=by omega
   have H:=(cell_of_row _ _ (3+4*j) _ _ _ f).trans (I9 m (3+4*j) (by omega));have fl:=frozen_of_row _ _ (3+4*j) _ _ f;have b:=c.byte n.out (3+4*j);have u:Hid (Upper l (m.set (3+4*j) (m.getD (3+4*j) 0%16)) (j+1)):=c.succ J;have d:=jP (m.getD (3+4*j) 0) b.1 b.2;generalize m.getD (3+4*j) 0=x at H u b d;clear c;go_wp2
   go_roundw
   case rel =>
    refine⟨j+1,_,by omega,by go_num,u.out,?_,GU f _ _,?_⟩
    .exact(heap_setCell_other _ _ _ _ (by simp)).trans t
    .exact o.setCell (p:=⟨w.heap.size+1,3+4*j,none⟩) (by simp) _
   case measure=>simp[intOf];omega
  .have HJ:Hid (j=4):=by unfold Hid;omega
   have K:¬ 3+4*(j:Int)<16:=by omega
   have B:Lower l m 0:=by have:=HJ.out;subst this;exact c.lower
   clear c;go_wp2_with fail
   go_loopw [5] (λi wr=>∃ (j:Nat) (m:List Int),j<=3/\i=.int .i64 (4+4*(j:Int))/\Lower l m j/\wr.heap[w.heap.size]?=some (.cells (Ai [0,0,0,0,0]) 272 (0,0))/\wr.heap[w.heap.size+1]?=some (.cells (byA m) 284 (0,0))/\Bw w wr) (λi _=>20-(intOf i).toNat)
   case atStart=>exact⟨0,m,by omega,rfl,B,t,f,o⟩
   case round =>
    clear t f o B N;obtain⟨k,m,hk,rfl,c,t,f,o⟩:=hrel;have N:=c.len;by_cases L:k<3
    .have hki:4+4*(k:Int)<16:=by omega
     have H:=(cell_of_row _ _ (4+4*k) _ _ _ f).trans (I9 m (4+4*k) (by omega));have fl:=frozen_of_row _ _ (4+4*k) _ _ f;have b:=c.byte n.out (4+4*k) (by omega);have u:Hid (Lower l (m.set (4+4*k) (m.getD (4+4*k) 0/4*4)) (k+1)):=c.succ L;have d:=gT (m.getD (4+4*k) 0) b.1 b.2;generalize m.getD (4+4*k) 0=x at H u b d;clear c;go_wp2
     go_roundw
     case rel =>
      refine⟨k+1,_,by omega,by go_num,u.out,?_,GU f _ _,?_⟩
      .exact(heap_setCell_other _ _ _ _ (by simp)).trans t
      .exact o.setCell (p:=⟨w.heap.size+1,4+4*k,none⟩) (by simp) _
     case measure=>simp[intOf];omega
    .have hki:¬ 4+4*(k:Int)<16:=by omega
     have V:Hid (k=3):=by unfold Hid;omega
     have s:m=DO l:=by have:=V.out;subst this;exact c.tH
     have s3:Sl wr (.slice (some ⟨w.heap.size+1,0,none⟩) 16 16) m:=by
      refine Sl.rowOf f N (by omega) ?_;rw[s];exact Qm n.out
     have X:Hid (m=DO l):=s;have G:Hid _:=s3;have O:w.heap.size<wr.heap.size:=(Q'.1 t).1;clear c s3 s f;go_wp2_with fail
     refine(Rr _ m _ G.out (by omega)).mono ?_;rintro e U ⟨r,rfl,P,vr,z⟩;have D:=(z.block w.heap.size O).trans t;have I:Bw w U:=o.trans (z.mono o.size);have g:=Di P.1;go_wp2_with ((with_reducible (refine As ?_));(refine wpList_store_row rfl 272 _ _ rfl (w.heap.size) _ rfl rfl 272 _ D g (by rw[Ak,Ak,P.1];rfl) (BL r) ?_))
     exact bodyPost_ret (v:=.agg (Ai r)) (results_cell_row rfl _ _ (w.heap.size) 272 _ (0,0) _ rfl (setRow_heap U (w.heap.size) _ _ 272 _ D) underlying272 rfl g) rfl ⟨r,rfl,P,by rw[vr,X.out],Bk I (A' _) _⟩
def AL(v:Int)(i:Nat):Int:=v/256^i%256
theorem Gl(v:Int)(i:Nat):0<=AL v i/\AL v i<256:=by unfold AL;omega
def leB(n:Nat)(v:Int):List Int:=(List.range n).map (AL v)
theorem D2(n:Nat)(v:Int):(leB n v).length=n:=by simp[leB]
theorem IM(n:Nat)(v:Int):∀ x∈leB n v,0<=x/\x<256:=by
 intro x a;obtain⟨j,_,rfl⟩:=mW.1 a;exact Gl v j
def FU(S:Nat->Int):Nat->Int
 | 0=>0
 | k+1=>FU S k+S k*256^k
def IA(S:Nat->Int)(k:Nat):Int:=FU S k/256^k
theorem Ms(k:Nat):(0:Int)<256^k:=Int.pow_pos (by omega)
theorem NZ(S:Nat->Int):IA S 0=0:=by simp[IA,FU]
theorem NY(S:Nat->Int)(k:Nat):IA S (k+1)=(IA S k+S k)/256:=by
 have a:=Ms k;unfold IA;rw[FU,qi,<- pT (qb a),Int.add_mul_ediv_right _ _ (Int.ne_of_gt a)]
theorem Sa(S:Nat->Int)(h:∀ j,0<=S j/\S j<1000)(k:Nat):0<=IA S k/\IA S k<256:=by
 induction k with
 | zero=>rw[NZ];omega
 | succ k ih=>rw[NY];have:=h k;omega
theorem Xf(S:Nat->Int)(k d:Nat):∃ Z,FU S (k+d)=FU S k+256^k*Z:=by
 induction d with
 | zero=>exact⟨0,by simp⟩
 | succ d ih =>
  obtain⟨Z,a⟩:=ih;refine⟨Z+S (k+d)*256^d,?_⟩;rw[<- nO,FU,a,pH]
  grind
theorem L8(v Z:Int)(n k:Nat)(h:k<n):AL (v+256^n*Z) k=AL v k:=by
 have a:=Ms k;obtain⟨d,rfl⟩:∃ d,n=k+(1+d):=⟨n-k-1,by omega⟩;unfold AL;rw[pH,pH,show(256:Int)^k*(256^1*256^d)*Z=256^k*(256*(256^d*Z))by grind,Int.add_mul_ediv_left _ _ (Int.ne_of_gt a)];omega
theorem V8(S:Nat->Int)(n k:Nat)(h:k<n):(IA S k+S k)%256=AL (FU S n) k:=by
 have b:=Ms k;obtain⟨d,rfl⟩:∃ d,n=(k+1)+d:=⟨n-(k+1),by omega⟩;obtain⟨Z,a⟩:=Xf S (k+1) d;rw[a,L8 _ _ _ _ (by omega),AL,FU,Int.add_mul_ediv_right _ _ (Int.ne_of_gt b)];rfl
theorem bz(S T:Nat->Int)(k:Nat):FU (λj=>S j+T j) k=FU S k+FU T k:=by
 induction k with
 | zero=>rfl
 | succ k ih=>simp only[FU,ih];grind
theorem bB(l:List Int)(k:Nat):FU (λj=>l.getD j 0) k=leP l k:=by
 induction k with
 | zero=>rfl
 | succ k ih=>simp only[FU,leP,ih]
theorem Ub(v:Int)(n:Nat):∃ Z,v=FU (AL v) n+256^n*Z/\Z=v/256^n:=by
 induction n with
 | zero=>exact⟨v,by simp[FU],by simp⟩
 | succ n ih =>
  obtain⟨Z,b,a⟩:=ih;refine⟨Z/256,?_,?_⟩
  .rw[FU,AL,<- a,qi];have:Z=Z%256+256*(Z/256):=by omega
   grind
  .rw[a,qi,pT (qb (Ms n))]
theorem XV(v:Int)(s:List Int)(k:Nat)(a:k<16)(b:s.length<=16) :
  (IA (λj=>AL v j+s.getD j 0) k+(AL v k+s.getD k 0))%256=AL (v+leN s) k:=by
 rw[V8 (λj=>AL v j+s.getD j 0) 16 k a,bz (AL v) (λj=>s.getD j 0),bB,Zn 16 b];obtain⟨Z,c,_⟩:=Ub v 16;have e:v+leN s=FU (AL v) 16+leN s+256^16*Z:=by omega
 rw[e,L8 _ _ _ _ a]
def Jn(v:Int)(k:Nat):List Int:=(List.range 16).map λj=>if j<k then AL v j else 0
theorem RC(v:Int)(k:Nat):(Jn v k).length=16:=by simp[Jn]
theorem Xm(v:Int):Jn v 0=List.replicate 16 0:=rfl
theorem bJ(v:Int):Jn v 16=leB 16 v:=by
 unfold Jn leB;refine qp λj a=>?_;rw[if_pos (ou.1 a)]
theorem Xl(v:Int)(k:Nat)(_hk:k<16):(Jn v k).set k (AL v k)=Jn v (k+1):=by
 apply oL (by simp[Jn]);intro j a b;rw[oM];simp only[Jn,List.getElem_map,List.getElem_range];by_cases e:k=j
 .subst e;rw[if_pos rfl,if_pos (by omega)]
 .rw[if_neg e];by_cases c:j<k
  .rw[if_pos c,if_pos (by omega)]
  .rw[if_neg c,if_neg (by omega)]
theorem Tv(a b:Int)(k:Nat)(m:Int)(d:m=2^k)(g:0<=a)(c:a<m)(h:0<=b)(i:a+b*m<18446744073709551616):bits .or .u64 a (b*m)=a+b*m:=by
 obtain⟨x,rfl⟩:=nv g;obtain⟨y,rfl⟩:=nv h;have e:(y:Int)*m=((2^k*y:Nat):Int):=by rw[d,qY,po,Int.mul_comm];rfl
 rw[e]at i ⊢
 have j:x<2^k:=by
  have:((x:Nat):Int)<((2^k:Nat):Int):=by rw[po];rw[d]at c;exact c
  omega
 have f:=pz j y;rw[u64_or_nat _ _ (by omega) (by omega),Nat.or_comm,<- f];omega
theorem jm{a b:Int}(h:a=b):Ending.returned (.int .u8 a)=.returned (.int .u8 b):=by rw[h]
theorem RZ(n:List Int)(i:Nat)(w:World)(hn:Lim 67108864 n)(z:i<16) :
  Calls prog 202 #[.agg (Ai n),.int .i64 i] w λe w'=>e=.returned (.int .u8 (AL (val n) i))/\Bw w w':=by
 obtain⟨a,b,c,d,e,rfl,⟨p,q⟩,⟨r,s⟩,⟨c1,t⟩,⟨u,v⟩,⟨x,y⟩⟩:=hn.split;have f:(w.alloc (.cells (Ai [a,b,c,d,e]) 272 (0,0))).heap[w.heap.size]?=some (.cells (Ai [a,b,c,d,e]) 272 (0,0)):=heap_alloc_new _ _;have h:=(cell_of_row _ _ 0 _ _ _ f).trans (At _ 0 (by simp));have j:=(cell_of_row _ _ 1 _ _ _ f).trans (At _ 1 (by simp));have k:=(cell_of_row _ _ 2 _ _ _ f).trans (At _ 2 (by simp));have l:=(cell_of_row _ _ 3 _ _ _ f).trans (At _ 3 (by simp));have m:=(cell_of_row _ _ 4 _ _ _ f).trans (At _ 4 (by simp));simp only[np,nF]at h j k l m;have g:Hid (val [a,b,c,d,e]=a+67108864*b+4503599627370496*c+302231454903657293676544*d+20282409603651670423947251286016*e):=Dw a b c d e;generalize Ai [a,b,c,d,e]=arr at h j k l m ⊢;generalize val [a,b,c,d,e]=V at g ⊢;clear hn f;obtain rfl|rfl|rfl|rfl|rfl|rfl|rfl|rfl|rfl|rfl|rfl|rfl|rfl|rfl|rfl|rfl:i=0\/i=1\/i=2\/i=3\/i=4\/i=5\/i=6\/i=7\/i=8\/i=9\/i=10\/i=11\/i=12\/i=13\/i=14\/i=15:=by omega
 all_goals
  go_enter func202,ntmps202
  go_wp2
  go_ret;refine⟨jm ?_,(Below.refl _ _).alloc (A' _) _⟩;have o:=g.out;clear g h j k l m;unfold AL
  first
   | rw[Tv _ _ 2 4 rfl (by omega) (by omega) (by omega) (by omega)]
   | rw[Tv _ _ 4 16 rfl (by omega) (by omega) (by omega) (by omega)]
   | rw[Tv _ _ 6 64 rfl (by omega) (by omega) (by omega) (by omega)]
   | skip
  subst o;simp only[Int.reducePow];omega
theorem NJ{P:Program}{d:Nat}{ops:Array Oper}{K:Act->World->Prop}{Q:Exit->Act->World->Prop}{a:Act}(R:World->Prop){A:Act}(c:∀ K':Act->World->Prop,Hid (∀ W2,R W2->K' A W2)->(Code.region d ops true).wp P (Exit.then K' Q) a w)(b:∀ W2,R W2->K A W2):(Code.region d ops true).wp P (Exit.then K Q) a w:=c K b
theorem PP(nl:List Int)(v:Value)(s:List Int)(w:World)(h:Sl w v s)(Z:s.length=16)(hn:Lim 67108864 nl) :
  Calls prog 190 #[.agg (Ai nl),v] w λe w'=>∃ v',e=.returned v'/\Sl w' v' (leB 16 (val nl+leN s))/\Bw w w':=by
 obtain⟨⟨a,a3,rfl,hc,a1,O⟩,a0,r⟩:=h;rcases O with rfl|⟨B,off,rfl,hB,hcell⟩
 .simp at Z
 have HC:Hid (∀ i,i<16->w.cell? ⟨B,off+i,none⟩=some (.int .u8 (s.getD i 0))):=λi hi=>hcell i (by omega);have n:Hid (∀ x∈s,0<=x/\x<256):=r;have o:Hid (s.length=16):=Z;rw[Z]at hc ⊢
 clear hcell r a1 a0;obtain⟨J,K,L,M,N,rfl,_⟩:=hn.split;obtain⟨V,X⟩:∃ V,val [J,K,L,M,N]=V:=⟨_,rfl⟩;have HV:Hid (val [J,K,L,M,N]=V):=X;rw[X];clear X;obtain⟨i0,z,A,C,D⟩:=info_parts Aw;go_enter func190,ntmps190
 go_wp2_with (at_make;refine wpList_make_row _ rfl _ _ 39 rfl 5 i0 (.int .u8 0) underlying39 z A C rfl _ _ 16 rfl rfl (by rw[D];omega) (by omega) ?_)
 clear z A C D
 go_loopw [6,11] (λcv i wr=>∃ (k:Nat),k<=16/\i=.int .i64 k/\cv=.int .i64 (IA (λj=>AL V j+s.getD j 0) k)/\wr.heap[w.heap.size]?=some (.cells (Ai [J,K,L,M,N]) 272 (0,0))/\wr.heap[w.heap.size+1]?=some (.cells (byA (Jn (V+leN s) k)) 5 (0,0))/\Bw w wr) (λ_ i _=>16-(intOf i).toNat)
 case atStart =>
  refine⟨0,by omega,rfl,by rw[NZ],?_,?_,?_⟩
  .exact heap_alloc2_old _ _ _
  .have e:madeCells #[Value.int .u8 0] 16=byA (Jn (V+leN s) 0):=by rw[Xm];kernel_rfl
   rw[e];exact heap_alloc2_new _ _ _
  .exact((Below.refl _ _).alloc (A' _) _).alloc (by simp) _
 case round =>
  obtain⟨k,hk,rfl,rfl,f,g,P⟩:=hrel;by_cases b:k<16
  .have hki:(k:Int)<16:=by omega
   have E:=(cell_of_row _ _ 0 _ _ _ f).trans (At _ 0 (by simp));have F:=(cell_of_row _ _ 1 _ _ _ f).trans (At _ 1 (by simp));have G:=(cell_of_row _ _ 2 _ _ _ f).trans (At _ 2 (by simp));have H:=(cell_of_row _ _ 3 _ _ _ f).trans (At _ 3 (by simp));have I:=(cell_of_row _ _ 4 _ _ _ f).trans (At _ 4 (by simp));simp only[np,nF]at E F G H I;have a2:w.heap.size+1<wr.heap.size:=(Q'.1 g).1;have U:B<wr.heap.size:=by omega
   have ch:=(P.cell (p:=⟨B,off+k,none⟩) hB).trans (HC.out k b);have t:∀ j,0<=AL V j+s.getD j 0/\AL V j+s.getD j 0<1000:=λj=>by
    have R:=Gl V j;have S:=Aj n.out j;omega
   have u:=Sa (λj=>AL V j+s.getD j 0) t k;have d:Hid (IA (λj=>AL V j+s.getD j 0) (k+1)=(IA (λj=>AL V j+s.getD j 0) k+(AL V k+s.getD k 0))/256):=NY _ k;have c:Hid ((IA (λj=>AL V j+s.getD j 0) k+(AL V k+s.getD k 0))%256=AL (V+leN s) k):=XV V s k b (by rw[o.out];omega);have R:=Gl V k;have S:=Aj n.out k;have l:=RZ [J,K,L,M,N] k;rw[HV.out]at l
   have m:Hid (∀ W,Calls prog 202 #[.agg (Ai [J,K,L,M,N]),.int .i64 k] W λe w'=>e=.returned (.int .u8 (AL V k))/\Bw W w'):=λW=>l W hn b;have HT:Hid _:=g;have HR:Hid _:=f;have HB:Hid _:=P;clear l t g f P;have a5:=RC (V+leN s) k;have Q:Hid ((Jn (V+leN s) k).set k (AL (V+leN s) k)=Jn (V+leN s) (k+1)):=Xl _ k b;generalize IA (λj=>AL V j+s.getD j 0) k=cy at d c u;generalize AL V k=x at d c R m;generalize s.getD k 0=y at d c S ch;obtain⟨x1,x2⟩:=R;obtain⟨y1,y2⟩:=S;obtain⟨z1,z2⟩:=u;go_wp2_with fail
   apply NJ (λW=>Bw wr W)
   .intro K2 HK2
    go_region_with (go_at_call 202;refine(m.out _).mono ?_;rintro e w2 ⟨rfl,q⟩;have a4:=(q.cell (p:=⟨B,off+k,none⟩) U).trans ch)
    all_goals exact HK2.out _ ((Below.refl _ _).drew.trans q)
   intro W Y;have g:=(Y.block _ a2).trans HT.out;have f:=(Y.block _ (by omega)).trans HR.out;have ct:=(cell_of_row _ _ k _ _ _ g).trans (I9 _ k (by omega));have ft:=frozen_of_row _ _ k _ _ g;have T:Bw w W:=HB.out.trans (Y.mono HB.out.size);clear E F G H I ch;generalize (Jn (V+leN s) k).getD k 0=c0 at ct;go_wp2
   go_roundw
   case rel =>
    refine⟨k+1,by omega,by go_num,?_,?_,?_,?_⟩
    .rw[d.out]
    .exact(heap_setCell_other _ _ _ _ (by simp)).trans f
    .have O:=GU g k (AL (V+leN s) k);rw[Q.out,<- c.out]at O
     exact O
    .exact T.setCell (p:=⟨w.heap.size+1,k,none⟩) (by simp) _
   case measure=>simp[intOf];omega
  .have hki:¬ (k:Int)<16:=by omega
   have HK:Hid (k=16):=by unfold Hid;omega
   go_wp2
   go_ret;have hK:=HK.out;subst hK;rw[bJ]at g
   exact⟨_,rfl,Sl.rowOf g (D2 _ _) (by rw[D2];omega) (IM _ _),P⟩
def Xj(key data:List Int):List Int:=leB 16 (gG (leN (DO (key.take 16))) data+leN (key.drop 16))
theorem RA(key a:List Int):(Xj key a).length=16:=D2 _ _
theorem Xk(key a:List Int):∀ x∈Xj key a,0<=x/\x<256:=IM _ _
theorem Sl.sN(h:Sl w v l):∃ a c,v=.slice a l.length c:=by
 obtain⟨⟨a,b,e,_⟩,_⟩:=h;exact⟨a,b,e⟩
theorem j4(r q:Value)(key a:List Int)(w:World)(g:Sl w r key)(m:Sl w q a)(lk:key.length=32)(ld:a.length<=4000) :
  Calls prog 179 #[r,q] w λe w'=>∃ v',e=.returned (.tuple #[v',.int .i64 0])/\Sl w' v' (Xj key a)/\Bw w w':=by
 obtain⟨k,l,rfl⟩:=g.sN;obtain⟨ad,I,rfl⟩:=m.sN;rw[lk]at g ⊢
 obtain⟨s,c1,c,o⟩:=g.ov 16 (by omega);obtain⟨t,u,d,p⟩:=g.from 16 (by omega);have v:∀ W,(Instr.slice 39 (.slice k 32 l) none (some (.int .i64 16)) none).run prog W=.ok (.slice s 16 c1) W:=c;have x:∀ W,(Instr.slice 39 (.slice k 32 l) (some (.int .i64 16)) none none).run prog W=.ok (.slice t 16 u) W:=d;clear c d;have lt:(key.take 16).length=16:=by rw[X'];omega
 have n:(key.drop 16).length=16:=by rw[mM];omega
 have A:¬ (4000:Int)<(a.length:Int):=by omega
 have h:Hid (Xj key a=leB 16 (gG (leN (DO (key.take 16))) a+leN (key.drop 16))):=rfl;generalize key.take 16=K1 at o lt h;generalize key.drop 16=K2 at p n h;clear g lk;have j:Hid (a.length<=4000):=ld;go_enter func179,ntmps179
 go_wp2_with fail
 go_region_with (first
  | (go_at_call 192;refine(SH _ K1 _ (o.af ((Below.refl _ _).drew)) lt).mono ?_;rintro e J ⟨C,rfl,y,E,b⟩)
  | (go_at_call 191;refine(Pj C (leN (DO K1)) _ a _ (m.af ((Below.refl _ _).drew.trans b)) j.out y E).mono ?_;rintro e H ⟨B,rfl,z,F,f⟩)
  | (go_at_call 190;refine(PP B _ K2 _ (p.af (((Below.refl _ _).drew.trans b).trans (f.mono b.size))) n z).mono ?_;rintro e K ⟨G,rfl,D,i⟩))
 all_goals
  go_wp2
  go_ret2
  refine⟨G,rfl,?_,?_⟩
  .rw[h.out,<- F];exact D
  .have b3:Bw w H:=((Below.refl _ _).drew.trans b).trans (f.mono b.size);exact b3.trans (i.mono b3.size)
def gap(n:Nat):Nat:=(16-n%16)%16
def E8(l:List Int):List Int:=l++List.replicate (gap l.length) 0
theorem EI(l:List Int):(E8 l).length=l.length+gap l.length:=by rw[E8,H',oC]
theorem Il(n:Nat):gap n<16:=by unfold gap;omega
theorem UI(n:Nat):(n+gap n)%16=0:=by unfold gap;omega
theorem VU(n j:Nat)(h:j<gap n):¬ (n+j)%16=0:=by unfold gap at h;omega
theorem dD(n m:Nat)(h:n%16=0):gap (n+m)=gap m:=by unfold gap;omega
theorem O4(h:∀ x∈l,0<=x/\x<256):∀ x∈E8 l,0<=x/\x<256:=by
 intro x a;rcases U'.1 a with h1|h1
 .exact h x h1
 .rw[(pK.1 h1).2];omega
theorem ZT(a s:List Int):E8 (E8 a++s)=E8 a++E8 s:=by
 have h:(E8 a).length%16=0:=by rw[EI];exact UI _
 rw[E8,H',dD _ _ h,mH];rfl
theorem Zm(k:Nat)(v:Int):leB (k+1) v=leB k v++[AL v k]:=by
 simp[leB,List.range_succ]
def Gz(a s:List Int):List Int:=E8 a++E8 s++leB 8 (a.length:Int)++leB 8 (s.length:Int)
theorem IL(a s:List Int):(Gz a s).length=a.length+gap a.length+(s.length+gap s.length)+8+8:=by
 simp only[Gz,H',EI,D2]
theorem SZ{s:List Int}(b:∀ x∈a,0<=x/\x<256)(c:∀ x∈s,0<=x/\x<256):∀ x∈Gz a s,0<=x/\x<256:=by
 intro x hx;rcases U'.1 hx with hx|hx
 .rcases U'.1 hx with hx|hx
  .rcases U'.1 hx with hx|hx
   .exact O4 b x hx
   .exact O4 c x hx
  .exact IM _ _ x hx
 .exact IM _ _ x hx
def E3(key nonce a s:List Int):List Int:=Xj ((CN (Cd key (BitVec.ofNat 32 0) nonce)).take 32) (Gz a s)
theorem Jm(key b a s:List Int):(E3 key b a s).length=16:=RA _ _
theorem MJ(key b a s:List Int):∀ x∈E3 key b a s,0<=x/\x<256:=Xk _ _
def EN(key nonce p:List Int):List Int:=QP (Cd key (BitVec.ofNat 32 1) nonce) p
theorem FS(key a p:List Int):(EN key a p).length=p.length:=QQ _ _
def KA(key nonce a p:List Int):List Int:=EN key nonce p++E3 key nonce a (EN key nonce p)
theorem Jj(key b a p:List Int):(KA key b a p).length=p.length+16:=by
 rw[KA,H',FS,Jm]
theorem KB(v:Value)(l:List Int)(B:Nat)(w:World)(p:w.ownsRow B 5 1 v l.length (l.map (Value.int .u8)))(D:B<=w.heap.size)(I:l.length<=100000) :
  Calls prog 193 #[v] w λe w'=>∃ v',e=.returned v'/\w'.ownsRow B 5 1 v' (E8 l).length ((E8 l).map (Value.int .u8))/\Below B w w':=by
 have r:Hid (E8 l=l++List.replicate (gap l.length) 0):=rfl;have E:=Il l.length;have s:Hid (∀ j,j<gap l.length->¬ (l.length+j)%16=0):=λj x=>VU _ _ x;have q:Hid ((l.length+gap l.length)%16=0):=UI _;obtain⟨a0,c0,rfl⟩:=EH p;generalize gap l.length=G at r E s q;go_enter func193,ntmps193
 go_wp2_with fail
 go_loopw [0] (λv wr=>∃ (j:Nat) (a:Option Addr) (f:Nat),j<=G/\v=.slice a (l.length+j) f/\wr.ownsRow B 5 1 v (l++List.replicate j 0).length ((l++List.replicate j 0).map (Value.int .u8))/\Below B w wr) (λv _=>l.length+G-Zq v)
 case atStart=>exact⟨0,a0,c0,by omega,rfl,by simpa using p,Below.refl _ _⟩
 case round =>
  clear p;obtain⟨j,a,f,x,rfl,b,d⟩:=hrel;have h:=b.lt;by_cases o:j<G
  .have t:=s.out j o;have u:¬ ((l.length:Int)+j)%16=0:=by omega
   go_wp2_with (at_builtin;refine Aa _ rfl _ _ 39 rfl B 5 underlying39 Aw _ _ rfl rfl (l++List.replicate j 0) [0] (b.alloc _) (Sl.one _ _ _ rfl (by omega)) (by simp;omega) (by have:=d.size;simp;omega) ?_)
   intro H y i g;have c:y.ownsRow B 5 1 H (l++List.replicate (j+1) 0).length ((l++List.replicate (j+1) 0).map (Value.int .u8)):=by rw[<- MC];simpa using i
   have n:Below B w y:=(d.alloc (mF D d.size) _).grown g (by have:=d.size;simp;omega) (λk F=>(h k F).1);obtain⟨z,A,m⟩:=EH c;rw[H',oC]at m
   subst m;clear i g b h d t u;go_wp2
   go_roundw
   case rel=>exact⟨j+1,z,A,by omega,rfl,c,n⟩
   case measure=>simp[Zq];omega
  .have HJ:Hid (G=j):=by unfold Hid;omega
   have C:=q.out;have t:((l.length:Int)+j)%16=0:=by have:=HJ.out;omega
   have u:(((l.length:Int)+j)%16 != 0)=false:=by simp;omega
   clear C;go_wp2
   go_ret;refine⟨_,rfl,?_,d⟩;rw[r.out,HJ.out];exact b
theorem GP(v:Value)(l:List Int)(n:Nat)(B:Nat)(w:World)(r:w.ownsRow B 5 1 v l.length (l.map (Value.int .u8)))(A:B<=w.heap.size)(G:l.length<=100000)(hn:n<=100000) :
  Calls prog 194 #[v,.int .i64 n] w λe w'=>∃ v',e=.returned v'/\w'.ownsRow B 5 1 v' (l++leB 8 (n:Int)).length ((l++leB 8 (n:Int)).map (Value.int .u8))/\Below B w w':=by
 go_enter func194,ntmps194
 go_wp2_with fail
 go_loopw [0,1,5] (λv s i wr=>∃ k:Nat,k<=8/\i=.int .i64 k/\s=.int .i64 ((n:Int)/256^k)/\wr.ownsRow B 5 1 v (l++leB k (n:Int)).length ((l++leB k (n:Int)).map (Value.int .u8))/\Below B w wr) (λ_ _ i _=>8-(intOf i).toNat)
 case atStart=>exact⟨0,by omega,rfl,by simp,by simpa[leB]using r,Below.refl _ _⟩
 case round =>
  clear r;obtain⟨k,q,rfl,rfl,a,c⟩:=hrel;have h:=a.lt;by_cases C:k<8
  .have hki:(k:Int)<8:=by omega
   obtain⟨x,d⟩:∃ x:Int,(n:Int)/256^k=x:=⟨_,rfl⟩;have t:(0:Int)<256^k:=Ms k;have D:0<=x:=by rw[<- d];exact Int.ediv_nonneg (by omega) (by omega)
   have E:x<=100000:=by rw[<- d];have:=Int.ediv_le_self (256^k) (show(0:Int)<=n by omega);omega
   have z:Hid ((n:Int)/256^(k+1)=x/256):=by unfold Hid;rw[qi,<- pT (qb t),d]
   have b:Hid (x%256=AL n k):=by unfold Hid AL;rw[d]
   have g:=D2 k (n:Int);have o:Hid (leB (k+1) (n:Int)=leB k n++[AL n k]):=Zm k _;rw[d];clear d t;generalize leB k (n:Int)=pre at a o g;generalize AL (n:Int) k=y at b o;go_wp2_with (at_builtin;refine Aa _ rfl _ _ 39 rfl B 5 underlying39 Aw _ _ rfl rfl (l++pre) [y] (a.alloc _) (Sl.sZ _ _ _ _ rfl ?_ ?_) (by simp;omega) (by have:=c.size;simp;omega) ?_)
   .have:=b.out;omega
   .have:=b.out;omega
   intro F u j f;have m:u.ownsRow B 5 1 F (l++(pre++[y])).length ((l++(pre++[y])).map (Value.int .u8)):=by rw[<- mH];simpa[g]using j
   have p:Below B w u:=(c.alloc (mF A c.size) _).grown f (by have:=c.size;simp;omega) (λk q=>(h k q).1);clear j f a h c;go_wp2
   go_roundw
   case rel=>exact⟨k+1,by omega,by go_num,by rw[z.out],by rw[o.out];exact m,p⟩
   case measure=>simp[intOf];omega
  .obtain rfl:k=8:=by omega
   go_wp2
   go_ret;exact⟨_,rfl,a,c⟩
theorem Zj(O vs:Value)(a s:List Int)(w:World)(z:Sl w O a)(B:Sl w vs s)(T:a.length<=10000)(ls:s.length<=10000) :
  Calls prog 180 #[O,vs] w λe w'=>∃ v',e=.returned v'/\Sl w' v' (Gz a s)/\Bw w w':=by
 have f:Hid (Gz a s=E8 (E8 a++s)++leB 8 (a.length:Int)++leB 8 (s.length:Int)):=by unfold Hid;rw[ZT];rfl
 have Q:Hid (∀ x∈Gz a s,0<=x/\x<256):=SZ z.byte B.byte;have P:Hid ((Gz a s).length<=30000):=by unfold Hid;rw[IL];have:=Il a.length;have:=Il s.length;omega
 have H:(E8 a).length<=11000:=by rw[EI];have:=Il a.length;omega
 have i:(E8 (E8 a++s)).length<=30000:=by rw[EI,H'];have:=Il ((E8 a).length+s.length);omega
 obtain⟨Z,ca,rfl⟩:=z.shape;obtain⟨R,cs,rfl⟩:=B.shape;generalize L:a.length=n at T f z ⊢;generalize K:s.length=m at ls f B ⊢;have l:Hid (a.length=n):=L;have j:Hid (s.length=m):=K;clear L K;go_enter func180,ntmps180
 go_wp2_with (at_builtin;refine Aa _ rfl _ _ 39 rfl w.heap.size 5 underlying39 Aw _ _ rfl rfl [] a (World.ownsRow_nil _ _ _ _) z (by have:=l.out;simp;omega) (A' _) ?_)
 intro M I c p;have C:Bw w I:=(Below.refl _ _).grown p (A' _) (by simp[Value.ownBlock]);replace c:I.ownsRow w.heap.size 5 1 M a.length (a.map (Value.int .u8)):=by simpa using c
 clear p;go_wp2_with fail
 refine(KB M a w.heap.size I c C.size (by have:=l.out;omega)).mono ?_;rintro e w2 ⟨v2,rfl,d,g⟩;replace g:=C.trans g;clear c C;have v:=B.af g;have r:=d.lt;generalize E8 a=A at f H i d;go_wp2_with (at_builtin;refine Aa _ rfl _ _ 39 rfl w.heap.size 5 underlying39 Aw _ _ rfl rfl A s d v (by have:=j.out;omega) g.size ?_)
 intro N J b q;have D:Bw w J:=g.grown q g.size (λk S=>(r k S).1);clear q r d g v;replace b:J.ownsRow w.heap.size 5 1 N (A++s).length ((A++s).map (Value.int .u8)):=by simpa using b
 have F:(A++s).length<=21000:=by rw[H'];have:=j.out;omega
 generalize A++s=AS at f i b F;go_wp2_with fail
 refine(KB N AS w.heap.size J b D.size (by omega)).mono ?_;rintro e W ⟨U,rfl,h,o⟩;replace o:=D.trans o;clear b D;generalize E8 AS=X at f i h;go_wp2_with fail
 refine(GP U X n w.heap.size W h o.size (by omega) (by omega)).mono ?_;rintro e Y ⟨V,rfl,t,y⟩;replace y:=o.trans y;have G:(X++leB 8 (n:Int)).length<=30008:=by rw[H',D2];omega
 clear h o;generalize X++leB 8 (n:Int)=X5 at f G t;go_wp2_with fail
 refine(GP V X5 m w.heap.size Y t y.size (by omega) (by omega)).mono ?_;rintro e w6 ⟨v6,rfl,u,E⟩;replace E:=y.trans E;rw[<- f.out]at u
 go_wp2
 go_ret;exact⟨_,rfl,Sl.lz u (by have:=P.out;omega) Q.out,E⟩
def Hk(key nonce a:List Int):Bool:=decide (key.length=32)&&decide (nonce.length=12)&&decide (a.length<=256)
theorem Ha(g h f:Value)(key b a:List Int)(w:World)(d:Sl w g key)(hn:Sl w h b)(c:Sl w f a) :
  Calls prog 151 #[g,h,f] w λe w'=>e=.returned (.bool (Hk key b a))/\w'=w:=by
 have i:=d.len;have j:=hn.len;have k:=c.len;obtain⟨m,p,rfl⟩:=d.shape;obtain⟨n,q,rfl⟩:=hn.shape;obtain⟨l,o,rfl⟩:=c.shape;unfold Hk;generalize key.length=n1 at i d ⊢;generalize b.length=n2 at j hn ⊢;generalize a.length=n3 at k c ⊢;clear d hn c;by_cases c1:(n1:Int)=32
 .by_cases c2:(n2:Int)=12
  .by_cases c3:(n3:Int)<=256
   .go_enter func151,ntmps151
    go_wp2
    go_ret;refine⟨Am ?_,rfl⟩;simp;omega
   .go_enter func151,ntmps151
    go_wp2
    go_ret;refine⟨Am ?_,rfl⟩;simp;omega
  .go_enter func151,ntmps151
   go_wp2
   go_ret;refine⟨Am ?_,rfl⟩;simp;omega
 .go_enter func151,ntmps151
  go_wp2
  go_ret;refine⟨Am ?_,rfl⟩;simp;omega
theorem XS(b d:Value)(key a:List Int)(x:Int)(c:Nat)(i:x=(c:Int))(w:World)(g:Sl w b key)(hn:Sl w d a)(lk:key.length=32)(j:a.length=12)(f:c<=1073741824)(h:CW w) :
  Calls prog 178 #[b,.int .i64 x,d] w λe w'=>∃ v',e=.returned (.tuple #[v',.int .i64 0])/\Got w w' v' (CN (Cd key (BitVec.ofNat 32 c) a)):=by
 subst i;exact XT b d key a c w g hn lk j f h
theorem PI(u v C vs:Value)(key b a s:List Int)(w:World)(y:Sl w u key)(hn:Sl w v b)(x:Sl w C a)(z:Sl w vs s)(lk:key.length=32)(A:b.length=12)(I:a.length<=256)(ls:s.length<=2000)(H:CW w) :
  Calls prog 153 #[u,v,C,vs] w λe w'=>∃ v',e=.returned (.tuple #[v',.int .i64 0])/\Sl w' v' (E3 key b a s)/\Bw w w':=by
 have o:Hid (E3 key b a s=Xj ((CN (Cd key (BitVec.ofNat 32 0) b)).take 32) (Gz a s)):=rfl;have g:(Gz a s).length<=4000:=by rw[IL];have:=Il a.length;have:=Il s.length;omega
 go_enter func153,ntmps153
 go_wp2_with fail
 refine(XS u v key b 0 0 rfl w y hn lk A (by omega) H).mono ?_;rintro e P ⟨O,rfl,p⟩;have j:=p.sl;have k:=p.rI;clear p;have d:=EU (Cd key (BitVec.ofNat 32 0) b);generalize CN (Cd key (BitVec.ofNat 32 0) b)=bs at o j d;obtain⟨E,F,rfl⟩:=j.shape;rw[d]at j ⊢
 obtain⟨D,c1,c,B⟩:=j.ov 32 (by omega);have G:∀ W,(Instr.slice 39 (.slice E 64 F) none (some (.int .i64 32)) none).run prog W=.ok (.slice D 32 c1) W:=c;have lt:(bs.take 32).length=32:=by rw[X'];omega
 generalize bs.take 32=K at o B lt;have q:=x.af k;have t:=z.af k;clear c j d;have h:a.length<=10000:=by omega
 have i:s.length<=10000:=by omega
 have l:Hid (a.length<=10000):=h;have n:Hid (s.length<=10000):=i;have m:Hid ((Gz a s).length<=4000):=g;clear I ls h i g y hn x z lk A;go_wp2_with fail
 go_region_with (first
  | (go_at_call 180;refine(Zj _ _ a s _ (q.af ((Below.refl _ _).drew)) (t.af ((Below.refl _ _).drew)) l.out n.out).mono ?_;rintro e M ⟨N,rfl,J,f⟩)
  | (go_at_call 179;refine(j4 _ _ K _ _ (B.af ((Below.refl _ _).drew.trans f)) J lt m.out).mono ?_;rintro e Q ⟨L,rfl,s3,r⟩))
 all_goals
  go_wp2
  go_ret2
  refine⟨L,rfl,?_,?_⟩
  .rw[o.out];exact s3
  .have b2:Bw w M:=k.trans (((Below.refl _ _).drew.trans f).mono k.size);exact b2.trans (r.mono b2.size)
theorem QO(c f b:Value)(key a d:List Int)(w:World)(h:Sl w c key)(hn:Sl w f a)(g:Sl w b d)(lk:key.length=32)(j:a.length=12)(ld:d.length<=2000)(i:CW w) :
  Calls prog 152 #[c,.int .i64 1,f,b] w λe w'=>∃ v',e=.returned (.tuple #[v',.int .i64 0])/\w'.ownsRow w.heap.size 5 1 v' (EN key a d).length ((EN key a d).map (Value.int .u8))/\Bw w w' :=
 ef c f b key a d 1 w h hn g lk j (by omega) ld i
theorem FM{b:World}{a e:Nat}{n:Nat}{xs:List Value}(h:w.ownsRow a e 1 v n xs)(c:Bw w b):b.ownsRow a e 1 v n xs :=
 Fq h λk d=>c.block k (h.lt k d).2
theorem JD(h:Hk key nonce a=true):key.length=32/\nonce.length=12/\a.length<=256:=by
 unfold Hk at h;simp at h;omega
theorem fm(o q u J:Value)(key b a p:List Int)(w:World)(i:Sl w o key)(hn:Sl w q b)(z:Sl w u a)(s:Sl w J p)(D:Hk key b a=true)(S:p.length<=2000)(C:CW w) :
  Calls prog 120 #[o,q,u,J] w λe w'=>∃ v',e=.returned (.tuple #[v',.int .i64 0])/\Sl w' v' (KA key b a p)/\Bw w w':=by
 obtain⟨lk,E,R⟩:=JD D;have j:=C.pos;have v:Hid (KA key b a p=EN key b p++E3 key b a (EN key b p)):=rfl;have n:=FS key b p;have g:∀ x∈EN key b p,0<=x/\x<256:=JI _ s.byte;have P:¬ (2000:Int)<(p.length:Int):=by omega
 obtain⟨ap,V,rfl⟩:=s.shape;go_enter func120,ntmps120
 go_wp2_with fail
 refine(Ha o q u key b a w i hn z).mono ?_;rintro e r ⟨rfl,rfl⟩;rw[D];go_wp2_with fail
 refine(QO o q _ key b p r i hn s lk E S C).mono ?_;rintro e L ⟨K,rfl,t,c⟩;generalize EN key b p=X at v n g t;have G:Sl L K X:=Sl.lz t (by omega) g;go_wp2_with fail
 refine(PI o q u K key b a X L (i.af c) (hn.af c) (z.af c) G lk E R (by omega) (C.af j c)).mono ?_;rintro e U ⟨W,rfl,H,y⟩;have F:=FM t y;have B:=F.lt;have d:Bw r U:=c.trans (y.mono c.size);have m:=Jm key b a X;have l:=MJ key b a X;generalize E3 key b a X=T at v H m l;have O:X.length<=2000:=by omega
 clear n t G c y i hn z s;go_wp2_with (at_builtin;refine Aa _ rfl _ _ 39 rfl r.heap.size 5 underlying39 Aw _ _ rfl rfl X T F H (by omega) d.size ?_)
 intro I M f A;replace f:M.ownsRow r.heap.size 5 1 I (X++T).length ((X++T).map (Value.int .u8)):=by simpa[m]using f
 have N:Bw r M:=d.grown A d.size (λk i=>(B k i).1);go_wp2
 go_ret2
 refine⟨I,rfl,?_,N⟩;rw[v.out];refine Sl.lz f (by rw[H'];omega) ?_;intro x Q;rcases U'.1 Q with h|h
 .exact g x h
 .exact l x h
def Et(key nonce a d:List Int):Int :=
 if Hk key nonce a=true/\d.length<=2016 then(if d.length<16 then 13 else if E3 key nonce a (d.take (d.length-16))=d.drop (d.length-16)then 0 else 6)else 1
def Rb(key nonce a d:List Int):List Int:=if Et key nonce a d=0 then EN key nonce (d.take (d.length-16))else[]
theorem ez(g i f n:Value)(key b a d:List Int)(w:World)(m:Sl w g key)(hn:Sl w i b)(k:Sl w f a)(l:Sl w n d)(j:Hk key b a=false\/2016<d.length) :
  Calls prog 198 #[g,i,f,n] w λe w'=>e=.returned (.tuple #[.slice none 0 0,.int .i64 1])/\w'=w:=by
 have q:=l.len;obtain⟨ap,p,rfl⟩:=l.shape;by_cases c:Hk key b a=true
 .have hpl:(2016:Int)<(d.length:Int):=by
   rcases j with h|h
   .rw[c]at h;cases h
   .omega
  go_enter func198,ntmps198
  go_wp2_with fail
  refine(Ha g i f key b a w m hn k).mono ?_;rintro e o ⟨rfl,rfl⟩;rw[c];go_wp2
  go_ret2
  exact⟨rfl,rfl⟩
 .rw[Bool.not_eq_true]at c
  go_enter func198,ntmps198
  go_wp2_with fail
  refine(Ha g i f key b a w m hn k).mono ?_;rintro e o ⟨rfl,rfl⟩;rw[c];go_wp2
  go_ret2
  exact⟨rfl,rfl⟩
theorem Tu(f g c h:Value)(key b a d:List Int)(w:World)(l:Sl w f key)(hn:Sl w g b)(i:Sl w c a)(j:Sl w h d)(k:Hk key b a=true)(o:d.length<16) :
  Calls prog 198 #[f,g,c,h] w λe w'=>e=.returned (.tuple #[.slice none 0 0,.int .i64 13])/\w'=w:=by
 obtain⟨ap,n,rfl⟩:=j.shape;have m:(d.length:Int)<16:=by omega
 go_enter func198,ntmps198
 go_wp2_with fail
 refine(Ha f g c key b a w l hn i).mono ?_;rintro e p ⟨rfl,rfl⟩;rw[k];go_wp2
 go_ret2
 exact⟨rfl,rfl⟩
theorem ZO(q r p G:Value)(key b a d:List Int)(w:World)(l:Sl w q key)(hn:Sl w r b)(k:Sl w p a)(f:Sl w G d)(C:Hk key b a=true)(m:Nat)(E:d.length=m+16)(U:m<=2000)(n:CW w)(F:E3 key b a (d.take m)≠d.drop m) :
  Calls prog 198 #[q,r,p,G] w λe w'=>e=.returned (.tuple #[.slice none 0 0,.int .i64 6])/\Bw w w':=by
 obtain⟨lk,M,K⟩:=JD C;have h:=n.pos;have i:=f.byte;obtain⟨ad,T,rfl⟩:=f.shape;rw[E]at f ⊢
 obtain⟨Q,c1,z,o⟩:=f.ov m (by omega);obtain⟨R,S,g,j⟩:=f.from m (by omega);rw[Nat.add_sub_cancel_left]at g j
 have A:(d.take m).length=m:=by rw[X'];omega
 have P:∀ x∈d.take m,0<=x/\x<256:=λx J=>i x (mT J);have v:Hid (E3 key b a (d.take m)≠d.drop m):=F;clear F;generalize d.take m=D at o A P v ⊢;generalize d.drop m=L at j v;have u:Hid (D.length=m):=A;clear f E i A;go_enter func198,ntmps198
 go_wp2_with fail
 refine(Ha q r p key b a w l hn k).mono ?_;rintro e s ⟨rfl,rfl⟩;rw[C];go_wp2_with fail
 go_quiet (fail)
 have c:Bw s (s.drewN nq):=Ap (Below.refl _ _) nq;generalize s.drewN nq=w1 at c ⊢;replace l:=l.af c;replace hn:=hn.af c;replace k:=k.af c;replace o:=o.af c;replace j:=j.af c;replace n:=n.af h c;clear z g;go_wp2_with fail
 refine(PI q r p _ key b a D w1 l hn k o lk M K (by have:=u.out;omega) n).mono ?_;rintro e t ⟨O,rfl,N,y⟩;go_wp2_with fail
 refine(Ji O _ (E3 key b a D) L t N (j.af y)).mono ?_;rintro e V ⟨rfl,B,rfl⟩;have H:Bw t (t.drewN B):=Ap (Below.refl _ _) B;have I:Bw s (t.drewN B):=c.trans ((y.trans (H.mono y.size)).mono c.size);rw[D' v.out];go_wp2
 go_ret2
 exact⟨rfl,I⟩
theorem eA(v y A O:Value)(key b a d:List Int)(w:World)(f:Sl w v key)(hn:Sl w y b)(q:Sl w A a)(l:Sl w O d)(H:Hk key b a=true)(m:Nat)(I:d.length=m+16)(hl:m<=2000)(h:CW w)(J:E3 key b a (d.take m)=d.drop m) :
  Calls prog 198 #[v,y,A,O] w λe w'=>∃ v',e=.returned (.tuple #[v',.int .i64 0])/\Sl w' v' (EN key b (d.take m))/\Bw w w':=by
 obtain⟨lk,K,X⟩:=JD H;have g:=h.pos;have t:=l.byte;obtain⟨ad,cd,rfl⟩:=l.shape;rw[I]at l ⊢
 obtain⟨a1,c1,F,i⟩:=l.ov m (by omega);obtain⟨a2,c2,r,n⟩:=l.from m (by omega);rw[Nat.add_sub_cancel_left]at r n
 have G:(d.take m).length=m:=by rw[X'];omega
 have S:∀ x∈d.take m,0<=x/\x<256:=λx V=>t x (mT V);have B:Hid (E3 key b a (d.take m)=d.drop m):=J;clear J;generalize d.take m=D at i G S B ⊢;generalize d.drop m=L at n B;have j:Hid (D.length=m):=G;clear l I t G;go_enter func198,ntmps198
 go_wp2_with fail
 refine(Ha v y A key b a w f hn q).mono ?_;rintro e z ⟨rfl,rfl⟩;rw[H];go_wp2_with fail
 go_quiet (fail)
 have c:Bw z (z.drewN nq):=Ap (Below.refl _ _) nq;generalize z.drewN nq=w1 at c ⊢;replace f:=f.af c;replace hn:=hn.af c;replace q:=q.af c;replace i:=i.af c;replace n:=n.af c;replace h:=h.af g c;clear F r;go_wp2_with fail
 refine(PI v y A _ key b a D w1 f hn q i lk K X (by have:=j.out;omega) h).mono ?_;rintro e o ⟨Z,rfl,N,k⟩;go_wp2_with fail
 refine(Ji Z _ (E3 key b a D) L o N (n.af k)).mono ?_;rintro e Q ⟨rfl,u,rfl⟩;have C:Bw o (o.drewN u):=Ap (Below.refl _ _) u;have E:Bw z (o.drewN u):=c.trans ((k.trans (C.mono k.size)).mono c.size);rw[M' B.out];have p:Bw w1 (o.drewN u):=k.trans (C.mono k.size);replace f:=f.af p;replace hn:=hn.af p;replace i:=i.af p;replace h:=h.af (j' g c.size) p;have W:=FS key b D;have s:∀ x∈EN key b D,0<=x/\x<256:=JI _ S;clear n N q C k;generalize o.drewN u=Q at f hn i h E p ⊢;go_wp2_with fail
 refine(QO v y _ key b D Q f hn i lk K (by have:=j.out;omega) h).mono ?_;rintro e R ⟨P,rfl,M,T⟩;have Y:Sl R P (EN key b D):=Sl.lz M (by have:=j.out;omega) s;have U:Bw z R:=E.trans (T.mono E.size);clear M s;go_wp2
 go_ret2
 exact⟨P,rfl,Y,U⟩
theorem ZN(i j f g:Value)(key c a d:List Int)(w:World)(m:Sl w i key)(hn:Sl w j c)(k:Sl w f a)(l:Sl w g d)(n:CW w) :
  Calls prog 198 #[i,j,f,g] w λe w'=>∃ v',e=.returned (.tuple #[v',.int .i64 (Et key c a d)])/\Sl w' v' (Rb key c a d)/\Bw w w':=by
 unfold Rb;by_cases h:Hk key c a=true/\d.length<=2016
 .by_cases h16:d.length<16
  .have hE:Et key c a d=13:=by unfold Et;rw[if_pos h,if_pos h16]
   rw[hE,if_neg (by omega)];refine(Tu i j f g key c a d w m hn k l h.1 h16).mono ?_;rintro e o ⟨rfl,rfl⟩;exact⟨_,rfl,Sl.nil _ _,Below.refl _ _⟩
  .by_cases hq:E3 key c a (d.take (d.length-16))=d.drop (d.length-16)
   .have hE:Et key c a d=0:=by unfold Et;rw[if_pos h,if_neg h16,if_pos hq]
    rw[hE,if_pos rfl];exact eA i j f g key c a d w m hn k l h.1 (d.length-16) (by omega) (by omega) n hq
   .have hE:Et key c a d=6:=by unfold Et;rw[if_pos h,if_neg h16,if_neg hq]
    rw[hE,if_neg (by omega)];refine(ZO i j f g key c a d w m hn k l h.1 (d.length-16) (by omega) (by omega) n hq).mono ?_;rintro e o ⟨rfl,b⟩;exact⟨_,rfl,Sl.nil _ _,b⟩
 .have hE:Et key c a d=1:=by unfold Et;rw[if_neg h]
  rw[hE,if_neg (by omega)];refine(ez i j f g key c a d w m hn k l ?_).mono ?_
  .by_cases hf:Hk key c a=true
   .exact .inr (by have:¬ d.length<=2016:=λp=>h ⟨hf,p⟩;omega)
   .exact .inl (by simpa using hf)
  .rintro e o ⟨rfl,rfl⟩;exact⟨_,rfl,Sl.nil _ _,Below.refl _ _⟩
theorem TW(key a:List Int)(b:∀ x∈p,0<=x/\x<256):∀ x∈EN key a p,0<=x/\x<256:=JI _ b
theorem TS(key b a:List Int)(c:∀ x∈p,0<=x/\x<256):∀ x∈KA key b a p,0<=x/\x<256:=by
 intro x d;rcases U'.1 d with h|h
 .exact TW key b c x h
 .exact MJ _ _ _ _ x h
theorem du(lk:key.length=32)(c:nonce.length=12)(b:a.length<=256):Hk key nonce a=true:=by
 unfold Hk;simp;omega
end
end
section
def KT(key:List Int)(n:Int)(p:List Int):List Int:=Ad n++KA key (BI (Ad n)) (Ad n) p
theorem G9(key:List Int)(n:Int)(p:List Int):(KT key n p).length=p.length+20:=by
 rw[KT,H',CH,Jj];omega
theorem WM(key:List Int)(n:Int){p:List Int}(a:∀ x∈p,0<=x/\x<256):∀ x∈KT key n p,0<=x/\x<256:=by
 intro x b;rcases U'.1 b with h|h
 .exact Bd n x h
 .exact TS _ _ _ a x h
def Ez(key:List Int)(s t:Int)(l:List Bool)(p:List Int):Int:=if ¬ OkC key s t l then 5 else if 2000<p.length then 1 else if s=1073741824 then 8 else 0
def CL(key:List Int)(s t:Int)(l:List Bool)(r:List Int):Int :=
 if ¬ OkC key s t l then 5 else if 2020<r.length then 1 else if r.length<20 then 13 else if 1073741824<=FK (r.take 4)then 2 else if Ip t l (FK (r.take 4))=true then 7
 else Et key (BI (r.take 4)) (r.take 4) (r.drop 4)
def KE(key:List Int)(r:List Int):List Int:=Rb key (BI (r.take 4)) (r.take 4) (r.drop 4)
end
section
open Go.RowKit
section
structure Bt(w:World)(g:Nat)(c r u:Int):Prop where
 lt:g<w.heap.size
 row:w.heap[g]?=some (.cells (tkA c r u) 59)
theorem Bt.made(w:World)(c r u:Int):Bt (w.alloc (.cells (tkA c r u) 59)) w.heap.size c r u:=⟨by simp,heap_alloc_new _ _⟩
variable{c r u:Int}{g:Nat}{key:List Int}{w:World}
theorem Bt.af{b:World}(h:Bt w g c r u)(a:Bw w b):Bt b g c r u :=
 ⟨j' h.lt a.size,(a.block g h.lt).trans h.row⟩
theorem Jr(c r u:Int):(prog.info? 59).map (·.size)=some (tkA c r u).size:=by show _=some 3;kernel_rfl
theorem Ka{ty:TypeId}{fr:Nat × Nat}(h:w.heap[g]?=some (.cells (tkA c r u) ty fr)) :
  w.cell? ⟨g,0,none⟩=some (.int .i64 c)/\w.cell? ⟨g,1,none⟩=some (.int .i64 r)/\w.cell? ⟨g,2,none⟩=some (.int .i64 u) :=
 ⟨cell_of_row _ _ 0 _ _ _ h,cell_of_row _ _ 1 _ _ _ h,cell_of_row _ _ 2 _ _ _ h⟩
theorem JH(c r u:Int)(w:World) :
  Calls prog 72 #[.agg (tkA c r u)] w λe w'=>e=.returned (.bool (decide (Dz c r u)))/\Bw w w':=by
 have b:Bw w (w.alloc (.cells (tkA c r u) 59)):=(Below.refl _ _).alloc (A' _) _;have i:=Bt.made w c r u;generalize k:w.alloc (.cells (tkA c r u) 59)=W at b i;obtain⟨c0,c1,l⟩:=Ka i.row;clear i;go_enter func72,ntmps72
 go_wp2_with fail
 clear k;refine(Fw c 7 _).mono ?_;rintro e j ⟨rfl,rfl⟩;by_cases d:0<=c/\c<=7
 .rw[M' d];go_wp2_with fail
  refine(Fw r 7 _).mono ?_;rintro e j ⟨rfl,rfl⟩;by_cases f:0<=r/\r<=7
  .rw[M' f];go_wp2_with fail
   refine(Fw u 1048576 _).mono ?_;rintro e j ⟨rfl,rfl⟩;by_cases h:0<=u/\u<=1048576
   .rw[M' h];have a:Hid (true=decide (Dz c r u)):=(M' ⟨d,f,h⟩).symm;go_wp2
    go_ret;exact⟨Am a.out,b⟩
   .rw[D' h];have a:Hid (false=decide (Dz c r u)):=(D' (λg=>h g.2.2)).symm;go_wp2
    go_ret;exact⟨Am a.out,b⟩
  .rw[D' f];have a:Hid (false=decide (Dz c r u)):=(D' (λg=>f g.2.1)).symm;go_wp2
   go_ret;exact⟨Am a.out,b⟩
 .rw[D' d];have a:Hid (false=decide (Dz c r u)):=(D' (λg=>d g.1)).symm;go_wp2
  go_ret;exact⟨Am a.out,b⟩
def Le(key:List Int)(c r u:Int):List Int:=Lc c r u++(E7 key (Lc c r u)).take 16
theorem NO(key b:List Int):((E7 key b).take 16).length=16:=by rw[X',DL];rfl
theorem ER(key:List Int)(c r u:Int):(Le key c r u).length=22:=by unfold Le;rw[H',NO,EQ]
theorem RD(key b:List Int):∀ x∈(E7 key b).take 16,0<=x/\x<256:=λx a=>Oz key b x (mT a)
theorem Xw(key:List Int)(h:Dz c r u):∀ x∈Le key c r u,0<=x/\x<256:=by
 intro x hx;rcases U'.1 hx with hx|hx
 .exact OK h x hx
 .exact RD _ _ x hx
def Ny(key:List Int)(c r u:Int):Int:=if key.length≠32 then 1 else NQ c r u
def QC(key:List Int)(c r u:Int):List Int:=if Ny key c r u=0 then Le key c r u else[]
theorem VW(h:¬ key.length=32):Ny key c r u=1:=if_pos h
theorem QB(h:key.length=32):Ny key c r u=NQ c r u:=if_neg (λg=>g h)
theorem dF(h:Ny key c r u=0):QC key c r u=Le key c r u:=if_pos h
theorem UJ(h:¬ Ny key c r u=0):QC key c r u=[]:=if_neg h
theorem SP(c r u:Int)(w:World)(h:Dz c r u) :
  Calls prog 73 #[.agg (tkA c r u)] w λe w'=>∃ v',e=.returned v'/\w'.ownsRow w.heap.size 5 1 v' (Lc c r u).length ((Lc c r u).map (Value.int .u8))/\Bw w w':=by
 have d:Bw w (w.alloc (.cells (tkA c r u) 59)):=(Below.refl _ _).alloc (A' _) _;have f:=Bt.made w c r u;generalize o:w.alloc (.cells (tkA c r u) 59)=W at d f;obtain⟨c0,c1,m⟩:=Ka f.row;have lt:=f.lt;clear f;obtain⟨⟨q,s⟩,⟨t,v⟩,i,x⟩:=h;have C:c%256=c:=by omega
 have D:r%256=r:=by omega
 have A:Hid (Lc c r u=[c,r]++Ad u):=rfl;have b:Bw W (W.alloc (.cells #[.int .u8 c,.int .u8 r] 5)):=(Below.refl _ _).alloc (A' _) _;have k:(W.alloc (.cells #[.int .u8 c,.int .u8 r] 5)).ownsRow W.heap.size 5 1 (.slice (some ⟨W.heap.size,0,none⟩) 2 2) ([c,r]:List Int).length (([c,r]:List Int).map (Value.int .u8)) :=
  ⟨rfl,.inr ⟨W.heap.size,2,#[.int .u8 c,.int .u8 r],rfl,A' _,heap_alloc_new _ _,by simp,by simp[maxLen],rfl,rfl⟩⟩
 have j:Hid ((W.alloc (.cells #[.int .u8 c,.int .u8 r] 5)).ownsRow W.heap.size 5 1 (.slice (some ⟨W.heap.size,0,none⟩) 2 2) ([c,r]:List Int).length (([c,r]:List Int).map (Value.int .u8))):=k;clear k;generalize g:W.alloc (.cells #[.int .u8 c,.int .u8 r] 5)=W1 at b j;have B:W1.cell? ⟨w.heap.size,2,none⟩=some (.int .i64 u):=(b.cell (p:=⟨w.heap.size,2,none⟩) lt).trans m;have n:=d.trans (b.mono d.size);have y:=b.size;go_enter func73,ntmps73
 go_wp2_with fail
 clear o g;refine(H8 _ [c,r] u W.heap.size W1 j.out y (by simp) i (by omega)).mono ?_;rintro e F ⟨E,rfl,z,l⟩;have a:=d.size;go_wp2
 go_ret;exact⟨_,rfl,Bf z a,n.trans (l.mono a)⟩
theorem RB(d c:Value)(key b:List Int)(w:World)(n:Sl w d key)(m:Sl w c b)(lk:key.length<=256)(p:b.length<=2000)(o:AK w) :
  Calls prog 74 #[d,c] w λe w'=>∃ v',e=.returned (.tuple #[v',.int .i64 0])/\Sl w' v' ((E7 key b).take 16)/\Bw w w':=by
 go_enter func74,ntmps74
 go_wp2_with fail
 refine(gE d c key b w n m lk p o).mono ?_;rintro e t ⟨s,rfl,l⟩;obtain⟨f,i,g,k,rfl,_,_⟩:=l;obtain⟨h,j,a,q⟩:=f.ov 16 (by rw[DL];omega);rw[DL]at a ⊢
 have r:∀ W,(Instr.slice 39 (.slice (some ⟨g,0,none⟩) 32 k) none (some (.int .i64 16)) none).run prog W=.ok (.slice h 16 j) W:=a;clear a f;go_wp2
 go_ret2
 exact⟨_,rfl,q,i⟩
theorem VX(E:Value)(key:List Int)(c r u:Int)(w:World)(f:Sl w E key)(N:AK w) :
  Calls prog 36 #[E,.agg (tkA c r u)] w λe w'=>∃ v',e=.returned (.tuple #[v',.int .i64 (Ny key c r u)])/\w'.ownsRow w.heap.size 5 1 v' (QC key c r u).length ((QC key c r u).map (Value.int .u8))/\Bw w w':=by
 have i:Bw w (w.alloc (.cells (tkA c r u) 59)):=(Below.refl _ _).alloc (A' _) _;have j:=Bt.made w c r u;have A:=Jr c r u;have m:=f.len;obtain⟨S,T,rfl⟩:=f.shape;generalize M:w.alloc (.cells (tkA c r u) 59)=W at i j;by_cases l:key.length=32
 .have HE:=QB (key:=key) (c:=c) (r:=r) (u:=u) l;have J:Hid (key.length=32):=l;rw[l]at f ⊢
  clear l m;go_enter func36,ntmps36
  go_wp2_with (refine wpList_load_row rfl 59 _ rfl w.heap.size rfl 59 _ (0,0) _ j.row underlying59 rfl A ?_)
  clear M;refine(JH c r u W).mono ?_;rintro e g ⟨rfl,p⟩;have b:=i.trans (p.mono i.size);replace j:=j.af p;clear p i;by_cases d:Dz c r u
  .have a:Hid (Ny key c r u=0):=HE.trans (Ls d);have h:Hid (QC key c r u=Le key c r u):=dF a.out;rw[M' d];clear HE;go_wp2_with (refine wpList_load_row rfl 59 _ rfl w.heap.size rfl 59 _ (0,0) _ j.row underlying59 rfl A ?_)
   refine(SP c r u g d).mono ?_;rintro e R ⟨P,rfl,x,q⟩;have s:=b.trans (q.mono b.size);have D:=Sl.lz x (by rw[EQ];omega) (OK d);have H:=q.size;go_wp2_with fail
   refine(RB _ P key (Lc c r u) R (f.af s) D (by rw[J.out];omega) (by rw[EQ];omega) (N.af s)).mono ?_;rintro e F ⟨U,rfl,s3,n⟩;have y:=Ky x n;have t:Bw g F:=q.trans (n.mono H);have I:g.heap.size<=F.heap.size:=mF H n.size;have v:=y.lt;have O:=s3.len;have o:Hid (Le key c r u=Lc c r u++(E7 key (Lc c r u)).take 16):=rfl;have B:=EQ c r u;clear x n s D;generalize (E7 key (Lc c r u)).take 16=Y at s3 o O;generalize Lc c r u=X at y o B;go_wp2_with (at_builtin;refine Aa _ rfl _ _ 39 rfl g.heap.size 5 underlying39 Aw _ _ rfl rfl X Y y s3 (by omega) I ?_)
   intro Q G C z;have L:Bw g G:=t.grown z I (λk f=>(v k f).1);have K:Hid (G.ownsRow g.heap.size 5 1 Q (Le key c r u).length ((Le key c r u).map (Value.int .u8))):=by unfold Hid;rw[o.out];simpa[B]using C
   clear C z;go_wp2
   go_ret2
   rw[h.out,a.out];exact⟨_,rfl,Bf K.out b.size,b.trans (L.mono b.size)⟩
  .have a:Hid (Ny key c r u=2):=HE.trans (Vm d);have h:Hid (QC key c r u=[]):=UJ (by rw[a.out];omega);rw[D' d];go_wp2
   go_ret2
   rw[h.out,a.out];exact⟨_,rfl,World.ownsRow_nil _ _ _ _,b⟩
 .have h1':¬ (key.length:Int)=32:=by omega
  have a:Hid (Ny key c r u=1):=VW l;have h:Hid (QC key c r u=[]):=UJ (by rw[a.out];omega);go_enter func36,ntmps36
  go_wp2
  go_ret2
  rw[h.out,a.out];exact⟨_,rfl,World.ownsRow_nil _ _ _ _,i⟩
end
end
end Go.Proofs.YtogibonjmbhliaaGreatDoor
