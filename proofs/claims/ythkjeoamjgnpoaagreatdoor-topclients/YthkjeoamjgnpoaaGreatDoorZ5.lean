/- Part 5 of the walk. -/
import Derived.Lib.SlBytesRow
import Derived.Lib.SmallJoins
import Derived.Deep.OwnRows
import Derived.Laws.OwnMore
import Derived.Maps.AppendAt
import Derived.Test.YthkjeoamjgnpoaaGreatDoorZ2
set_option maxRecDepth 100000
set_option maxHeartbeats 4000000
open Go.Proofs.Tryz
namespace Go.Proofs.YthkjeoamjgnpoaaGreatDoor
section
open Go.RowKit
section
def lenOf:Value->Nat
 | .slice _ n _=>n
 | _=>0
variable{P:Program}{Q:Exit->Act->World->Prop}{a key l la lb m nonce p:List Int}{b base cap e g j n off:Nat}{ops:Array Oper}{v:Value}{w w':World}{xs:List Value}
theorem Ty(h:w.ownsRow base e 1 v n xs):lenOf v=n:=by
 rcases h.2 with⟨rfl,rfl⟩|⟨g,cap,cur,rfl,_⟩<;>rfl
theorem T6(v:Value)(l:List Int)(w:World)(h:Sl w v l)(hl:l.length<=100000) :
  Calls prog 110 #[v] w λe w'=>∃ v',e=.returned v'/\w'.ownsRow w.heap.size 5 1 v' (pad l).length ((pad l).map (Value.int .u8))/\Bw w w':=by
 have hs:=h;obtain⟨⟨a,a1,rfl,hc,hn,h1⟩,a4,N⟩:=h;clear h1 hn N;obtain⟨i0,hi,S,T,U⟩:=info_parts Ax;go_enter func110,ntmps110
 go_wp2_with (at_make;refine wpList_make_own _ rfl _ _ 27 rfl w.heap.size 5 i0 (.int .u8 0) 1 underlying27 hi S T _ _ _ (l.length+128) rfl rfl (by omega) (by rw[U];omega) (by unfold maxLen;omega) (A' _) ?_)
 intro X F A;have f:Bw w X:=(Below.refl _ _).grown A (A' _) (by simp);have p:X.ownsRow w.heap.size 5 1 (.slice (some ⟨w.heap.size,0,none⟩) 0 (l.length+128)) ([]:List Int).length (([]:List Int).map (Value.int .u8)):=F;clear F A;go_wp2_with (at_builtin;refine Aa _ rfl _ _ 27 rfl w.heap.size 5 underlying27 Ax _ _ rfl rfl [] l p (hs.af f) (by simp;omega) f.size ?_)
 intro v2 Y G B;have n:Y.ownsRow w.heap.size 5 1 v2 l.length (l.map (Value.int .u8)):=by simpa using G
 have i:Bw w Y:=f.grown B f.size (by simp[Value.ownBlock]);have o:=n.lt;clear p B f G;go_wp2_with (at_builtin;refine Aa _ rfl _ _ 27 rfl w.heap.size 5 underlying27 Ax _ _ rfl rfl l [128] (n.alloc _) (Sl.one _ _ _ rfl (by omega)) (by simp;omega) (by have:=i.size;simp;omega) ?_)
 intro v3 Z H C;have q:Z.ownsRow w.heap.size 5 1 v3 (CS l 0).length ((CS l 0).map (Value.int .u8)):=by simpa[CS]using H
 have z:Bw w Z:=(i.alloc i.size _).grown C (by have:=i.size;simp;omega) (λk x=>(o k x).1);clear H C i o n;go_wp2
 go_loopw [3] (λv wr=>∃ j:Nat,j<=F1 l.length/\wr.ownsRow w.heap.size 5 1 v (CS l j).length ((CS l j).map (Value.int .u8))/\Bw w wr) (λv _=>F1 l.length+l.length+1-lenOf v)
 case atStart=>exact⟨0,nH _,q,z⟩
 case round =>
  clear q z;obtain⟨j,hj,b,c⟩:=hrel;obtain⟨g,cp,W,a3,Q,O,t,P⟩:=EC b (by simp[CS]);rw[D0]at W
  subst W;clear t P O;have hz:F1 l.length<=63:=by unfold F1;omega
  have d:=b.lt;by_cases u:j<F1 l.length
  .have hne:¬ ((l.length+1+j)%64=56):=by unfold F1 at u;omega
   go_wp2_with (at_builtin;refine Aa _ rfl _ _ 27 rfl w.heap.size 5 underlying27 Ax _ _ rfl rfl (CS l j) [0] (b.alloc _) (Sl.one _ _ _ rfl (by omega)) (by rw[D0];simp;omega) (by have:=c.size;simp;omega) ?_)
   intro V w4 I D;have r:w4.ownsRow w.heap.size 5 1 V (CS l (j+1)).length ((CS l (j+1)).map (Value.int .u8)):=by rw[<- T4];simpa using I
   have L:Bw w w4:=(c.alloc c.size _).grown D (by have:=c.size;simp;omega) (λk x=>(d k x).1);have m:=Ty r;rw[D0]at m
   have HL:Hid (lenOf V=l.length+1+(j+1)):=m;clear m I D b d c;go_wp2
   go_roundw
   case rel=>exact⟨j+1,u,r,L⟩
   case measure =>
    have m:=HL.out;show F1 l.length+l.length+1-lenOf V<F1 l.length+l.length+1-(l.length+1+j);rw[m];omega
  .have heq:(l.length+1+j)%64=56:=by unfold F1 at u hj;omega
   have a0:Hid ((l.length+1+j)%64=56):=heq;have a2:(((l.length:Int)+1+j)%64 != 56)=false:=by simp;omega
   have y:j=F1 l.length:=by omega
   have EJ:Hid (j=F1 l.length):=y;clear heq y;go_wp2_with fail
   go_loopw [3,5] (λv s wr=>∃ k:Nat,k<=8/\s=.int .i64 (56-8*(k:Int))/\wr.ownsRow w.heap.size 5 1 v (CS l j++(CR l.length).take k).length ((CS l j++(CR l.length).take k).map (Value.int .u8))/\Bw w wr) (λ_ s _=>(intOf s+8).toNat)
   case atStart=>exact⟨0,by omega,rfl,by simpa using b,c⟩
   case round =>
    clear b c d Q;obtain⟨k,x,rfl,b,c⟩:=hrel;have d:=b.lt;by_cases R:k<8
    .go_wp2_with (at_builtin;refine Aa _ rfl _ _ 27 rfl w.heap.size 5 underlying27 Ax _ _ rfl rfl _ _ (b.alloc _) (Sl.one _ _ _ rfl ?_) (by rw[G',D0,j'];simp;omega) (by have:=c.size;simp;omega) ?_)
     .omega
     intro v5 w5 J E;have K:w5.ownsRow w.heap.size 5 1 v5 (CS l j++(CR l.length).take (k+1)).length ((CS l j++(CR l.length).take (k+1)).map (Value.int .u8)):=by
      rw[NA _ _ R];simpa using J
     have M:Bw w w5:=(c.alloc c.size _).grown E (by have:=c.size;simp;omega) (λk x=>(d k x).1);clear J E b d c;go_wp2
     go_roundw
     case rel=>exact⟨k+1,by omega,by go_num,K,M⟩
     case measure=>simp[intOf];omega
    .obtain rfl:k=8:=by omega
     go_wp2
     go_ret;refine⟨u3,rfl,?_,c⟩;unfold pad;rw[<- EJ.out];exact b
theorem RM(s:St)(w:World) :
  Calls prog 113 #[.agg s.cells] w λe w'=>∃ v',e=.returned v'/\w'.ownsRow w.heap.size 5 1 v' (Pa s).length ((Pa s).map (Value.int .u8))/\Bw w w':=by
 obtain⟨K,J,C,D,E⟩:=info_parts Ax;unfold St.cells;go_enter func113,ntmps113
 go_wp2_with (at_make;refine wpList_make_own _ rfl _ _ 27 rfl w.heap.size 5 K (.int .u8 0) 1 underlying27 J C D _ _ _ 32 rfl rfl (by omega) (by rw[E];omega) (by unfold maxLen;omega) (by simp) ?_)
 intro F u o;have r:Bw w F:=((Below.refl _ _).alloc (A' _) _).grown o (by simp) (by simp);have n:F.heap[w.heap.size]?=some (.cells #[.int .u32 (uw s.a),.int .u32 (uw s.b),.int .u32 (uw s.c),.int .u32 (uw s.d),.int .u32 (uw s.e),.int .u32 (uw s.f),.int .u32 (uw s.g),.int .u32 (uw s.h)] 194 (0,0)):=by
  rw[o.block w.heap.size (by simp) (by simp)];exact heap_alloc_new _ _
 have m:F.ownsRow w.heap.size 5 1 (.slice (some ⟨w.heap.size+1,0,none⟩) 0 32) (CM (s.list.take 0)).length ((CM (s.list.take 0)).map (Value.int .u8)):=u;clear u o;go_wp2_with (refine wpList_load_row rfl 194 _ rfl w.heap.size rfl 194 _ (0,0) _ n underlying194 rfl (by kernel_rfl) ?_)
 go_loopw [3,8] (λv i wr=>∃ k:Nat,k<=8/\i=.int .i64 k/\wr.ownsRow w.heap.size 5 1 v (CM (s.list.take k)).length ((CM (s.list.take k)).map (Value.int .u8))/\Bw w wr) (λ_ i _=>8-(intOf i).toNat)
 case atStart=>exact⟨0,by omega,rfl,m,r⟩
 case round =>
  clear m r n;obtain⟨k,H,rfl,j,q⟩:=hrel;have t:=j.lt;by_cases p:k<8
  .have hix:=YQ s k p;have l:=Hv (s.list.take k);have y:Hid (s.list.take (k+1)=s.list.take k++[s.list.getD k 0#32]):=by
    unfold Hid;rw[nu (by simpa[St.list]using p)];simp[List.getD,List.getElem?_eq_getElem (show k<s.list.length by simpa[St.list]using p)]
   have A:(s.list.take k).length<=8:=by rw[j'];omega
   generalize s.list.take k=pre at j l y A;generalize s.list.getD k 0#32=x at hix y;have L:=El x;go_wp2_with (at_builtin;refine Aa _ rfl _ _ 27 rfl w.heap.size 5 underlying27 Ax _ _ rfl rfl (CM pre) (F7 x) (j.alloc _) ?_ (by rw[l];simp[F7];omega) (by have:=q.size;simp;omega) ?_)
   .exact Sl.built wr (F7 x) 5 rfl (by simp[F7]) (Kb x)
   intro v' w' I G;have B:w'.ownsRow w.heap.size 5 1 v' (CM (pre++[x])).length ((CM (pre++[x])).map (Value.int .u8)):=by
    rw[Qb];simpa[Hv]using I
   have z:Bw w w':=(q.alloc q.size _).grown G (by have:=q.size;simp;omega) (λk H=>(t k H).1);clear I G j t q;go_wp2
   go_roundw
   case rel=>exact⟨k+1,by omega,by go_num,by rw[y.out];exact B,z⟩
   case measure=>simp[intOf];omega
  .have HK:Hid (k=8):=by unfold Hid;omega
   go_wp2
   go_ret;refine⟨u3,rfl,?_,q⟩;rw[HK.out]at j
   exact j
theorem lP(w:World):(Go.sizeOf 5).run prog w=.ok 1 w:=by
 obtain⟨i,b,_,a,_⟩:=info_parts Ax;simp[sizeOf,typeInfo,b,a]
theorem ff(g n a k:Nat)(c:64*k+64<=64*n)(b:64*n<=a):∀ W,(Instr.slice 27 (.slice (some ⟨g,0,none⟩) (64*n) a) (some (.int .i64 (64*(k:Int)))) (some (.int .i64 (64*(k:Int)+64))) none).run prog W=.ok (.slice (some ⟨g,64*k,none⟩) 64 (a-64*k)) W:=by
 intro W;have:=Lib.run_slice_window (P:=prog) W 27 5 underlying27 lP g 0 (64*n) a (64*k) (64*k+64) (by omega) (by omega);rw[show 64*k+64-64*k=64 by omega,nM]at this
 rw[<- this];rfl
theorem j1{a:Array Value}(s:St)(c:w.heap[g]?=some (.cells a 194 (0,0)))(d:a.size=8):(storeCells ⟨g,0,none⟩ s.cells.toList).run prog w=.ok () (w.setRow g s.cells):=by
 have:=run_storeCells_from (P:=prog) g 194 s.cells.toList 0 a w c (by simp[St.cells];omega) (λv b=>by simp[St.cells]at b;rcases b with rfl|rfl|rfl|rfl|rfl|rfl|rfl|rfl<;>rfl);simpa using this
theorem Sl.tJ(h:Sl w (.slice (some ⟨b,off,none⟩) n cap) l){g:Nat}(q:g<b)(f:Array Value):Sl (w.setRow g f) (.slice (some ⟨b,off,none⟩) n cap) l:=by
 obtain⟨⟨a,c,e,m,p,d⟩,j,k⟩:=h;refine⟨⟨a,c,e,m,p,?_⟩,j,k⟩;simp only[Value.slice.injEq]at e;obtain⟨rfl,_,_⟩:=e;rcases d with d|⟨b',off',e',hbs,hcell⟩
 .exact .inl d
 .simp only[Z',Addr.mk.injEq,and_true]at e';obtain⟨rfl,rfl⟩:=e';refine .inr ⟨b,off,rfl,by simpa using hbs,λi o=>?_⟩;rw[<- hcell i o];exact World.cell?_of_block (w:=w) (setRow_other w g b f (by omega))
theorem gX(l:List Int)(k:Nat)(a:64*k+64<=l.length):((l.drop (64*k)).take 64).length=64:=by
 rw[j',nc];omega
theorem E8(v:Value)(l:List Int)(w:World)(h:Sl w v l)(hl:l.length<=100000)(ht:AD w) :
  Calls prog 71 #[v] w λe w'=>∃ v',e=.returned v'/\w'.ownsRow w.heap.size 5 1 v' (dig l).length ((dig l).map (Value.int .u8))/\Bw w w':=by
 go_enter func71,ntmps71
 go_wp2_with fail
 generalize d:w.alloc _=W0;have f:Bw w W0:=by rw[<- d];exact(Below.refl _ _).alloc (A' _) _
 have z:W0.heap[w.heap.size]?=some (.cells (AB start.list) 194 (0,0)):=by rw[<- d];exact heap_alloc_new _ _
 have W:W0.heap.size=w.heap.size+1:=by rw[<- d];simp
 clear d;refine(T6 v l W0 (h.af f) hl).mono ?_;rintro e w1 ⟨vp,rfl,r,m⟩;have F:=T5 l;have y:=ZS h.byte;have s:Sl w1 vp (pad l):=Sl.ov r (by omega) y;obtain⟨g,E,hv,R,T,q,_,_⟩:=EC r (by intro e;rw[e]at F;simp at F);subst hv;have u:Bw w w1:=f.trans (m.mono f.size);have A:w1.heap[w.heap.size]?=some (.cells (AB start.list) 194 (0,0)):=(m.block _ (by omega)).trans z;have G:Hid (dig l=Pa (Pf (pad l) ((pad l).length/64))):=rfl;have x:w.heap.size<g:=by omega
 clear f z r m R T W;generalize pad l=p at G s F y q ⊢;obtain⟨n,U⟩:∃ n,p.length=64*n:=⟨p.length/64,by omega⟩;have HN:Hid (p.length/64=n):=by unfold Hid;omega
 rw[HN.out]at G
 rw[U]at s q ⊢
 have a3:n<=2000:=by omega
 have D:Hid (p.length=64*n):=U;clear U F;go_wp2_with fail
 go_loopw [5] (λi wr=>∃ k:Nat,k<=n/\i=.int .i64 (64*(k:Int))/\wr.heap[w.heap.size]?=some (.cells (AB (Pf p k).list) 194 (0,0))/\Sl wr (.slice (some ⟨g,0,none⟩) (64*n) E) p/\Bw w wr) (λi _=>64*n-(intOf i).toNat)
 case atStart=>exact⟨0,by omega,rfl,A,s,u⟩
 case round =>
  clear A s u;obtain⟨k,hk,rfl,a,s,t⟩:=hrel;by_cases a2:k<n
  .have hblk:=gX p k (by rw[D.out];omega);have I:Hid (Pf p (k+1)=Zw (Pf p k) (OF ((p.drop (64*k)).take 64))):=rfl;have C:Sl wr (.slice (some ⟨g,64*k,none⟩) 64 (E-64*k)) ((p.drop (64*k)).take 64):=by
    have q1:=Sl.drop (n:=64*n) (off:=0) s (64*k) (by rw[D.out];omega) (E-64*k) (by rw[D.out];omega);rw[nM]at q1
    exact q1.take 64 (by rw[nc,D.out];omega)
   generalize (p.drop (64*k)).take 64=bl at hblk I C;generalize Pf p k=S at I a;have J:=cell_of_row wr _ 0 _ _ _ a;have K:=cell_of_row wr _ 1 _ _ _ a;have L:=cell_of_row wr _ 2 _ _ _ a;have M:=cell_of_row wr _ 3 _ _ _ a;have N:=cell_of_row wr _ 4 _ _ _ a;have O:=cell_of_row wr _ 5 _ _ _ a;have P:=cell_of_row wr _ 6 _ _ _ a;have Q:=cell_of_row wr _ 7 _ _ _ a;simp only[AB,St.list,nO,oN,nV,oE,qg]at J K L M N O P Q;have b:w.heap.size<wr.heap.size:=(U'.1 a).1;have Z:AD wr:=ht.af t;have a1:∀ i,wr.frozen? ⟨w.heap.size,i,none⟩=false:=λi=>frozen_of_row wr _ i _ _ a;have H:Hid _:=a;have HB:Hid (Bw w wr):=t;clear a t;have a0:IntKind.i64.wrap (64*(k:Int)+64)=64*(k:Int)+64:=by simp only[IntKind.wrap,IntKind.bits,IntKind.signed];simp;omega
   have a4:=ff g n E k (by omega) q;go_wp2_with fail
   go_region_with (first
    | (go_at_call 112;refine(PF _ bl _ (C.af ((Below.refl _ _).drew)) hblk).mono ?_;rintro e w2 ⟨rfl,c⟩;have B:w.heap.size<w2.heap.size:=X' b c.size;have d0:=(c.cell (p:=⟨w.heap.size,0,none⟩) b).trans J;have d1:=(c.cell (p:=⟨w.heap.size,1,none⟩) b).trans K;have d2:=(c.cell (p:=⟨w.heap.size,2,none⟩) b).trans L;have d3:=(c.cell (p:=⟨w.heap.size,3,none⟩) b).trans M;have d4:=(c.cell (p:=⟨w.heap.size,4,none⟩) b).trans N;have d5:=(c.cell (p:=⟨w.heap.size,5,none⟩) b).trans O;have d6:=(c.cell (p:=⟨w.heap.size,6,none⟩) b).trans P;have d7:=(c.cell (p:=⟨w.heap.size,7,none⟩) b).trans Q)
    | (go_at_call 111;refine(Ww S (OF bl) _ (PE bl) (Z.af ((Below.refl _ _).drew.trans c))).mono ?_;rintro e w3 ⟨rfl,o⟩;have a5:w.heap.size<w3.heap.size:=X' B o.size;have X:=j1 (Zw S (OF bl)) (((o.block _ B).trans (c.block _ b)).trans H.out) (by rfl)))
   all_goals
    clear J K L M N O P Q d0 d1 d2 d3 d4 d5 d6 d7 X;have j:Bw wr w3:=((Below.refl wr.heap.size wr).drew.trans c).trans (o.mono c.size);go_wp2
    go_roundw
    case rel =>
     refine⟨k+1,by omega,by go_num,?_,(s.af j).tJ x _,BQ (HB.out.trans (j.mono HB.out.size)) (A' _) _⟩;rw[I.out];exact setRow_heap w3 _ _ _ 194 _ ((j.block _ b).trans H.out)
    case measure=>simp[intOf];omega
  .have HK:Hid (k=n):=by unfold Hid;omega
   have H:Hid _:=a;have Y:(prog.info? 194).map (·.size)=some (AB (Pf p k).list).size:=by kernel_rfl
   go_wp2_with (refine wpList_load_row rfl 194 _ rfl w.heap.size rfl 194 _ (0,0) _ a underlying194 rfl Y ?_)
   refine(RM (Pf p k) wr).mono ?_;rintro e w2 ⟨v2,rfl,V,c⟩;go_wp2
   go_ret;refine⟨v2,rfl,?_,t.trans (c.mono t.size)⟩;rw[G.out,<- HK.out];exact BL V t.size
structure Fresh(w w':World)(v:Value)(l:List Int):Prop where
 sl:Sl w' v l
 tL:Bw w w'
 shape:∃ g cap,v=.slice (some ⟨g,0,none⟩) l.length cap/\w.heap.size<=g/\l.length<=cap
theorem Fresh.ov(h:w'.ownsRow w.heap.size 5 1 v l.length (l.map (Value.int .u8)))(c:l≠[])(i:l.length<=140737488351232)(f:∀ x∈l,0<=x/\x<256)(a:Bw w w'):Fresh w w' v l:=by
 obtain⟨g,b,j,d,_,e,_,_⟩:=EC h c;exact⟨Sl.ov h i f,a,g,b,j,d,e⟩
theorem FJ(h:l.length=n+1):l≠[]:=by
 intro e;rw[e]at h;simp at h
def Gy(l:List Int)(n:Nat):List Int:=l++List.replicate (n-l.length) 0
def IC(l:List Int):List Int:=if 64<l.length then dig l else l
def fk(l:List Int):List Int:=Gy (IC l) 64
def Bv(k:List Int)(m:Int):List Int:=k.map λx=>bits .xor .u8 x m
def EA(key b:List Int):List Int:=dig (Bv (fk key) 92++dig (Bv (fk key) 54++b))
theorem Ns(l:List Int)(n:Nat)(h:l.length<=n):(Gy l n).length=n:=by simp[Gy];omega
theorem Qx(h:∀ x∈l,0<=x/\x<256)(n:Nat):∀ x∈Gy l n,0<=x/\x<256:=by
 intro x a;rcases P'.1 a with h1|h1
 .exact h x h1
 .rw[p8 h1];omega
theorem Pp(l:List Int):(IC l).length<=64:=by
 unfold IC;split
 .rw[At];omega
 .omega
theorem SX(h:∀ x∈l,0<=x/\x<256):∀ x∈IC l,0<=x/\x<256:=by
 unfold IC;split
 .exact Dv l
 .exact h
theorem Fk(l:List Int):(fk l).length=64:=Ns _ _ (Pp l)
theorem dl(h:∀ x∈l,0<=x/\x<256):∀ x∈fk l,0<=x/\x<256:=Qx (SX h) 64
theorem FH(l:List Int)(m:Int):(Bv l m).length=l.length:=by simp[Bv]
theorem Ma(h:∀ x∈l,0<=x/\x<256){m:Int}(b:0<=m/\m<256):∀ x∈Bv l m,0<=x/\x<256:=by
 intro x c;obtain⟨y,d,rfl⟩:=nw.1 c;have a:=h y d;rw[u8_xor _ _ a.1 a.2 b.1 b.2];have:y.toNat ^^^ m.toNat<256:=qe (n:=8) (by omega) (by omega);omega
theorem DU(k b:List Int):(EA k b).length=32:=rfl
theorem Oy(k b:List Int):∀ x∈EA k b,0<=x/\x<256:=Dv _
theorem Oo:(prog.info? 5).map (·.size)=some 1:=by kernel_rfl
theorem K3(l:List Int):splice ((List.replicate 64 (0:Int)).map (Value.int .u8)) 0 (l.map (Value.int .u8))=(Gy l 64).map (Value.int .u8):=by
 have e:(List.replicate 64 (0:Int)).map (Value.int .u8)=List.replicate 64 (Value.int .u8 0):=qf;rw[e];simp only[splice,Gy,oI,oJ,nA,nM,List.drop_replicate,nG,qf]
theorem Jq{b:List Oper}{o:Oper}{a:Act}(f:o.guard=none)(i:TypeId)(x y:Operand)(p:o.op=.store i x y)(g:Nat)(cells:Array Value)(q:a.eval x=.pointer (some ⟨g,0,none⟩))(r:a.eval y=.agg cells)(t:TypeId)(c:Array Value)(j:w.heap[g]?=some (.cells c t (0,0)))(n:(P.info? i).map (·.size)=some cells.size)(d:c.size=cells.size)(l:cells.all (·.oneCell')=true)(B:Nat)(k:World)(m:Below B k w)(e:B<=g)(h:∀ w',w'.heap[g]?=some (.cells cells t (0,0))->Below B k w'->wpList P ops Q b (a.put o.dst undef) w'):wpList P ops Q (o::b) a w :=
 wpList_store_row f i x y p g cells q r t c j n d l (h _ (setRow_heap w g _ _ t _ j) (BQ m e _))
theorem Sl.sZ{i:Option Addr}{c:Nat}(h:Sl w (.slice i n c) l)(q:0<l.length):∃ ad,i=some ad/\∀ (j:Nat) (v:Value),(l.map (Value.int .u8))[j]?=some v->w.cell? (ad.add j)=some v:=by
 obtain⟨⟨a,k,e,r,s,m⟩,p,o⟩:=h;simp only[Value.slice.injEq]at e;obtain⟨rfl,rfl,rfl⟩:=e;rcases m with rfl|⟨b,off,rfl,_,hcell⟩
 .simp at q
 .refine⟨_,rfl,λj v g=>?_⟩;have d:j<l.length:=by
   have:=(V'.1 g).1;simpa using this
  have f:(⟨b,off,none⟩:Addr).add j=⟨b,off+j,none⟩:=by unfold Addr.add;split<;>simp_all
  rw[f,hcell j d];simp[List.getElem?_eq_getElem d]at g
  rw[AQ d,g]
theorem Q3(v:Value)(l:List Int)(w:World)(h:Sl w v l)(L:l.length<=100000)(O:AD w) :
  Calls prog 70 #[v] w λe w'=>e=.returned (.agg (Ba (fk l)))/\Bw w w':=by
 have F:=h;obtain⟨⟨a,I,rfl,R,S,D⟩,M,z⟩:=h;have Q:Hid _:=D;have c:(prog.info? 151).map (·.size)=some (Ba (fk l)).size:=by rw[AI,Fk];kernel_rfl
 clear D z;by_cases E:64<l.length
 .have ek:IC l=dig l:=by unfold IC;rw[if_pos E]
  have y:Hid (fk l=Gy (dig l) 64):=by unfold Hid fk;rw[ek]
  clear ek;go_enter func70,ntmps70
  go_wp2_with fail
  generalize i:w.alloc _=W0;have d:Bw w W0:=by rw[<- i];exact(Below.refl _ _).alloc (A' _) _
  have u:W0.heap[w.heap.size]?=some (.cells (Ba (List.replicate 64 0)) 151 (0,0)):=by rw[<- i];exact heap_alloc_new _ _
  have C:W0.heap.size=w.heap.size+1:=by rw[<- i];simp
  clear i;refine(E8 _ l W0 (F.af d) L (O.af d)).mono ?_;rintro e j ⟨T,rfl,o,m⟩;obtain⟨J,H,P,A,B,K,n,_⟩:=EC o (FJ (At l));subst P;have p:j.heap[w.heap.size]?=some (.cells (Ba (List.replicate 64 0)) 151 (0,0)):=(m.block _ (by omega)).trans u;have t:Bw w j:=d.trans (m.mono d.size);have x:w.heap.size<j.heap.size:=(U'.1 p).1;have G:Sl j (.slice (some ⟨J,0,none⟩) (dig l).length H) (dig l):=Sl.ov o (by rw[At];omega) (Dv l);go_wp2_with (refine wpList_copy_splice rfl _ _ 27 27 rfl 5 underlying27 Oo _ _ _ _ _ _ rfl rfl j.heap.size 0 ((List.replicate 64 (0:Int)).map (Value.int .u8)) 151 (heap_alloc_new _ _) ((dig l).map (Value.int .u8)) (by rw[nA,At];rfl) (λ_=>⟨rfl,(G.af ((Below.refl _ _).alloc (A' _) _)).sZ (by rw[At];omega)⟩) (by rw[nA,At];simp) (Fl _) j.heap.size _ (Below.refl _ _) (A' _) ?_)
  intro g r b;have q:g.heap[j.heap.size]?=some (.cells (Ba (fk l)) 151 (0,0)):=by
   have s:g.heap[j.heap.size]?=some (.cells (splice ((List.replicate 64 (0:Int)).map (Value.int .u8)) 0 ((dig l).map (Value.int .u8))).toArray 151 (0,0)):=r.out;rw[K3]at s
   rw[y.out];exact s
  have k:Bw w g:=(t.alloc t.size _).trans (b.mono (by omega));have f:g.heap[w.heap.size]?=some (.cells (Ba (List.replicate 64 0)) 151 (0,0)):=by
   rw[b.block _ x,heap_alloc_old _ _ x];exact p
  clear r b p u C d m n o G B A;go_wp2_with (first|(refine wpList_load_row rfl 151 _ rfl j.heap.size rfl 151 _ (0,0) _ q underlying151 rfl c ?_)|(refine wpList_store_row rfl 151 _ _ rfl w.heap.size _ rfl rfl 151 _ f c (by rw[AI,AI,Fk];rfl) (Lq _) ?_))
  refine bodyPost_ret (v:=.agg (Ba (fk l))) (results_cell_row rfl _ _ w.heap.size 151 _ (0,0) _ rfl (setRow_heap g w.heap.size _ _ 151 _ f) underlying151 rfl c) rfl ⟨rfl,BQ k (A' _) _⟩
 .have ek:IC l=l:=by unfold IC;rw[if_neg E]
  have y:Hid (fk l=Gy l 64):=by unfold Hid fk;rw[ek]
  clear ek;go_enter func70,ntmps70
  go_wp2_with (refine wpList_copy_splice rfl _ _ 27 27 rfl 5 underlying27 Oo _ _ _ _ _ _ rfl rfl (w.heap.size+1) 0 ((List.replicate 64 (0:Int)).map (Value.int .u8)) 151 (heap_alloc2_new _ _ _) (l.map (Value.int .u8)) (by rw[nA];exact(oC (show l.length<=64 by omega)).symm) (λN=>⟨rfl,(F.af (((Below.refl _ _).alloc (A' _) _).alloc (by simp) _)).sZ (by simpa using N)⟩) (by rw[nA,nA,oO];omega) (Fl _) (w.heap.size+1) _ (Below.refl _ _) (A' _) ?_)
  intro g r b;have q:g.heap[w.heap.size+1]?=some (.cells (Ba (fk l)) 151 (0,0)):=by
   have s:g.heap[w.heap.size+1]?=some (.cells (splice ((List.replicate 64 (0:Int)).map (Value.int .u8)) 0 (l.map (Value.int .u8))).toArray 151 (0,0)):=r.out;rw[K3]at s
   rw[y.out];exact s
  have k:Bw w g:=(((Below.refl _ _).alloc (A' _) _).alloc (by simp) _).trans (b.mono (by omega));have f:g.heap[w.heap.size]?=some (.cells (Ba (List.replicate 64 0)) 151 (0,0)):=by
   rw[b.block _ (by omega)];exact heap_alloc2_old _ _ _
  clear r b;go_wp2_with (first|(refine wpList_load_row rfl 151 _ rfl (w.heap.size+1) rfl 151 _ (0,0) _ q underlying151 rfl c ?_)|(refine wpList_store_row rfl 151 _ _ rfl w.heap.size _ rfl rfl 151 _ f c (by rw[AI,AI,Fk];rfl) (Lq _) ?_))
  refine bodyPost_ret (v:=.agg (Ba (fk l))) (results_cell_row rfl _ _ w.heap.size 151 _ (0,0) _ rfl (setRow_heap g w.heap.size _ _ 151 _ f) underlying151 rfl c) rfl ⟨rfl,BQ k (A' _) _⟩
theorem dJ(l:List Int)(d:l.length=64)(j:Nat)(c:j<64):∀ w,(Instr.index 151 (.agg (Ba l)) (.int .i64 (j:Int))).run prog w=.ok (.int .u8 (l.getD j 0)) w:=by
 intro w;have b:(Ba l)[j]?=some (.int .u8 (l.getD j 0)):=by
  simp[Ba,List.getElem?_eq_getElem (show j<l.length by omega),List.getD]
 have a:(0:Int)<=j/\(j:Int)<64:=by omega
 simp[Instr.index,run_underlying underlying151,asIntOf,a,part,b];intro h;omega
theorem Mb(k:List Int)(m:Int)(w:World)(q:k.length=64)(I:0<=m/\m<256)(K:∀ x∈k,0<=x/\x<256) :
  Calls prog 72 #[.agg (Ba k),.int .u8 m] w λe w'=>∃ v',e=.returned v'/\w'.ownsRow w.heap.size 5 1 v' (Bv k m).length ((Bv k m).map (Value.int .u8))/\Bw w w':=by
 obtain⟨M,L,C,D,E⟩:=info_parts Ax;have B:(prog.info? 151).map (·.size)=some (Ba k).size:=by rw[AI,q];kernel_rfl
 have u:Hid (k.length=64):=q;clear q;go_enter func72,ntmps72
 go_wp2_with (at_make;refine wpList_make_own _ rfl _ _ 27 rfl w.heap.size 5 M (.int .u8 0) 1 underlying27 L C D _ _ _ 64 rfl rfl (by omega) (by rw[E];omega) (by unfold maxLen;omega) (by simp) ?_)
 intro F t h;have o:Bw w F:=((Below.refl _ _).alloc (A' _) _).grown h (by simp) (by simp);have g:F.heap[w.heap.size]?=some (.cells (Ba k) 151 (0,0)):=by
  rw[h.block w.heap.size (by simp) (by simp)];exact heap_alloc_new _ _
 have f:F.ownsRow w.heap.size 5 1 (.slice (some ⟨w.heap.size+1,0,none⟩) 0 64) (Bv (k.take 0) m).length ((Bv (k.take 0) m).map (Value.int .u8)):=t;clear t h;go_wp2_with (refine wpList_load_row rfl 151 _ rfl w.heap.size rfl 151 _ (0,0) _ g underlying151 rfl B ?_)
 go_loopw [5,10] (λv i wr=>∃ j:Nat,j<=64/\i=.int .i64 j/\wr.ownsRow w.heap.size 5 1 v (Bv (k.take j) m).length ((Bv (k.take j) m).map (Value.int .u8))/\Bw w wr) (λ_ i _=>64-(intOf i).toNat)
 case atStart=>exact⟨0,by omega,rfl,f,o⟩
 case round =>
  clear f o g;obtain⟨j,N,rfl,a,b⟩:=hrel;have s:=a.lt;by_cases d:j<64
  .have hix:=dJ k u.out j d;have r:(Bv (k.take j) m).length<=64:=by rw[FH,j'];omega
   have y:Hid (Bv (k.take (j+1)) m=Bv (k.take j) m++[bits .xor .u8 (k.getD j 0) m]):=by
    unfold Hid;have p:j<k.length:=by rw[u.out];exact d
    rw[nu p,AQ p,Bv,nG];rfl
   have c:=Ak K j;have l:0<=bits .xor .u8 (k.getD j 0) m/\bits .xor .u8 (k.getD j 0) m<256:=by
    rw[u8_xor _ _ c.1 c.2 I.1 I.2];have:(k.getD j 0).toNat ^^^ m.toNat<256:=qe (n:=8) (by omega) (by omega);omega
   have G:Hid (0<=bits .xor .u8 (k.getD j 0) m/\bits .xor .u8 (k.getD j 0) m<256):=l;generalize Bv (k.take j) m=pre at a y r;generalize k.getD j 0=x at hix y c l G;clear l c;go_wp2_with (at_builtin;refine Aa _ rfl _ _ 27 rfl w.heap.size 5 underlying27 Ax _ _ rfl rfl pre _ (a.alloc _) (Sl.one _ _ _ rfl G.out) (by simp;omega) (by have:=b.size;simp;omega) ?_)
   intro v' w' J H;have A:w'.ownsRow w.heap.size 5 1 v' (pre++[bits .xor .u8 x m]).length ((pre++[bits .xor .u8 x m]).map (Value.int .u8)):=by simpa using J
   have z:Bw w w':=(b.alloc b.size _).grown H (by have:=b.size;simp;omega) (λk q=>(s k q).1);clear J H a s b;go_wp2
   go_roundw
   case rel=>exact⟨j+1,by omega,by go_num,by rw[y.out];exact A,z⟩
   case measure=>simp[intOf];omega
  .have HJ:Hid (k.take j=k):=by unfold Hid;exact nf (by rw[u.out];omega)
   go_wp2
   go_ret;refine⟨u5,rfl,?_,b⟩;rw[HJ.out]at a
   exact a
theorem Pt(vk vb:Value)(k b:List Int)(w:World)(C:Sl w vk k)(hb:Sl w vb b)(Z:k.length<=100000)(a3:b.length<=90000)(ht:AD w) :
  Calls prog 42 #[vk,vb] w λe w'=>∃ v',e=.returned v'/\Fresh w w' v' (EA k b):=by
 have n:(prog.info? 151).map (·.size)=some (Ba (fk k)).size:=by rw[AI,Fk];kernel_rfl
 have d:=dl C.byte;have c:=Fk k;have F:Hid (EA k b=dig (Bv (fk k) 92++dig (Bv (fk k) 54++b))):=rfl;go_enter func42,ntmps42
 go_wp2_with fail
 refine(Q3 vk k w C Z ht).mono ?_;rintro e R ⟨rfl,v⟩;generalize fk k=K at n d c F ⊢;go_wp2_with (refine Jq rfl 151 _ _ rfl R.heap.size _ rfl rfl 151 _ (heap_alloc_new _ _) n (by rw[AI,c];rfl) (Lq _) w.heap.size w (v.alloc v.size _) v.size ?_)
 intro E g a;have hz:R.heap.size<E.heap.size:=(U'.1 g).1;go_wp2_with (refine wpList_load_row rfl 151 _ rfl R.heap.size rfl 151 _ (0,0) _ g underlying151 rfl n ?_)
 refine(Mb K 54 E c (by omega) d).mono ?_;rintro e w3 ⟨v3,rfl,z,j⟩;have U:Bw w w3:=a.trans (j.mono a.size);have p:=z.lt;have s:(Bv K 54).length=64:=by rw[FH,c]
 have t:(Bv K 92).length=64:=by rw[FH,c]
 have G:=Ma d (m:=54) (by omega);have H:=Ma d (m:=92) (by omega);go_wp2_with (at_builtin;refine Aa _ rfl _ _ 27 rfl E.heap.size 5 underlying27 Ax _ _ rfl rfl (Bv K 54) b z (hb.af U) (by omega) j.size ?_)
 intro v4 S O M;have y:Bw E S:=j.grown M j.size (λk C=>(p k C).1);have V:Bw w S:=a.trans (y.mono a.size);have f:S.ownsRow E.heap.size 5 1 v4 (Bv K 54++b).length ((Bv K 54++b).map (Value.int .u8)):=by simpa[s]using O
 have I:∀ x∈Bv K 54++b,0<=x/\x<256:=λx hx=>by
  rcases P'.1 hx with h|h
  .exact G x h
  .exact hb.byte x h
 have a1:(Bv K 54++b).length<=91000:=by rw[G',s];omega
 clear O M z p;generalize Bv K 54++b=L4 at f I a1 F;go_wp2_with fail
 refine(E8 v4 L4 S (Sl.ov f (by omega) I) (by omega) (ht.af V)).mono ?_;rintro e u ⟨v5,rfl,P,W⟩;have o:Bw E u:=y.trans (W.mono y.size);have s5:Sl u v5 (dig L4):=Sl.ov P (by rw[At];omega) (Dv L4);have l5:=At L4;have y5:=Dv L4;generalize dig L4=D at s5 F l5 y5;have B:u.heap[R.heap.size]?=some (.cells (Ba K) 151 (0,0)):=(o.block _ hz).trans g;clear f P;go_wp2_with (refine wpList_load_row rfl 151 _ rfl R.heap.size rfl 151 _ (0,0) _ B underlying151 rfl n ?_)
 refine(Mb K 92 u c (by omega) d).mono ?_;rintro e w6 ⟨v6,rfl,A,l⟩;have q:=A.lt;go_wp2_with (at_builtin;refine Aa _ rfl _ _ 27 rfl u.heap.size 5 underlying27 Ax _ _ rfl rfl (Bv K 92) D A (s5.af l) (by omega) l.size ?_)
 intro v7 T Q N;have X:Bw u T:=l.grown N l.size (λk C=>(q k C).1);have L:Bw w u:=a.trans (o.mono a.size);have i:Bw w T:=L.trans (X.mono L.size);have r:T.ownsRow u.heap.size 5 1 v7 (Bv K 92++D).length ((Bv K 92++D).map (Value.int .u8)):=by simpa[t,l5]using Q
 have J:∀ x∈Bv K 92++D,0<=x/\x<256:=λx hx=>by
  rcases P'.1 hx with h|h
  .exact H x h
  .exact y5 x h
 have a2:(Bv K 92++D).length<=96:=by rw[G',t];omega
 clear Q N A q;generalize Bv K 92++D=L7 at r J a2 F;go_wp2_with fail
 refine(E8 v7 L7 T (Sl.ov r (by omega) J) (by omega) (ht.af i)).mono ?_;rintro e w8 ⟨v8,rfl,a0,Y⟩;go_wp2
 go_ret;refine⟨v8,rfl,?_⟩;rw[F.out];exact Fresh.ov (BL a0 i.size) (FJ (At L7)) (by rw[At];omega) (Dv L7) (i.trans (Y.mono i.size))
theorem gD(m l:Value)(k b:List Int)(w:World)(i:Sl w m k)(h:Sl w l b)(q:k.length<=256)(o:b.length<=2000)(t:AD w) :
  Calls prog 40 #[m,l] w λe w'=>∃ v',e=.returned (.tuple #[v',.int .i64 0])/\Fresh w w' v' (EA k b):=by
 have s:=i;have f:=h;obtain⟨⟨a,n,rfl,_,_,_⟩,r,d⟩:=i;obtain⟨⟨v,g,rfl,_,_,_⟩,j,c⟩:=h;clear d c;go_enter func40,ntmps40
 go_wp2_with fail
 refine(Pt _ _ k b w s f (by omega) (by omega) t).mono ?_;rintro e x ⟨u,rfl,p⟩;go_wp2
 go_ret2
 exact⟨u,rfl,p⟩
theorem Pv(L M:Value)(a i:List Int)(c:Int)(w:World)(H:Sl w L a)(I:Sl w M i)(S:a.length<=1000)(U:i.length<=1000)(T:0<=c/\c<256) :
  Calls prog 69 #[L,M,.int .u8 c] w λe w'=>∃ v',e=.returned v'/\w'.ownsRow w.heap.size 5 1 v' (a++i++[c]).length ((a++i++[c]).map (Value.int .u8))/\Bw w w':=by
 obtain⟨X,A,D,E,F⟩:=info_parts Ax;have W:=H;have C:=I;obtain⟨⟨aa,R,rfl,_,_,_⟩,V,z⟩:=H;obtain⟨⟨a2,G,rfl,_,_,_⟩,J,n⟩:=I;clear z n;go_enter func69,ntmps69
 go_wp2_with (at_make;refine wpList_make_own _ rfl _ _ 27 rfl w.heap.size 5 X (.int .u8 0) 1 underlying27 A D E _ _ _ (a.length+i.length+1) rfl rfl (by omega) (by rw[F];omega) (by unfold maxLen;omega) (A' _) ?_)
 intro N s o;have b:Bw w N:=(Below.refl _ _).grown o (A' _) (by simp);have m:N.ownsRow w.heap.size 5 1 (.slice (some ⟨w.heap.size,0,none⟩) 0 (a.length+i.length+1)) ([]:List Int).length (([]:List Int).map (Value.int .u8)):=s;clear s o;go_wp2_with (at_builtin;refine Aa _ rfl _ _ 27 rfl w.heap.size 5 underlying27 Ax _ _ rfl rfl [] a m (W.af b) (by simp;omega) b.size ?_)
 intro Y O t p;have g:O.ownsRow w.heap.size 5 1 Y a.length (a.map (Value.int .u8)):=by simpa using t
 have d:Bw w O:=b.grown p b.size (by simp[Value.ownBlock]);have j:=g.lt;clear m p b t;go_wp2_with (at_builtin;refine Aa _ rfl _ _ 27 rfl w.heap.size 5 underlying27 Ax _ _ rfl rfl a i g (C.af d) (by omega) d.size ?_)
 intro Z P u q;have h:P.ownsRow w.heap.size 5 1 Z (a++i).length ((a++i).map (Value.int .u8)):=by simpa using u
 have f:Bw w P:=d.grown q d.size (λk B=>(j k B).1);have l:=h.lt;clear g q d u j;go_wp2_with (at_builtin;refine Aa _ rfl _ _ 27 rfl w.heap.size 5 underlying27 Ax _ _ rfl rfl (a++i) [c] (h.alloc _) (Sl.one _ _ _ rfl T) (by simp;omega) (by have:=f.size;simp;omega) ?_)
 intro K Q v r;have x:Q.ownsRow w.heap.size 5 1 K (a++i++[c]).length ((a++i++[c]).map (Value.int .u8)):=by simpa using v
 have y:Bw w Q:=(f.alloc f.size _).grown r (by have:=f.size;simp;omega) (λk B=>(l k B).1);clear h r f v l;go_wp2
 go_ret;exact⟨K,rfl,x,y⟩
theorem Sl.grown{row:Option Nat}(h:Sl w (.slice (some ⟨b,off,none⟩) n cap) l)(g:w.grownBy w' row)(f:some b≠row):Sl w' (.slice (some ⟨b,off,none⟩) n cap) l:=by
 obtain⟨⟨a,c,e,m,p,d⟩,j,k⟩:=h;refine⟨⟨a,c,e,m,p,?_⟩,j,k⟩;simp only[Value.slice.injEq]at e;obtain⟨rfl,_,_⟩:=e;rcases d with d|⟨b',off',e',hbs,hcell⟩
 .exact .inl d
 .simp only[Z',Addr.mk.injEq,and_true]at e';obtain⟨rfl,rfl⟩:=e';refine .inr ⟨b,off,rfl,X' hbs g.size,λi o=>?_⟩;rw[<- hcell i o];exact World.cell?_of_block (w:=w) (g.block b hbs f)
def blk(key info:List Int):Nat->List Int
 | 0=>[]
 | i+1=>EA key (blk key info i++info++[(i:Int)+1])
def Bq(key info:List Int):Nat->List Int
 | 0=>[]
 | i+1=>Bq key info i++blk key info (i+1)
def Gw(key info:List Int)(n:Nat):List Int:=(Bq key info 16).take n
theorem H8(key a:List Int)(i:Nat):(blk key a (i+1)).length=32:=DU _ _
theorem XJ(key a:List Int)(i:Nat):∀ x∈blk key a i,0<=x/\x<256:=by
 cases i with
 | zero=>intro x b;cases b
 | succ i=>exact Oy _ _
theorem gW(key a:List Int)(i:Nat):(blk key a i).length<=32:=by
 cases i with
 | zero=>simp[blk]
 | succ i=>rw[H8];omega
theorem CT(key a:List Int)(i:Nat):(Bq key a i).length=32*i:=by
 induction i with
 | zero=>rfl
 | succ i ih=>rw[Bq,G',ih,H8];omega
theorem R3(key a:List Int)(i:Nat):∀ x∈Bq key a i,0<=x/\x<256:=by
 induction i with
 | zero=>intro x b;cases b
 | succ i ih =>
  intro x b;rcases P'.1 b with h|h
  .exact ih x h
  .exact XJ key a (i+1) x h
theorem R4(key a:List Int)(n i j:Nat)(b:n<=32*i):(Bq key a (i+j)).take n=(Bq key a i).take n:=by
 induction j with
 | zero=>rfl
 | succ j ih=>rw[<- oh,Bq,nv (by rw[CT];omega),ih]
theorem VP(key a:List Int)(n i:Nat):(Bq key a (i+1)).take n=(Bq key a i).take n++(blk key a (i+1)).take (n-32*i):=by
 rw[Bq,List.take_append,CT]
theorem SA(vk vi:Value)(k i:List Int)(n:Nat)(w:World)(hk:Sl w vk k)(hi:Sl w vi i)(a9:k.length<=1000)(a8:i.length<=900)(hn:n<=512)(ht:AD w) :
  Calls prog 41 #[vk,vi,.int .i64 n] w λe w'=>∃ v',e=.returned v'/\w'.ownsRow w.heap.size 5 1 v' (Gw k i n).length ((Gw k i n).map (Value.int .u8))/\Bw w w':=by
 obtain⟨i0,Z,a2,a3,a4⟩:=info_parts Ax;go_enter func41,ntmps41
 go_wp2_with (at_make;refine wpList_make_own _ rfl _ _ 27 rfl w.heap.size 5 i0 (.int .u8 0) 1 underlying27 Z a2 a3 _ _ _ n rfl rfl (by omega) (by rw[a4];omega) (by unfold maxLen;omega) (A' _) ?_)
 intro w1 J I;have H:Bw w w1:=(Below.refl _ _).grown I (A' _) (by simp);have y:w1.ownsRow w.heap.size 5 1 (.slice (some ⟨w.heap.size,0,none⟩) 0 n) ((Bq k i 0).take n).length (((Bq k i 0).take n).map (Value.int .u8)):=by simpa[Bq]using J
 clear J I;go_wp2_with fail
 go_loopw [7,8,9] (λv b c wr=>∃ j:Nat,j<=16/\c=.int .u8 ((j:Int)+1)/\(∃ m z,v=.slice (some ⟨m,0,none⟩) (min (32*j) n) z)/\Sl wr b (blk k i j)/\wr.ownsRow w.heap.size 5 1 v ((Bq k i j).take n).length (((Bq k i j).take n).map (Value.int .u8))/\Bw w wr) (λ_ _ c _=>(17-intOf c).toNat)
 case atStart=>exact⟨0,by omega,rfl,⟨w.heap.size,n,by simp⟩,Sl.nil _ _,y,H⟩
 case round =>
  clear y H;obtain⟨j,hj,rfl,⟨m,z,rfl⟩,sb,f,V⟩:=hrel;have B:=f.lt;by_cases hc:32*j<n
  .have d:min (32*j) n=32*j:=by omega
   rw[d]at f B ⊢
   have a0:m<wr.heap.size:=(B m rfl).2;have l:((Bq k i j).take n).length=32*j:=by rw[j',CT];omega
   have a7:=gW k i j;have a5:j<=15:=by omega
   have HB:Hid (blk k i (j+1)=EA k (blk k i j++i++[(j:Int)+1])):=rfl;have HS:=VP k i n j;have E:Hid _:=HS;have yb:∀ x∈blk k i j++i++[(j:Int)+1],0<=x/\x<256:=λx hx=>by
    rcases P'.1 hx with h|h
    .rcases P'.1 h with h|h
     .exact sb.byte x h
     .exact hi.byte x h
    .obtain rfl:x=(j:Int)+1:=by simpa using h
     omega
   clear HS d;go_wp2_with fail
   refine(Pv _ vi (blk k i j) i ((j:Int)+1) wr sb (hi.af V) (by omega) (by omega) (by omega)).mono ?_;rintro e w2 ⟨v2,rfl,K,a⟩;have s:Bw w w2:=V.trans (a.mono V.size);have l2:(blk k i j++i++[(j:Int)+1]).length<=2000:=by simp;omega
   have s2:=Sl.ov K (by omega) yb;go_wp2_with fail
   refine(Pt vk v2 k _ w2 (hk.af s) s2 (by omega) (by omega) (ht.af s)).mono ?_;rintro e R ⟨v3,rfl,F⟩;rw[<- HB.out]at F
   obtain⟨T,S,N,_,Y⟩:=F.shape;have s3:=F.sl;have o:=F.tL;have l3:=H8 k i j;rw[l3]at N Y
   subst N;clear HB F s2 K l2 yb sb;have a1:=f;have g:R.ownsRow w.heap.size 5 1 (.slice (some ⟨m,0,none⟩) (32*j) z) ((Bq k i j).take n).length (((Bq k i j).take n).map (Value.int .u8)):=by
    refine f.kept (row:=none) ⟨(a.trans (o.mono a.size)).os,(a.trans (o.mono a.size)).tape,(a.trans (o.mono a.size)).output,(a.trans (o.mono a.size)).size,λq hq _=>(a.trans (o.mono a.size)).block q hq⟩ (.inr (by simp[Value.ownBlock]))
   have t:Bw w R:=s.trans (o.mono s.size);have p:=g.lt;have C:Hid ((Bq k i (j+1)).take n=(Bq k i j).take n++(blk k i (j+1)).take (n-32*j)):=E.out;clear E a1 f B;have U:((blk k i (j+1)).take (n-32*j)).length=min (n-32*j) 32:=by rw[j',l3]
   have sM:Sl R (.slice (some ⟨T,0,none⟩) (min (n-32*j) 32) S) ((blk k i (j+1)).take (n-32*j)):=by
    by_cases hq:n-32*j<=32
    .rw[oC hq];exact s3.take (n-32*j) (by omega)
    .rw[Nat.min_eq_right (by omega),nf (by omega)];exact s3
   have HN:=s3;have u:((Bq k i (j+1)).take n).length=min (32*(j+1)) n:=by rw[j',CT];omega
   have D:Hid (((Bq k i (j+1)).take n).length=min (32*(j+1)) n):=u;clear HN u;generalize (blk k i (j+1)).take (n-32*j)=M at sM U C;generalize (Bq k i j).take n=P at g p l C;have SB:Sl R (.slice (some ⟨T,0,none⟩) 32 S) (blk k i (j+1)):=s3;clear s3;have d:(min (32:Int) ((n:Int)-32*(j:Int))).toNat=min (n-32*j) 32:=by omega
   have Q:Sl R (.slice (some ⟨T,0,none⟩) (min (32:Int) ((n:Int)-32*(j:Int))).toNat S) M:=by rw[d];exact sM
   have a6:m<w2.heap.size:=X' a0 a.size;clear d sM;go_wp2_with (at_builtin;refine Aa _ rfl _ _ 27 rfl w.heap.size 5 underlying27 Ax _ _ rfl rfl P M g Q (by omega) t.size ?_)
   intro v4 w4 L A;have r:w4.ownsRow w.heap.size 5 1 v4 (P++M).length ((P++M).map (Value.int .u8)):=by simpa[l,U]using L
   have X:Bw w w4:=t.grown A t.size (λk hk=>(p k hk).1);have W:Sl w4 (.slice (some ⟨T,0,none⟩) 32 S) (blk k i (j+1)):=SB.grown A (by simp[Value.ownBlock];omega);obtain⟨g4,c4,O,_,_,_,_,_⟩:=EC r (by intro e;have:=congrArg List.length e;rw[G',l,U]at this;simp at this;omega);have G:(P++M).length=min (32*(j+1)) n:=by rw[<- C.out];exact D.out
   rw[<- C.out]at r
   rw[G]at O
   subst O;clear L A g p t SB Q U C D G l;go_wp2
   go_roundw
   case rel=>exact⟨j+1,by omega,by go_num,⟨g4,c4,rfl⟩,W,r,X⟩
   case measure=>simp[intOf];omega
  .have d:min (32*j) n=n:=by omega
   rw[d]at f ⊢
   have HQ:Hid (Gw k i n=(Bq k i j).take n):=by
    unfold Hid Gw;have:=R4 k i n j (16-j) (by omega);rw[show j+(16-j)=16 by omega]at this
    exact this
   go_wp2
   go_ret;refine⟨_,rfl,?_,V⟩;rw[HQ.out];exact f
theorem I4(k i:List Int)(n:Nat)(h:n<=512):(Gw k i n).length=n:=by
 unfold Gw;rw[j',CT];omega
theorem LC(k i:List Int)(n:Nat):∀ x∈Gw k i n,0<=x/\x<256:=λx a=>R3 k i 16 x (nm a)
theorem Um(o f g:Value)(a b d:List Int)(n:Nat)(w:World)(j:Sl w o a)(k:Sl w f b)(l:Sl w g d)(p:a.length<=256)(q:b.length<=256)(r:d.length<=256)(s:n<=512)(m:AD w) :
  Calls prog 26 #[o,f,g,.int .i64 n] w λe w'=>∃ v',e=.returned (.tuple #[v',.int .i64 0])/\w'.ownsRow w.heap.size 5 1 v' (Gw (EA b a) d n).length ((Gw (EA b a) d n).map (Value.int .u8))/\Bw w w':=by
 have s0:=j;have t:=k;have u:=l;obtain⟨⟨a0,z,rfl,_,_,_⟩,_,_⟩:=j;obtain⟨⟨x,A,rfl,_,_,_⟩,_,_⟩:=k;obtain⟨⟨y,B,rfl,_,_,_⟩,_,_⟩:=l;have C:decide ((256:Int)<(a.length:Int))=false:=by simp;omega
 have D:decide ((256:Int)<(b.length:Int))=false:=by simp;omega
 have E:decide ((256:Int)<(d.length:Int))=false:=by simp;omega
 have F:decide ((n:Int)<0)=false:=by simp
 have G:decide ((512:Int)<(n:Int))=false:=by simp;omega
 go_enter func26,ntmps26
 go_wp2_with fail
 refine(Pt _ _ b a w t s0 (by omega) (by omega) m).mono ?_;rintro e v ⟨f,rfl,c⟩;have H:=DU b a;go_wp2_with fail
 refine(SA f _ (EA b a) d n v c.sl (u.af c.tL) (by omega) (by omega) s (m.af c.tL)).mono ?_;rintro e I ⟨g,rfl,i,h⟩;go_wp2
 go_ret2
 exact⟨g,rfl,BL i c.tL.size,c.tL.trans (h.mono c.tL.size)⟩
def IB(c:Int):List Int:=Gw (EA [99,108,105,101,110,116] [c]) [] 32
def Fo:List Int:=Gw (EA [105,115,115,117,101,114] [255]) [] 32
theorem Cw(c:Int):(IB c).length=32:=I4 _ _ 32 (by omega)
theorem G0:Fo.length=32:=I4 _ _ 32 (by omega)
theorem Wm(c:Int):∀ x∈IB c,0<=x/\x<256:=LC _ _ _
theorem Wj:∀ x∈Fo,0<=x/\x<256:=LC _ _ _
theorem Sl.uA(w:World)(l:List Int)(e:TypeId)(a:Nat × Nat){g:Nat}(c:g=w.heap.size)(f:l.length=6)(b:∀ x∈l,0<=x/\x<256):Sl (w.alloc (.cells (l.map (Value.int .u8)).toArray e a)) (.slice (some ⟨g,0,none⟩) 6 6) l:=by
 subst c;refine⟨⟨_,6,by rw[f],by omega,by simp,.inr ⟨w.heap.size,0,rfl,by simp,λi d=>?_⟩⟩,by omega,b⟩;rw[cell_of_row _ _ (0+i) _ _ _ (heap_alloc_new w _)];simp[List.getElem?_eq_getElem d,List.getD]
def GY(t:Nat)(x:Int):Int:=if t%4=3 then x%16 else if t%4=0/\0<t then x/4*4 else x
def DZ(l:List Int):List Int:=(List.range 16).map λt=>GY t (l.getD t 0)
theorem Nq(l:List Int):(DZ l).length=16:=by simp[DZ]
theorem Sc(l:List Int)(t:Nat)(h:t<16):(DZ l).getD t 0=GY t (l.getD t 0):=by
 simp[DZ,List.getD,List.getElem?_map,List.getElem?_range h]
theorem Pc(t:Nat){x:Int}(h:0<=x/\x<256):0<=GY t x/\GY t x<256:=by
 unfold GY;split
 .omega
 .split<;>omega
theorem Qh(h:∀ x∈l,0<=x/\x<256):∀ x∈DZ l,0<=x/\x<256:=by
 intro x a;obtain⟨t,_,rfl⟩:=nw.1 a;exact Pc t (Ak h t)
theorem S8(h:l.length=m.length)(c:∀ t,t<l.length->l.getD t 0=m.getD t 0):l=m:=by
 apply pI h;intro t a b;have:=c t a
 rwa [AQ a,AQ b]at this
theorem jT(x:Int)(a:0<=x)(b:x<256):bits .and .u8 x 15=x%16:=by
 obtain⟨n,rfl⟩:=nI a;rw[show(15:Int)=((15:Nat):Int)from rfl,u8_and_nat _ _ (by omega) (by omega),show(15:Nat)=2^4-1 from rfl,qJ];omega
theorem RT:∀ n:Fin 256,n.val &&& 252=n.val/4*4:=by decide +kernel
theorem gQ(x:Int)(a:0<=x)(b:x<256):bits .and .u8 x 252=x/4*4:=by
 obtain⟨n,rfl⟩:=nI a;have e:n &&& 252=n/4*4:=RT ⟨n,by omega⟩;rw[show(252:Int)=((252:Nat):Int)from rfl,u8_and_nat _ _ (by omega) (by omega),e];omega
structure Upper(l m:List Int)(j:Nat):Prop where
 len:m.length=16
 at_:∀ t,m.getD t 0=if t%4=3/\t<3+4*j then l.getD t 0%16 else l.getD t 0
theorem Upper.zero(h:l.length=16):Upper l l 0:=by
 refine⟨h,λt=>?_⟩;rw[if_neg (by omega)]
theorem Upper.succ(h:Upper l m j)(a:j<4):Upper l (m.set (3+4*j) (m.getD (3+4*j) 0%16)) (j+1):=by
 refine⟨by simpa using h.len,λt=>?_⟩;by_cases e:3+4*j=t
 .subst e;rw[AT (by rw[h.len];omega),h.at_,if_neg (by omega),if_pos (by omega)]
 .rw[AF e,h.at_];by_cases c:t%4=3/\t<3+4*j
  .rw[if_pos c,if_pos (by omega)]
  .rw[if_neg c,if_neg (by omega)]
structure Lower(l m:List Int)(j:Nat):Prop where
 len:m.length=16
 at_:∀ t,t<16->m.getD t 0=if t%4=3 then l.getD t 0%16 else if t%4=0/\0<t/\t<4+4*j then l.getD t 0/4*4 else l.getD t 0
theorem Upper.lower(h:Upper l m 4):Lower l m 0:=by
 refine⟨h.len,λt a=>?_⟩;rw[h.at_];by_cases c:t%4=3
 .rw[if_pos (by omega),if_pos c]
 .rw[if_neg (by omega),if_neg c,if_neg (by omega)]
theorem Lower.succ(h:Lower l m j)(b:j<3):Lower l (m.set (4+4*j) (m.getD (4+4*j) 0/4*4)) (j+1):=by
 refine⟨by simpa using h.len,λt a=>?_⟩;by_cases e:4+4*j=t
 .subst e;rw[AT (by rw[h.len];omega),h.at_ _ a,if_neg (by omega),if_neg (by omega),if_neg (by omega),if_pos (by omega)]
 .rw[AF e,h.at_ _ a];by_cases c:t%4=3
  .rw[if_pos c,if_pos c]
  .rw[if_neg c,if_neg c];by_cases d:t%4=0/\0<t/\t<4+4*j
   .rw[if_pos d,if_pos (by omega)]
   .rw[if_neg d,if_neg (by omega)]
theorem Lower.ur(h:Lower l m 3):m=DZ l:=by
 refine S8 (by rw[h.len,Nq]) (λt a=>?_);rw[h.len]at a
 rw[h.at_ t a,Sc l t a,GY];by_cases c:t%4=3
 .rw[if_pos c,if_pos c]
 .rw[if_neg c,if_neg c];by_cases d:t%4=0/\0<t
  .rw[if_pos d,if_pos (by omega)]
  .rw[if_neg d,if_neg (by omega)]
theorem Upper.byte(h:Upper l m j)(a:∀ x∈l,0<=x/\x<256)(t:Nat):0<=m.getD t 0/\m.getD t 0<256:=by
 have:=Ak a t;rw[h.at_];split<;>omega
theorem Lower.byte(h:Lower l m j)(a:∀ x∈l,0<=x/\x<256)(t:Nat)(b:t<16):0<=m.getD t 0/\m.getD t 0<256:=by
 have:=Ak a t;rw[h.at_ t b];split
 .omega
 .split<;>omega
theorem SC(v:Value)(l:List Int)(w:World)(h:Sl w v l)(S:l.length=16) :
  Calls prog 153 #[v] w λe w'=>∃ r,e=.returned (.agg (Ai r))/\Lim 67108864 r/\val r%pp=leN (DZ l)%pp/\Bw w w':=by
 have T:=h;obtain⟨⟨a,Y,rfl,hc,hn,Z⟩,M,A⟩:=h;have n:Hid (∀ x∈l,0<=x/\x<256):=A;clear Z A hn M;have W:Hid (l.length=16):=S;go_enter func153,ntmps153
 go_wp2_with (refine wpList_copy_splice rfl _ _ 27 27 rfl 5 underlying27 YR _ _ _ _ _ _ rfl rfl (w.heap.size+1) 0 ((List.replicate 16 (0:Int)).map (Value.int .u8)) 268 (heap_alloc2_new _ _ _) (l.map (Value.int .u8)) (by rw[nA];exact(oC (show l.length<=16 by omega)).symm) (λhp=>⟨rfl,(T.af (((Below.refl _ _).alloc (A' _) _).alloc (by simp) _)).src (by simpa using hp)⟩) (by rw[nA,nA,oO];omega) (Fl _) (w.heap.size+1) _ (Below.refl _ _) (A' _) ?_)
 intro F Q q;have E:F.heap[w.heap.size+1]?=some (.cells (byA l) 268 (0,0)):=by
  have R:F.heap[w.heap.size+1]?=some (.cells (splice ((List.replicate 16 (0:Int)).map (Value.int .u8)) 0 (l.map (Value.int .u8))).toArray 268 (0,0)):=Q.out;rw[Ja,S]at R
  simpa[byA]using R
 have y:Bw w F:=(((Below.refl _ _).alloc (A' _) _).alloc (by simp) _).trans (q.mono (by omega));have C:F.heap[w.heap.size]?=some (.cells (Ai [0,0,0,0,0]) 236 (0,0)):=by
  rw[q.block _ (by omega)];exact heap_alloc2_old _ _ _
 clear Q q T;go_wp2_with fail
 go_loopw [4] (λi wr=>∃ (j:Nat) (m:List Int),j<=4/\i=.int .i64 (3+4*(j:Int))/\Upper l m j/\wr.heap[w.heap.size]?=some (.cells (Ai [0,0,0,0,0]) 236 (0,0))/\wr.heap[w.heap.size+1]?=some (.cells (byA m) 268 (0,0))/\Bw w wr) (λi _=>20-(intOf i).toNat)
 case atStart=>exact⟨0,l,by omega,rfl,Upper.zero W.out,C,E,y⟩
 case round =>
  clear C E y;obtain⟨j,m,hj,rfl,c,t,f,o⟩:=hrel;have N:=c.len;by_cases J:j<4
  .have K:3+4*(j:Int)<16:=by omega
   have H:=(cell_of_row _ _ (3+4*j) _ _ _ f).trans (Iz m (3+4*j) (by omega));have fl:=frozen_of_row _ _ (3+4*j) _ _ f;have b:=c.byte n.out (3+4*j);have u:Hid (Upper l (m.set (3+4*j) (m.getD (3+4*j) 0%16)) (j+1)):=c.succ J;have d:=jT (m.getD (3+4*j) 0) b.1 b.2;generalize m.getD (3+4*j) 0=x at H u b d;clear c;go_wp2
   go_roundw
   case rel =>
    refine⟨j+1,_,by omega,by go_num,u.out,?_,GX f _ _,?_⟩
    .exact(heap_setCell_other _ _ _ _ (by simp)).trans t
    .exact o.setCell (p:=⟨w.heap.size+1,3+4*j,none⟩) (by simp) _
   case measure=>simp[intOf];omega
  .have HJ:Hid (j=4):=by unfold Hid;omega
   have K:¬ 3+4*(j:Int)<16:=by omega
   have B:Lower l m 0:=by have:=HJ.out;subst this;exact c.lower
   clear c;go_wp2_with fail
   go_loopw [5] (λi wr=>∃ (j:Nat) (m:List Int),j<=3/\i=.int .i64 (4+4*(j:Int))/\Lower l m j/\wr.heap[w.heap.size]?=some (.cells (Ai [0,0,0,0,0]) 236 (0,0))/\wr.heap[w.heap.size+1]?=some (.cells (byA m) 268 (0,0))/\Bw w wr) (λi _=>20-(intOf i).toNat)
   case atStart=>exact⟨0,m,by omega,rfl,B,t,f,o⟩
   case round =>
    clear t f o B N;obtain⟨k,m,hk,rfl,c,t,f,o⟩:=hrel;have N:=c.len;by_cases L:k<3
    .have hki:4+4*(k:Int)<16:=by omega
     have H:=(cell_of_row _ _ (4+4*k) _ _ _ f).trans (Iz m (4+4*k) (by omega));have fl:=frozen_of_row _ _ (4+4*k) _ _ f;have b:=c.byte n.out (4+4*k) (by omega);have u:Hid (Lower l (m.set (4+4*k) (m.getD (4+4*k) 0/4*4)) (k+1)):=c.succ L;have d:=gQ (m.getD (4+4*k) 0) b.1 b.2;generalize m.getD (4+4*k) 0=x at H u b d;clear c;go_wp2
     go_roundw
     case rel =>
      refine⟨k+1,_,by omega,by go_num,u.out,?_,GX f _ _,?_⟩
      .exact(heap_setCell_other _ _ _ _ (by simp)).trans t
      .exact o.setCell (p:=⟨w.heap.size+1,4+4*k,none⟩) (by simp) _
     case measure=>simp[intOf];omega
    .have hki:¬ 4+4*(k:Int)<16:=by omega
     have V:Hid (k=3):=by unfold Hid;omega
     have s:m=DZ l:=by have:=V.out;subst this;exact c.ur
     have s3:Sl wr (.slice (some ⟨w.heap.size+1,0,none⟩) 16 16) m:=by
      refine Sl.rowOf f N (by omega) ?_;rw[s];exact Qh n.out
     have X:Hid (m=DZ l):=s;have G:Hid _:=s3;have O:w.heap.size<wr.heap.size:=(U'.1 t).1;clear c s3 s f;go_wp2_with fail
     refine(Ro _ m _ G.out (by omega)).mono ?_;rintro e U ⟨r,rfl,P,vr,z⟩;have D:=(z.block w.heap.size O).trans t;have I:Bw w U:=o.trans (z.mono o.size);have g:=Dj P.1;go_wp2_with ((with_reducible (refine As ?_));(refine wpList_store_row rfl 236 _ _ rfl (w.heap.size) _ rfl rfl 236 _ D g (by rw[Aj,Aj,P.1];rfl) (BG r) ?_))
     exact bodyPost_ret (v:=.agg (Ai r)) (results_cell_row rfl _ _ (w.heap.size) 236 _ (0,0) _ rfl (setRow_heap U (w.heap.size) _ _ 236 _ D) underlying236 rfl g) rfl ⟨r,rfl,P,by rw[vr,X.out],Bk I (A' _) _⟩
def AN(v:Int)(i:Nat):Int:=v/256^i%256
theorem Gr(v:Int)(i:Nat):0<=AN v i/\AN v i<256:=by unfold AN;omega
def leB(n:Nat)(v:Int):List Int:=(List.range n).map (AN v)
theorem DB(n:Nat)(v:Int):(leB n v).length=n:=by simp[leB]
theorem IE(n:Nat)(v:Int):∀ x∈leB n v,0<=x/\x<256:=by
 intro x a;obtain⟨j,_,rfl⟩:=nw.1 a;exact Gr v j
def FV(S:Nat->Int):Nat->Int
 | 0=>0
 | k+1=>FV S k+S k*256^k
def I0(S:Nat->Int)(k:Nat):Int:=FV S k/256^k
theorem Ml(k:Nat):(0:Int)<256^k:=Int.pow_pos (by omega)
theorem NV(S:Nat->Int):I0 S 0=0:=by simp[I0,FV]
theorem NU(S:Nat->Int)(k:Nat):I0 S (k+1)=(I0 S k+S k)/256:=by
 have a:=Ml k;unfold I0;rw[FV,qL,<- ql (qD a),Int.add_mul_ediv_right _ _ (Int.ne_of_gt a)]
theorem RX(S:Nat->Int)(h:∀ j,0<=S j/\S j<1000)(k:Nat):0<=I0 S k/\I0 S k<256:=by
 induction k with
 | zero=>rw[NV];omega
 | succ k ih=>rw[NU];have:=h k;omega
theorem Xf(S:Nat->Int)(k d:Nat):∃ Z,FV S (k+d)=FV S k+256^k*Z:=by
 induction d with
 | zero=>exact⟨0,by simp⟩
 | succ d ih =>
  obtain⟨Z,a⟩:=ih;refine⟨Z+S (k+d)*256^d,?_⟩;rw[<- oh,FV,a,pY]
  grind
theorem Lt(v Z:Int)(n k:Nat)(h:k<n):AN (v+256^n*Z) k=AN v k:=by
 have a:=Ml k;obtain⟨d,rfl⟩:∃ d,n=k+(1+d):=⟨n-k-1,by omega⟩;unfold AN;rw[pY,pY,show(256:Int)^k*(256^1*256^d)*Z=256^k*(256*(256^d*Z))by grind,Int.add_mul_ediv_left _ _ (Int.ne_of_gt a)];omega
theorem VE(S:Nat->Int)(n k:Nat)(h:k<n):(I0 S k+S k)%256=AN (FV S n) k:=by
 have b:=Ml k;obtain⟨d,rfl⟩:∃ d,n=(k+1)+d:=⟨n-(k+1),by omega⟩;obtain⟨Z,a⟩:=Xf S (k+1) d;rw[a,Lt _ _ _ _ (by omega),AN,FV,Int.add_mul_ediv_right _ _ (Int.ne_of_gt b)];rfl
theorem aY(S T:Nat->Int)(k:Nat):FV (λj=>S j+T j) k=FV S k+FV T k:=by
 induction k with
 | zero=>rfl
 | succ k ih=>simp only[FV,ih];grind
theorem aZ(l:List Int)(k:Nat):FV (λj=>l.getD j 0) k=leP l k:=by
 induction k with
 | zero=>rfl
 | succ k ih=>simp only[FV,leP,ih]
theorem Ub(v:Int)(n:Nat):∃ Z,v=FV (AN v) n+256^n*Z/\Z=v/256^n:=by
 induction n with
 | zero=>exact⟨v,by simp[FV],by simp⟩
 | succ n ih =>
  obtain⟨Z,b,a⟩:=ih;refine⟨Z/256,?_,?_⟩
  .rw[FV,AN,<- a,qL];have:Z=Z%256+256*(Z/256):=by omega
   grind
  .rw[a,qL,ql (qD (Ml n))]
theorem XN(v:Int)(s:List Int)(k:Nat)(a:k<16)(b:s.length<=16) :
  (I0 (λj=>AN v j+s.getD j 0) k+(AN v k+s.getD k 0))%256=AN (v+leN s) k:=by
 rw[VE (λj=>AN v j+s.getD j 0) 16 k a,aY (AN v) (λj=>s.getD j 0),aZ,Zh 16 b];obtain⟨Z,c,_⟩:=Ub v 16;have e:v+leN s=FV (AN v) 16+leN s+256^16*Z:=by omega
 rw[e,Lt _ _ _ _ a]
def Jf(v:Int)(k:Nat):List Int:=(List.range 16).map λj=>if j<k then AN v j else 0
theorem RB(v:Int)(k:Nat):(Jf v k).length=16:=by simp[Jf]
theorem Xl(v:Int):Jf v 0=List.replicate 16 0:=rfl
theorem bq(v:Int):Jf v 16=leB 16 v:=by
 unfold Jf leB;refine rm λj a=>?_;rw[if_pos (pM.1 a)]
theorem Xk(v:Int)(k:Nat)(_hk:k<16):(Jf v k).set k (AN v k)=Jf v (k+1):=by
 apply pI (by simp[Jf]);intro j a b;rw[pi];simp only[Jf,List.getElem_map,List.getElem_range];by_cases e:k=j
 .subst e;rw[if_pos rfl,if_pos (by omega)]
 .rw[if_neg e];by_cases c:j<k
  .rw[if_pos c,if_pos (by omega)]
  .rw[if_neg c,if_neg (by omega)]
theorem Tt(a b:Int)(k:Nat)(m:Int)(d:m=2^k)(g:0<=a)(c:a<m)(h:0<=b)(i:a+b*m<18446744073709551616):bits .or .u64 a (b*m)=a+b*m:=by
 obtain⟨x,rfl⟩:=nI g;obtain⟨y,rfl⟩:=nI h;have e:(y:Int)*m=((2^k*y:Nat):Int):=by rw[d,ri,pN,Int.mul_comm];rfl
 rw[e]at i ⊢
 have j:x<2^k:=by
  have:((x:Nat):Int)<((2^k:Nat):Int):=by rw[pN];rw[d]at c;exact c
  omega
 have f:=pP j y;rw[u64_or_nat _ _ (by omega) (by omega),Nat.or_comm,<- f];omega
theorem jp{a b:Int}(h:a=b):Ending.returned (.int .u8 a)=.returned (.int .u8 b):=by rw[h]
theorem RW(n:List Int)(i:Nat)(w:World)(o:Lim 67108864 n)(B:i<16) :
  Calls prog 178 #[.agg (Ai n),.int .i64 i] w λe w'=>e=.returned (.int .u8 (AN (val n) i))/\Bw w w':=by
 obtain⟨a,b,c,d,e,rfl,⟨q,r⟩,⟨s,t⟩,⟨u,v⟩,⟨x,y⟩,⟨z,A⟩⟩:=o.split;have f:(w.alloc (.cells (Ai [a,b,c,d,e]) 236 (0,0))).heap[w.heap.size]?=some (.cells (Ai [a,b,c,d,e]) 236 (0,0)):=heap_alloc_new _ _;have h:=(cell_of_row _ _ 0 _ _ _ f).trans (Au _ 0 (by simp));have j:=(cell_of_row _ _ 1 _ _ _ f).trans (Au _ 1 (by simp));have k:=(cell_of_row _ _ 2 _ _ _ f).trans (Au _ 2 (by simp));have l:=(cell_of_row _ _ 3 _ _ _ f).trans (Au _ 3 (by simp));have m:=(cell_of_row _ _ 4 _ _ _ f).trans (Au _ 4 (by simp));simp only[nz,nR]at h j k l m;have g:Hid (val [a,b,c,d,e]=a+67108864*b+4503599627370496*c+302231454903657293676544*d+20282409603651670423947251286016*e):=D4 a b c d e;generalize Ai [a,b,c,d,e]=arr at h j k l m ⊢;generalize val [a,b,c,d,e]=V at g ⊢;clear o f;obtain rfl|rfl|rfl|rfl|rfl|rfl|rfl|rfl|rfl|rfl|rfl|rfl|rfl|rfl|rfl|rfl:i=0\/i=1\/i=2\/i=3\/i=4\/i=5\/i=6\/i=7\/i=8\/i=9\/i=10\/i=11\/i=12\/i=13\/i=14\/i=15:=by omega
 all_goals
  go_enter func178,ntmps178
  go_wp2
  go_ret;refine⟨jp ?_,(Below.refl _ _).alloc (A' _) _⟩;have p:=g.out;clear g h j k l m;unfold AN
  first
   | rw[Tt _ _ 2 4 rfl (by omega) (by omega) (by omega) (by omega)]
   | rw[Tt _ _ 4 16 rfl (by omega) (by omega) (by omega) (by omega)]
   | rw[Tt _ _ 6 64 rfl (by omega) (by omega) (by omega) (by omega)]
   | skip
  subst p;simp only[Int.reducePow];omega
theorem NF{d:Nat}{K:Act->World->Prop}{a:Act}(R:World->Prop){A:Act}(c:∀ K':Act->World->Prop,Hid (∀ W2,R W2->K' A W2)->(Code.region d ops true).wp P (Exit.then K' Q) a w)(b:∀ W2,R W2->K A W2):(Code.region d ops true).wp P (Exit.then K Q) a w:=c K b
theorem PN(nl:List Int)(v:Value)(s:List Int)(w:World)(h:Sl w v s)(Z:s.length=16)(hn:Lim 67108864 nl) :
  Calls prog 151 #[.agg (Ai nl),v] w λe w'=>∃ v',e=.returned v'/\Sl w' v' (leB 16 (val nl+leN s))/\Bw w w':=by
 obtain⟨⟨a,a3,rfl,hc,a1,O⟩,a0,r⟩:=h;rcases O with rfl|⟨B,off,rfl,hB,hcell⟩
 .simp at Z
 have HC:Hid (∀ i,i<16->w.cell? ⟨B,off+i,none⟩=some (.int .u8 (s.getD i 0))):=λi hi=>hcell i (by omega);have n:Hid (∀ x∈s,0<=x/\x<256):=r;have o:Hid (s.length=16):=Z;rw[Z]at hc ⊢
 clear hcell r a1 a0;obtain⟨J,K,L,M,N,rfl,_⟩:=hn.split;obtain⟨V,X⟩:∃ V,val [J,K,L,M,N]=V:=⟨_,rfl⟩;have HV:Hid (val [J,K,L,M,N]=V):=X;rw[X];clear X;obtain⟨i0,z,A,C,D⟩:=info_parts Ax;go_enter func151,ntmps151
 go_wp2_with (at_make;refine wpList_make_row _ rfl _ _ 27 rfl 5 i0 (.int .u8 0) underlying27 z A C rfl _ _ 16 rfl rfl (by rw[D];omega) (by omega) ?_)
 clear z A C D
 go_loopw [6,11] (λcv i wr=>∃ (k:Nat),k<=16/\i=.int .i64 k/\cv=.int .i64 (I0 (λj=>AN V j+s.getD j 0) k)/\wr.heap[w.heap.size]?=some (.cells (Ai [J,K,L,M,N]) 236 (0,0))/\wr.heap[w.heap.size+1]?=some (.cells (byA (Jf (V+leN s) k)) 5 (0,0))/\Bw w wr) (λ_ i _=>16-(intOf i).toNat)
 case atStart =>
  refine⟨0,by omega,rfl,by rw[NV],?_,?_,?_⟩
  .exact heap_alloc2_old _ _ _
  .have e:madeCells #[Value.int .u8 0] 16=byA (Jf (V+leN s) 0):=by rw[Xl];kernel_rfl
   rw[e];exact heap_alloc2_new _ _ _
  .exact((Below.refl _ _).alloc (A' _) _).alloc (by simp) _
 case round =>
  obtain⟨k,hk,rfl,rfl,f,g,P⟩:=hrel;by_cases b:k<16
  .have hki:(k:Int)<16:=by omega
   have E:=(cell_of_row _ _ 0 _ _ _ f).trans (Au _ 0 (by simp));have F:=(cell_of_row _ _ 1 _ _ _ f).trans (Au _ 1 (by simp));have G:=(cell_of_row _ _ 2 _ _ _ f).trans (Au _ 2 (by simp));have H:=(cell_of_row _ _ 3 _ _ _ f).trans (Au _ 3 (by simp));have I:=(cell_of_row _ _ 4 _ _ _ f).trans (Au _ 4 (by simp));simp only[nz,nR]at E F G H I;have a2:w.heap.size+1<wr.heap.size:=(U'.1 g).1;have U:B<wr.heap.size:=by omega
   have ch:=(P.cell (p:=⟨B,off+k,none⟩) hB).trans (HC.out k b);have t:∀ j,0<=AN V j+s.getD j 0/\AN V j+s.getD j 0<1000:=λj=>by
    have R:=Gr V j;have S:=Ak n.out j;omega
   have u:=RX (λj=>AN V j+s.getD j 0) t k;have d:Hid (I0 (λj=>AN V j+s.getD j 0) (k+1)=(I0 (λj=>AN V j+s.getD j 0) k+(AN V k+s.getD k 0))/256):=NU _ k;have c:Hid ((I0 (λj=>AN V j+s.getD j 0) k+(AN V k+s.getD k 0))%256=AN (V+leN s) k):=XN V s k b (by rw[o.out];omega);have R:=Gr V k;have S:=Ak n.out k;have l:=RW [J,K,L,M,N] k;rw[HV.out]at l
   have m:Hid (∀ W,Calls prog 178 #[.agg (Ai [J,K,L,M,N]),.int .i64 k] W λe w'=>e=.returned (.int .u8 (AN V k))/\Bw W w'):=λW=>l W hn b;have HT:Hid _:=g;have HR:Hid _:=f;have HB:Hid _:=P;clear l t g f P;have a5:=RB (V+leN s) k;have Q:Hid ((Jf (V+leN s) k).set k (AN (V+leN s) k)=Jf (V+leN s) (k+1)):=Xk _ k b;generalize I0 (λj=>AN V j+s.getD j 0) k=cy at d c u;generalize AN V k=x at d c R m;generalize s.getD k 0=y at d c S ch;obtain⟨x1,x2⟩:=R;obtain⟨y1,y2⟩:=S;obtain⟨z1,z2⟩:=u;go_wp2_with fail
   apply NF (λW=>Bw wr W)
   .intro K2 HK2
    go_region_with (go_at_call 178;refine(m.out _).mono ?_;rintro e w2 ⟨rfl,q⟩;have a4:=(q.cell (p:=⟨B,off+k,none⟩) U).trans ch)
    all_goals exact HK2.out _ ((Below.refl _ _).drew.trans q)
   intro W Y;have g:=(Y.block _ a2).trans HT.out;have f:=(Y.block _ (by omega)).trans HR.out;have ct:=(cell_of_row _ _ k _ _ _ g).trans (Iz _ k (by omega));have ft:=frozen_of_row _ _ k _ _ g;have T:Bw w W:=HB.out.trans (Y.mono HB.out.size);clear E F G H I ch;generalize (Jf (V+leN s) k).getD k 0=c0 at ct;go_wp2
   go_roundw
   case rel =>
    refine⟨k+1,by omega,by go_num,?_,?_,?_,?_⟩
    .rw[d.out]
    .exact(heap_setCell_other _ _ _ _ (by simp)).trans f
    .have O:=GX g k (AN (V+leN s) k);rw[Q.out,<- c.out]at O
     exact O
    .exact T.setCell (p:=⟨w.heap.size+1,k,none⟩) (by simp) _
   case measure=>simp[intOf];omega
  .have hki:¬ (k:Int)<16:=by omega
   have HK:Hid (k=16):=by unfold Hid;omega
   go_wp2
   go_ret;have hK:=HK.out;subst hK;rw[bq]at g
   exact⟨_,rfl,Sl.rowOf g (DB _ _) (by rw[DB];omega) (IE _ _),P⟩
def Xi(key data:List Int):List Int:=leB 16 (gE (leN (DZ (key.take 16))) data+leN (key.drop 16))
theorem R9(key a:List Int):(Xi key a).length=16:=DB _ _
theorem Xj(key a:List Int):∀ x∈Xi key a,0<=x/\x<256:=IE _ _
theorem Sl.ti(h:Sl w v l):∃ a c,v=.slice a l.length c:=by
 obtain⟨⟨a,b,e,_⟩,_⟩:=h;exact⟨a,b,e⟩
theorem j7(r q:Value)(key a:List Int)(w:World)(g:Sl w r key)(m:Sl w q a)(lk:key.length=32)(B:a.length<=4000) :
  Calls prog 119 #[r,q] w λe w'=>∃ v',e=.returned (.tuple #[v',.int .i64 0])/\Sl w' v' (Xi key a)/\Bw w w':=by
 obtain⟨k,l,rfl⟩:=g.ti;obtain⟨ad,K,rfl⟩:=m.ti;rw[lk]at g ⊢
 obtain⟨s,u,c,o⟩:=g.sa 16 (by omega);obtain⟨t,v,d,p⟩:=g.from 16 (by omega);have x:∀ W,(Instr.slice 27 (.slice k 32 l) none (some (.int .i64 16)) none).run prog W=.ok (.slice s 16 u) W:=c;have y:∀ W,(Instr.slice 27 (.slice k 32 l) (some (.int .i64 16)) none none).run prog W=.ok (.slice t 16 v) W:=d;clear c d;have lt:(key.take 16).length=16:=by rw[j'];omega
 have n:(key.drop 16).length=16:=by rw[nc];omega
 have C:¬ (4000:Int)<(a.length:Int):=by omega
 have h:Hid (Xi key a=leB 16 (gE (leN (DZ (key.take 16))) a+leN (key.drop 16))):=rfl;generalize key.take 16=K1 at o lt h;generalize key.drop 16=K2 at p n h;clear g lk;have j:Hid (a.length<=4000):=B;go_enter func119,ntmps119
 go_wp2_with fail
 go_region_with (first
  | (go_at_call 153;refine(SC _ K1 _ (o.af ((Below.refl _ _).drew)) lt).mono ?_;rintro e L ⟨E,rfl,z,G,b⟩)
  | (go_at_call 152;refine(Pn E (leN (DZ K1)) _ a _ (m.af ((Below.refl _ _).drew.trans b)) j.out z G).mono ?_;rintro e J ⟨D,rfl,A,H,f⟩)
  | (go_at_call 151;refine(PN D _ K2 _ (p.af (((Below.refl _ _).drew.trans b).trans (f.mono b.size))) n A).mono ?_;rintro e M ⟨I,rfl,F,i⟩))
 all_goals
  go_wp2
  go_ret2
  refine⟨I,rfl,?_,?_⟩
  .rw[h.out,<- H];exact F
  .have b3:Bw w J:=((Below.refl _ _).drew.trans b).trans (f.mono b.size);exact b3.trans (i.mono b3.size)
def gap(n:Nat):Nat:=(16-n%16)%16
def EN(l:List Int):List Int:=l++List.replicate (gap l.length) 0
theorem ET(l:List Int):(EN l).length=l.length+gap l.length:=by rw[EN,G',oO]
theorem If(n:Nat):gap n<16:=by unfold gap;omega
theorem UG(n:Nat):(n+gap n)%16=0:=by unfold gap;omega
theorem VY(n j:Nat)(h:j<gap n):¬ (n+j)%16=0:=by unfold gap at h;omega
theorem d8(n m:Nat)(h:n%16=0):gap (n+m)=gap m:=by unfold gap;omega
theorem O4(h:∀ x∈l,0<=x/\x<256):∀ x∈EN l,0<=x/\x<256:=by
 intro x a;rcases P'.1 a with h1|h1
 .exact h x h1
 .rw[(qd.1 h1).2];omega
theorem ZR(a s:List Int):EN (EN a++s)=EN a++EN s:=by
 have h:(EN a).length%16=0:=by rw[ET];exact UG _
 rw[EN,G',d8 _ _ h,mY];rfl
theorem Zg(k:Nat)(v:Int):leB (k+1) v=leB k v++[AN v k]:=by
 simp[leB,List.range_succ]
def G1(a s:List Int):List Int:=EN a++EN s++leB 8 (a.length:Int)++leB 8 (s.length:Int)
theorem ID(a s:List Int):(G1 a s).length=a.length+gap a.length+(s.length+gap s.length)+8+8:=by
 simp only[G1,G',ET,DB]
theorem SY{s:List Int}(b:∀ x∈a,0<=x/\x<256)(c:∀ x∈s,0<=x/\x<256):∀ x∈G1 a s,0<=x/\x<256:=by
 intro x hx;rcases P'.1 hx with hx|hx
 .rcases P'.1 hx with hx|hx
  .rcases P'.1 hx with hx|hx
   .exact O4 b x hx
   .exact O4 c x hx
  .exact IE _ _ x hx
 .exact IE _ _ x hx
def Ej(key nonce a s:List Int):List Int:=Xi ((CL (Cc key (BitVec.ofNat 32 0) nonce)).take 32) (G1 a s)
theorem Jd(key b a s:List Int):(Ej key b a s).length=16:=R9 _ _
theorem ME(key b a s:List Int):∀ x∈Ej key b a s,0<=x/\x<256:=Xj _ _
def D7(key nonce p:List Int):List Int:=KH (Cc key (BitVec.ofNat 32 1) nonce) p
theorem CG(key a p:List Int):(D7 key a p).length=p.length:=Di _ _
def D6(key nonce a p:List Int):List Int:=D7 key nonce p++Ej key nonce a (D7 key nonce p)
theorem FR(key b a p:List Int):(D6 key b a p).length=p.length+16:=by
 rw[D6,G',CG,Jd]
theorem Kz(v:Value)(l:List Int)(B:Nat)(w:World)(p:w.ownsRow B 5 1 v l.length (l.map (Value.int .u8)))(E:B<=w.heap.size)(J:l.length<=100000) :
  Calls prog 154 #[v] w λe w'=>∃ v',e=.returned v'/\w'.ownsRow B 5 1 v' (EN l).length ((EN l).map (Value.int .u8))/\Below B w w':=by
 have r:Hid (EN l=l++List.replicate (gap l.length) 0):=rfl;have F:=If l.length;have s:Hid (∀ j,j<gap l.length->¬ (l.length+j)%16=0):=λj x=>VY _ _ x;have q:Hid ((l.length+gap l.length)%16=0):=UG _;obtain⟨a0,A,rfl⟩:=ES p;generalize gap l.length=G at r F s q;go_enter func154,ntmps154
 go_wp2_with fail
 go_loopw [0] (λv wr=>∃ (j:Nat) (a:Option Addr) (f:Nat),j<=G/\v=.slice a (l.length+j) f/\wr.ownsRow B 5 1 v (l++List.replicate j 0).length ((l++List.replicate j 0).map (Value.int .u8))/\Below B w wr) (λv _=>l.length+G-Zk v)
 case atStart=>exact⟨0,a0,A,by omega,rfl,by simpa using p,Below.refl _ _⟩
 case round =>
  clear p;obtain⟨j,a,f,x,rfl,b,d⟩:=hrel;have h:=b.lt;by_cases o:j<G
  .have t:=s.out j o;have u:¬ ((l.length:Int)+j)%16=0:=by omega
   go_wp2_with (at_builtin;refine Aa _ rfl _ _ 27 rfl B 5 underlying27 Ax _ _ rfl rfl (l++List.replicate j 0) [0] (b.alloc _) (Sl.one _ _ _ rfl (by omega)) (by simp;omega) (by have:=d.size;simp;omega) ?_)
   intro I y i g;have c:y.ownsRow B 5 1 I (l++List.replicate (j+1) 0).length ((l++List.replicate (j+1) 0).map (Value.int .u8)):=by rw[<- Mx];simpa using i
   have n:Below B w y:=(d.alloc (mS E d.size) _).grown g (by have:=d.size;simp;omega) (λk H=>(h k H).1);obtain⟨z,C,m⟩:=ES c;rw[G',oO]at m
   subst m;clear i g b h d t u;go_wp2
   go_roundw
   case rel=>exact⟨j+1,z,C,by omega,rfl,c,n⟩
   case measure=>simp[Zk];omega
  .have HJ:Hid (G=j):=by unfold Hid;omega
   have D:=q.out;have t:((l.length:Int)+j)%16=0:=by have:=HJ.out;omega
   have u:(((l.length:Int)+j)%16 != 0)=false:=by simp;omega
   clear D;go_wp2
   go_ret;refine⟨_,rfl,?_,d⟩;rw[r.out,HJ.out];exact b
theorem GS(v:Value)(l:List Int)(n:Nat)(B:Nat)(w:World)(r:w.ownsRow B 5 1 v l.length (l.map (Value.int .u8)))(A:B<=w.heap.size)(G:l.length<=100000)(H:n<=100000) :
  Calls prog 155 #[v,.int .i64 n] w λe w'=>∃ v',e=.returned v'/\w'.ownsRow B 5 1 v' (l++leB 8 (n:Int)).length ((l++leB 8 (n:Int)).map (Value.int .u8))/\Below B w w':=by
 go_enter func155,ntmps155
 go_wp2_with fail
 go_loopw [0,1,5] (λv s i wr=>∃ k:Nat,k<=8/\i=.int .i64 k/\s=.int .i64 ((n:Int)/256^k)/\wr.ownsRow B 5 1 v (l++leB k (n:Int)).length ((l++leB k (n:Int)).map (Value.int .u8))/\Below B w wr) (λ_ _ i _=>8-(intOf i).toNat)
 case atStart=>exact⟨0,by omega,rfl,by simp,by simpa[leB]using r,Below.refl _ _⟩
 case round =>
  clear r;obtain⟨k,q,rfl,rfl,a,c⟩:=hrel;have h:=a.lt;by_cases C:k<8
  .have hki:(k:Int)<8:=by omega
   obtain⟨x,d⟩:∃ x:Int,(n:Int)/256^k=x:=⟨_,rfl⟩;have t:(0:Int)<256^k:=Ml k;have D:0<=x:=by rw[<- d];exact Int.ediv_nonneg (by omega) (by omega)
   have E:x<=100000:=by rw[<- d];have:=Int.ediv_le_self (256^k) (show(0:Int)<=n by omega);omega
   have z:Hid ((n:Int)/256^(k+1)=x/256):=by unfold Hid;rw[qL,<- ql (qD t),d]
   have b:Hid (x%256=AN n k):=by unfold Hid AN;rw[d]
   have g:=DB k (n:Int);have o:Hid (leB (k+1) (n:Int)=leB k n++[AN n k]):=Zg k _;rw[d];clear d t;generalize leB k (n:Int)=pre at a o g;generalize AN (n:Int) k=y at b o;go_wp2_with (at_builtin;refine Aa _ rfl _ _ 27 rfl B 5 underlying27 Ax _ _ rfl rfl (l++pre) [y] (a.alloc _) (Sl.ue _ _ _ _ rfl ?_ ?_) (by simp;omega) (by have:=c.size;simp;omega) ?_)
   .have:=b.out;omega
   .have:=b.out;omega
   intro F u j f;have m:u.ownsRow B 5 1 F (l++(pre++[y])).length ((l++(pre++[y])).map (Value.int .u8)):=by rw[<- mY];simpa[g]using j
   have p:Below B w u:=(c.alloc (mS A c.size) _).grown f (by have:=c.size;simp;omega) (λk q=>(h k q).1);clear j f a h c;go_wp2
   go_roundw
   case rel=>exact⟨k+1,by omega,by go_num,by rw[z.out],by rw[o.out];exact m,p⟩
   case measure=>simp[intOf];omega
  .obtain rfl:k=8:=by omega
   go_wp2
   go_ret;exact⟨_,rfl,a,c⟩
theorem Zd(O P:Value)(a s:List Int)(w:World)(z:Sl w O a)(B:Sl w P s)(U:a.length<=10000)(V:s.length<=10000) :
  Calls prog 120 #[O,P] w λe w'=>∃ v',e=.returned v'/\Sl w' v' (G1 a s)/\Bw w w':=by
 have f:Hid (G1 a s=EN (EN a++s)++leB 8 (a.length:Int)++leB 8 (s.length:Int)):=by unfold Hid;rw[ZR];rfl
 have R:Hid (∀ x∈G1 a s,0<=x/\x<256):=SY z.byte B.byte;have Q:Hid ((G1 a s).length<=30000):=by unfold Hid;rw[ID];have:=If a.length;have:=If s.length;omega
 have H:(EN a).length<=11000:=by rw[ET];have:=If a.length;omega
 have i:(EN (EN a++s)).length<=30000:=by rw[ET,G'];have:=If ((EN a).length+s.length);omega
 obtain⟨aa,ca,rfl⟩:=z.shape;obtain⟨S,cs,rfl⟩:=B.shape;generalize L:a.length=n at U f z ⊢;generalize K:s.length=m at V f B ⊢;have l:Hid (a.length=n):=L;have j:Hid (s.length=m):=K;clear L K;go_enter func120,ntmps120
 go_wp2_with (at_builtin;refine Aa _ rfl _ _ 27 rfl w.heap.size 5 underlying27 Ax _ _ rfl rfl [] a (World.ownsRow_nil _ _ _ _) z (by have:=l.out;simp;omega) (A' _) ?_)
 intro M I c p;have C:Bw w I:=(Below.refl _ _).grown p (A' _) (by simp[Value.ownBlock]);replace c:I.ownsRow w.heap.size 5 1 M a.length (a.map (Value.int .u8)):=by simpa using c
 clear p;go_wp2_with fail
 refine(Kz M a w.heap.size I c C.size (by have:=l.out;omega)).mono ?_;rintro e w2 ⟨v2,rfl,d,g⟩;replace g:=C.trans g;clear c C;have v:=B.af g;have r:=d.lt;generalize EN a=A at f H i d;go_wp2_with (at_builtin;refine Aa _ rfl _ _ 27 rfl w.heap.size 5 underlying27 Ax _ _ rfl rfl A s d v (by have:=j.out;omega) g.size ?_)
 intro N J b q;have D:Bw w J:=g.grown q g.size (λk T=>(r k T).1);clear q r d g v;replace b:J.ownsRow w.heap.size 5 1 N (A++s).length ((A++s).map (Value.int .u8)):=by simpa using b
 have F:(A++s).length<=21000:=by rw[G'];have:=j.out;omega
 generalize A++s=AS at f i b F;go_wp2_with fail
 refine(Kz N AS w.heap.size J b D.size (by omega)).mono ?_;rintro e Z ⟨W,rfl,h,o⟩;replace o:=D.trans o;clear b D;generalize EN AS=X at f i h;go_wp2_with fail
 refine(GS W X n w.heap.size Z h o.size (by omega) (by omega)).mono ?_;rintro e w5 ⟨Y,rfl,t,y⟩;replace y:=o.trans y;have G:(X++leB 8 (n:Int)).length<=30008:=by rw[G',DB];omega
 clear h o;generalize X++leB 8 (n:Int)=X5 at f G t;go_wp2_with fail
 refine(GS Y X5 m w.heap.size w5 t y.size (by omega) (by omega)).mono ?_;rintro e w6 ⟨v6,rfl,u,E⟩;replace E:=y.trans E;rw[<- f.out]at u
 go_wp2
 go_ret;exact⟨_,rfl,Sl.ov u (by have:=Q.out;omega) R.out,E⟩
def FE(key nonce a:List Int):Bool:=decide (key.length=32)&&decide (nonce.length=12)&&decide (a.length<=256)
theorem Hc(h i g:Value)(key b a:List Int)(w:World)(d:Sl w h key)(f:Sl w i b)(c:Sl w g a) :
  Calls prog 76 #[h,i,g] w λe w'=>e=.returned (.bool (FE key b a))/\w'=w:=by
 have j:=d.len;have k:=f.len;have l:=c.len;obtain⟨n,r,rfl⟩:=d.shape;obtain⟨o,s,rfl⟩:=f.shape;obtain⟨m,q,rfl⟩:=c.shape;unfold FE;generalize key.length=n1 at j d ⊢;generalize b.length=n2 at k f ⊢;generalize a.length=n3 at l c ⊢;clear d f c;by_cases p:(n1:Int)=32
 .by_cases c2:(n2:Int)=12
  .by_cases c3:(n3:Int)<=256
   .go_enter func76,ntmps76
    go_wp2
    go_ret;refine⟨Ay ?_,rfl⟩;simp;omega
   .go_enter func76,ntmps76
    go_wp2
    go_ret;refine⟨Ay ?_,rfl⟩;simp;omega
  .go_enter func76,ntmps76
   go_wp2
   go_ret;refine⟨Ay ?_,rfl⟩;simp;omega
 .go_enter func76,ntmps76
  go_wp2
  go_ret;refine⟨Ay ?_,rfl⟩;simp;omega
theorem XK(b d:Value)(key a:List Int)(x:Int)(c:Nat)(j:x=(c:Int))(w:World)(g:Sl w b key)(h:Sl w d a)(lk:key.length=32)(k:a.length=12)(f:c<=1073741824)(i:Dq w) :
  Calls prog 118 #[b,.int .i64 x,d] w λe w'=>∃ v',e=.returned (.tuple #[v',.int .i64 0])/\Got w w' v' (CL (Cc key (BitVec.ofNat 32 c) a)):=by
 subst j;exact XL b d key a c w g h lk k f i
theorem PI(u v D E:Value)(key b a s:List Int)(w:World)(y:Sl w u key)(z:Sl w v b)(x:Sl w D a)(A:Sl w E s)(lk:key.length=32)(B:b.length=12)(M:a.length<=256)(N:s.length<=2000)(L:Dq w) :
  Calls prog 78 #[u,v,D,E] w λe w'=>∃ v',e=.returned (.tuple #[v',.int .i64 0])/\Sl w' v' (Ej key b a s)/\Bw w w':=by
 have o:Hid (Ej key b a s=Xi ((CL (Cc key (BitVec.ofNat 32 0) b)).take 32) (G1 a s)):=rfl;have g:(G1 a s).length<=4000:=by rw[ID];have:=If a.length;have:=If s.length;omega
 go_enter func78,ntmps78
 go_wp2_with fail
 refine(XK u v key b 0 0 rfl w y z lk B (by omega) L).mono ?_;rintro e T ⟨S,rfl,p⟩;have j:=p.sl;have k:=p.tL;clear p;have d:=EY (Cc key (BitVec.ofNat 32 0) b);generalize CL (Cc key (BitVec.ofNat 32 0) b)=bs at o j d;obtain⟨G,I,rfl⟩:=j.shape;rw[d]at j ⊢
 obtain⟨F,H,c,C⟩:=j.sa 32 (by omega);have J:∀ W,(Instr.slice 27 (.slice G 64 I) none (some (.int .i64 32)) none).run prog W=.ok (.slice F 32 H) W:=c;have lt:(bs.take 32).length=32:=by rw[j'];omega
 generalize bs.take 32=K at o C lt;have q:=x.af k;have t:=A.af k;clear c j d;have h:a.length<=10000:=by omega
 have i:s.length<=10000:=by omega
 have l:Hid (a.length<=10000):=h;have n:Hid (s.length<=10000):=i;have m:Hid ((G1 a s).length<=4000):=g;clear M N h i g y z x A lk B;go_wp2_with fail
 go_region_with (first
  | (go_at_call 120;refine(Zd _ _ a s _ (q.af ((Below.refl _ _).drew)) (t.af ((Below.refl _ _).drew)) l.out n.out).mono ?_;rintro e Q ⟨R,rfl,O,f⟩)
  | (go_at_call 119;refine(j7 _ _ K _ _ (C.af ((Below.refl _ _).drew.trans f)) O lt m.out).mono ?_;rintro e U ⟨P,rfl,s3,r⟩))
 all_goals
  go_wp2
  go_ret2
  refine⟨P,rfl,?_,?_⟩
  .rw[o.out];exact s3
  .have b2:Bw w Q:=k.trans (((Below.refl _ _).drew.trans f).mono k.size);exact b2.trans (r.mono b2.size)
theorem QJ(c f b:Value)(key a d:List Int)(w:World)(h:Sl w c key)(i:Sl w f a)(g:Sl w b d)(lk:key.length=32)(l:a.length=12)(k:d.length<=2000)(j:Dq w) :
  Calls prog 77 #[c,.int .i64 1,f,b] w λe w'=>∃ v',e=.returned (.tuple #[v',.int .i64 0])/\w'.ownsRow w.heap.size 5 1 v' (D7 key a d).length ((D7 key a d).map (Value.int .u8))/\Bw w w' :=
 dX c f b key a d 1 w h i g lk l (by omega) k j
def NwV(B:Nat)(v:Value):Prop:=∀ a n c,v=.slice (some a) n c->B<=a.block
theorem NwV.own{B k:Nat}(h:w.ownsRow B e k v n xs):NwV B v:=λa m c e=>(h.lt a.block (by rw[e];rfl)).1
theorem Tw(h:w.ownsRow base e 1 v n xs)(a:Bw w w'):w'.ownsRow base e 1 v n xs :=
 Fr h λk b=>a.block k (h.lt k b).2
theorem J1(h:FE key nonce a=true):key.length=32/\nonce.length=12/\a.length<=256:=by
 unfold FE at h;simp at h;omega
theorem aH(o q v K:Value)(key b a p:List Int)(w:World)(i:Sl w o key)(s:Sl w q b)(A:Sl w v a)(t:Sl w K p)(E:FE key b a=true)(U:p.length<=2000)(D:Dq w) :
  Calls prog 48 #[o,q,v,K] w λe w'=>∃ v',e=.returned (.tuple #[v',.int .i64 0])/\Sl w' v' (D6 key b a p)/\NwV w.heap.size v'/\Bw w w':=by
 obtain⟨lk,F,S⟩:=J1 E;have j:=D.pos;have y:Hid (D6 key b a p=D7 key b p++Ej key b a (D7 key b p)):=rfl;have n:=CG key b p;have g:∀ x∈D7 key b p,0<=x/\x<256:=J9 _ t.byte;have Q:¬ (2000:Int)<(p.length:Int):=by omega
 obtain⟨ap,W,rfl⟩:=t.shape;go_enter func48,ntmps48
 go_wp2_with fail
 refine(Hc o q v key b a w i s A).mono ?_;rintro e r ⟨rfl,rfl⟩;rw[E];go_wp2_with fail
 refine(QJ o q _ key b p r i s t lk F U D).mono ?_;rintro e M ⟨L,rfl,u,d⟩;generalize D7 key b p=X at y n g u;have H:Sl M L X:=Sl.ov u (by omega) g;go_wp2_with fail
 refine(PI o q v L key b a X M (i.af d) (s.af d) (A.af d) H lk F S (by omega) (D.af j d)).mono ?_;rintro e V ⟨Y,rfl,I,z⟩;have G:=Tw u z;have C:=G.lt;have f:Bw r V:=d.trans (z.mono d.size);have m:=Jd key b a X;have l:=ME key b a X;generalize Ej key b a X=T at y I m l;have P:X.length<=2000:=by omega
 clear n u H d z i s A t;go_wp2_with (at_builtin;refine Aa _ rfl _ _ 27 rfl r.heap.size 5 underlying27 Ax _ _ rfl rfl X T G I (by omega) f.size ?_)
 intro J N c B;replace c:N.ownsRow r.heap.size 5 1 J (X++T).length ((X++T).map (Value.int .u8)):=by simpa[m]using c
 have O:Bw r N:=f.grown B f.size (λk i=>(C k i).1);go_wp2
 go_ret2
 refine⟨J,rfl,?_,.own c,O⟩;rw[y.out];refine Sl.ov c (by rw[G'];omega) ?_;intro x R;rcases P'.1 R with h|h
 .exact g x h
 .exact l x h
def dif(la lb:List Int):Nat->Int
 | 0=>0
 | k+1=>bits .or .u8 (dif la lb k) (bits .xor .u8 (la.getD k 0) (lb.getD k 0))
theorem mp{a b:Nat}:a ||| b=0↔a=0/\b=0:=by
 constructor
 .intro h;have c:∀ i,(a ||| b).testBit i=false:=by intro i;rw[h];simp
  constructor
  .apply qY;intro i;have:=c i;rw[Nat.testBit_or]at this;simp at this;simp[this.1]
  .apply qY;intro i;have:=c i;rw[Nat.testBit_or]at this;simp at this;simp[this.2]
 .rintro⟨rfl,rfl⟩;rfl
theorem mh{a b:Nat}:a ^^^ b=0↔a=b:=by
 constructor
 .intro h;have c:∀ i,(a ^^^ b).testBit i=false:=by intro i;rw[h];simp
  apply qY;intro i;have:=c i;rw[Nat.testBit_xor]at this;simpa using this
 .rintro rfl;simp
theorem Yk(q:∀ x∈la,0<=x/\x<256)(r:∀ x∈lb,0<=x/\x<256)(k:Nat) :
  0<=dif la lb k/\dif la lb k<256/\(dif la lb k=0↔∀ i,i<k->la.getD i 0=lb.getD i 0):=by
 induction k with
 | zero=>simp[dif]
 | succ k ih =>
  obtain⟨l,m,o⟩:=ih;have d:=Ak q k;have e:=Ak r k;have f:=u8_xor _ _ d.1 d.2 e.1 e.2;have b:(la.getD k 0).toNat ^^^ (lb.getD k 0).toNat<256:=qe (n:=8) (by omega) (by omega);have g:=u8_or (dif la lb k) (((la.getD k 0).toNat ^^^ (lb.getD k 0).toNat:Nat):Int) l m (by omega) (by omega);have a:dif la lb (k+1)=(((dif la lb k).toNat ||| ((la.getD k 0).toNat ^^^ (lb.getD k 0).toNat):Nat):Int):=by
   show bits .or .u8 (dif la lb k) (bits .xor .u8 (la.getD k 0) (lb.getD k 0))=_;rw[f,g];simp
  have c:(dif la lb k).toNat ||| ((la.getD k 0).toNat ^^^ (lb.getD k 0).toNat)<256:=Nat.or_lt_two_pow (n:=8) (by omega) b;refine⟨by rw[a];omega,by rw[a];omega,?_⟩;have j:dif la lb (k+1)=0↔dif la lb k=0/\la.getD k 0=lb.getD k 0:=by
   rw[a];have:=@mp (dif la lb k).toNat ((la.getD k 0).toNat ^^^ (lb.getD k 0).toNat);have p:=@mh (la.getD k 0).toNat (lb.getD k 0).toNat;rw[p]at this
   constructor
   .intro h;have:=this.1 (by omega);omega
   .intro h;have:=this.2 (by omega);omega
  rw[j,o];constructor
  .intro h i s;rcases nU i k with h'|h'
   .exact h.1 i h'
   .obtain rfl:i=k:=by omega
    exact h.2
  .intro h;exact⟨λi s=>h i (by omega),h k (by omega)⟩
theorem cY(c:∀ x∈la,0<=x/\x<256)(d:∀ x∈lb,0<=x/\x<256)(e:la.length=lb.length):(dif la lb lb.length==0)=decide (la=lb):=by
 rw[Bool.eq_iff_iff,decide_eq_true_iff,beq_iff_eq,(Yk c d _).2.2];constructor
 .intro h;apply pI e;intro i b a;have:=h i a
  rwa [AQ b,AQ a]at this
 .rintro rfl _ _;rfl
theorem IY(r s:Value)(f c:List Int)(w:World)(v:Sl w r f)(x:Sl w s c) :
  Calls prog 190 #[r,s] w λe w'=>e=.returned (.bool (decide (f=c)))/\∃ n,w'=w.drewN n:=by
 obtain⟨⟨a,t,rfl,C,E,u⟩,z,g⟩:=v;obtain⟨⟨b,q,rfl,y,B,m⟩,A,h⟩:=x;by_cases l:f.length=c.length
 .rcases u with rfl|⟨ba,oa,rfl,_,hca⟩
  .obtain rfl:c=[]:=Y' (by simpa using l.symm);go_enter func190,ntmps190
   go_wp2
   refine wp_loop_rounds 1 ?_;rw[rounds_succ];go_wp2
   go_ret;exact⟨rfl,0,rfl⟩
  .rcases m with rfl|⟨bb,ob,rfl,_,hcb⟩
   .obtain rfl:f=[]:=Y' (by simpa using l);go_enter func190,ntmps190
    go_wp2
    refine wp_loop_rounds 1 ?_;rw[rounds_succ];go_wp2
    go_ret;exact⟨rfl,0,rfl⟩
   .have HD:Hid ((dif f c c.length==0)=decide (f=c)):=cY g h l;go_enter func190,ntmps190
    go_wp2
    go_loopw [5,14] (λd i wr=>∃ k n:Nat,k<=c.length/\i=.int .i64 k/\d=.int .u8 (dif f c k)/\wr=w.drewN n) (λ_ i _=>c.length-(intOf i).toNat)
    case atStart=>exact⟨0,0,nH _,rfl,rfl,rfl⟩
    case round =>
     obtain⟨k,n,D,rfl,rfl,rfl⟩:=hrel;by_cases j:k<c.length
     .have hx:=hca k (by omega);have F:=hcb k j;clear hca hcb g h;have p:k<f.length:=by omega
      go_wp2
      go_quiet (fail)
      go_wp2
      go_roundw
      case rel=>exact⟨k+1,_,by omega,by go_num,by simp only[dif,AQ p,AQ j],rfl⟩
      case measure=>simp[intOf];omega
     .obtain rfl:k=c.length:=by omega
      clear hca hcb;go_wp2
      go_ret;exact⟨Ay HD.out,n,rfl⟩
 .have hne:((f.length:Int)==(c.length:Int))=false:=by simp;omega
  have o:decide (f=c)=false:=H' (λe=>l (by rw[e]));go_enter func190,ntmps190
  go_wp2
  go_ret;exact⟨Ay o.symm,0,rfl⟩
def Eg(key nonce a d:List Int):Int :=
 if FE key nonce a=true/\d.length<=2016 then(if d.length<16 then 13 else if Ej key nonce a (d.take (d.length-16))=d.drop (d.length-16)then 0 else 6)else 1
def Mi(key nonce a d:List Int):List Int:=if Eg key nonce a d=0 then D7 key nonce (d.take (d.length-16))else[]
theorem ej(g i f o:Value)(key b a d:List Int)(w:World)(m:Sl w g key)(n:Sl w i b)(k:Sl w f a)(l:Sl w o d)(j:FE key b a=false\/2016<d.length) :
  Calls prog 211 #[g,i,f,o] w λe w'=>e=.returned (.tuple #[.slice none 0 0,.int .i64 1])/\w'=w:=by
 have r:=l.len;obtain⟨ap,q,rfl⟩:=l.shape;by_cases c:FE key b a=true
 .have hpl:(2016:Int)<(d.length:Int):=by
   rcases j with h|h
   .rw[c]at h;cases h
   .omega
  go_enter func211,ntmps211
  go_wp2_with fail
  refine(Hc g i f key b a w m n k).mono ?_;rintro e p ⟨rfl,rfl⟩;rw[c];go_wp2
  go_ret2
  exact⟨rfl,rfl⟩
 .rw[Bool.not_eq_true]at c
  go_enter func211,ntmps211
  go_wp2_with fail
  refine(Hc g i f key b a w m n k).mono ?_;rintro e p ⟨rfl,rfl⟩;rw[c];go_wp2
  go_ret2
  exact⟨rfl,rfl⟩
theorem Ts(f g c h:Value)(key b a d:List Int)(w:World)(l:Sl w f key)(m:Sl w g b)(i:Sl w c a)(j:Sl w h d)(k:FE key b a=true)(p:d.length<16) :
  Calls prog 211 #[f,g,c,h] w λe w'=>e=.returned (.tuple #[.slice none 0 0,.int .i64 13])/\w'=w:=by
 obtain⟨ap,o,rfl⟩:=j.shape;have n:(d.length:Int)<16:=by omega
 go_enter func211,ntmps211
 go_wp2_with fail
 refine(Hc f g c key b a w l m i).mono ?_;rintro e q ⟨rfl,rfl⟩;rw[k];go_wp2
 go_ret2
 exact⟨rfl,rfl⟩
theorem ZN(r s q H:Value)(key b a d:List Int)(w:World)(l:Sl w r key)(n:Sl w s b)(k:Sl w q a)(f:Sl w H d)(E:FE key b a=true)(m:Nat)(F:d.length=m+16)(W:m<=2000)(o:Dq w)(G:Ej key b a (d.take m)≠d.drop m) :
  Calls prog 211 #[r,s,q,H] w λe w'=>e=.returned (.tuple #[.slice none 0 0,.int .i64 6])/\Bw w w':=by
 obtain⟨lk,N,M⟩:=J1 E;have h:=o.pos;have i:=f.byte;obtain⟨ad,V,rfl⟩:=f.shape;rw[F]at f ⊢
 obtain⟨R,T,A,p⟩:=f.sa m (by omega);obtain⟨S,U,g,j⟩:=f.from m (by omega);rw[Nat.add_sub_cancel_left]at g j
 have B:(d.take m).length=m:=by rw[j'];omega
 have Q:∀ x∈d.take m,0<=x/\x<256:=λx K=>i x (nm K);have y:Hid (Ej key b a (d.take m)≠d.drop m):=G;clear G;generalize d.take m=D at p B Q y ⊢;generalize d.drop m=L at j y;have v:Hid (D.length=m):=B;clear f F i B;go_enter func211,ntmps211
 go_wp2_with fail
 refine(Hc r s q key b a w l n k).mono ?_;rintro e t ⟨rfl,rfl⟩;rw[E];go_wp2_with fail
 go_quiet (fail)
 have c:Bw t (t.drewN nq):=Ar (Below.refl _ _) nq;generalize t.drewN nq=w1 at c ⊢;replace l:=l.af c;replace n:=n.af c;replace k:=k.af c;replace p:=p.af c;replace j:=j.af c;replace o:=o.af h c;clear A g;go_wp2_with fail
 refine(PI r s q _ key b a D w1 l n k p lk N M (by have:=v.out;omega) o).mono ?_;rintro e u ⟨P,rfl,O,z⟩;go_wp2_with fail
 refine(IY P _ (Ej key b a D) L u O (j.af z)).mono ?_;rintro e X ⟨rfl,C,rfl⟩;have I:Bw u (u.drewN C):=Ar (Below.refl _ _) C;have J:Bw t (u.drewN C):=c.trans ((z.trans (I.mono z.size)).mono c.size);rw[H' y.out];go_wp2
 go_ret2
 exact⟨rfl,J⟩
theorem el(B C F S:Value)(key b a d:List Int)(w:World)(g:Sl w B key)(h:Sl w C b)(u:Sl w F a)(p:Sl w S d)(N:FE key b a=true)(m:Nat)(O:d.length=m+16)(hl:m<=2000)(j:Dq w)(P:Ej key b a (d.take m)=d.drop m) :
  Calls prog 211 #[B,C,F,S] w λe w'=>∃ v',e=.returned (.tuple #[v',.int .i64 0])/\Sl w' v' (D7 key b (d.take m))/\NwV w.heap.size v'/\Bw w w':=by
 obtain⟨lk,Q,la⟩:=J1 N;have i:=j.pos;have z:=p.byte;obtain⟨ad,cd,rfl⟩:=p.shape;rw[O]at p ⊢
 obtain⟨a1,c1,I,k⟩:=p.sa m (by omega);obtain⟨a2,c2,v,q⟩:=p.from m (by omega);rw[Nat.add_sub_cancel_left]at v q
 have J:(d.take m).length=m:=by rw[j'];omega
 have V:∀ x∈d.take m,0<=x/\x<256:=λx Y=>z x (nm Y);have G:Hid (Ej key b a (d.take m)=d.drop m):=P;clear P;generalize d.take m=D at k J V G ⊢;generalize d.drop m=L at q G;have l:Hid (D.length=m):=J;clear p O z J;go_enter func211,ntmps211
 go_wp2_with fail
 refine(Hc B C F key b a w g h u).mono ?_;rintro e r ⟨rfl,rfl⟩;rw[N];go_wp2_with fail
 go_quiet (fail)
 have f:Bw r (r.drewN nq):=Ar (Below.refl _ _) nq;generalize r.drewN nq=w1 at f ⊢;replace g:=g.af f;replace h:=h.af f;replace u:=u.af f;replace k:=k.af f;replace q:=q.af f;replace j:=j.af i f;clear I v;go_wp2_with fail
 refine(PI B C F _ key b a D w1 g h u k lk Q la (by have:=l.out;omega) j).mono ?_;rintro e s ⟨vt,rfl,R,o⟩;go_wp2_with fail
 refine(IY vt _ (Ej key b a D) L s R (q.af o)).mono ?_;rintro e T ⟨rfl,A,rfl⟩;have H:Bw s (s.drewN A):=Ar (Below.refl _ _) A;have E:Bw r (s.drewN A):=f.trans ((o.trans (H.mono o.size)).mono f.size);rw[O' G.out];have t:Bw w1 (s.drewN A):=o.trans (H.mono o.size);replace g:=g.af t;replace h:=h.af t;replace k:=k.af t;replace j:=j.af (X' i f.size) t;have Z:=CG key b D;have y:∀ x∈D7 key b D,0<=x/\x<256:=J9 _ V;clear q R u H o;generalize s.drewN A=T at g h k j E t ⊢;go_wp2_with fail
 refine(QJ B C _ key b D T g h k lk Q (by have:=l.out;omega) j).mono ?_;rintro e U ⟨M,rfl,K,W⟩;have s4:Sl U M (D7 key b D):=Sl.ov K (by have:=l.out;omega) y;have X:Bw r U:=E.trans (W.mono E.size);have n4:NwV r.heap.size M:=λa n c e=>mS E.size (NwV.own K a n c e);clear K y;go_wp2
 go_ret2
 exact⟨M,rfl,s4,n4,X⟩
theorem WD(i j f g:Value)(key c a d:List Int)(w:World)(m:Sl w i key)(n:Sl w j c)(k:Sl w f a)(l:Sl w g d)(o:Dq w) :
  Calls prog 211 #[i,j,f,g] w λe w'=>∃ v',e=.returned (.tuple #[v',.int .i64 (Eg key c a d)])/\Sl w' v' (Mi key c a d)/\NwV w.heap.size v'/\Bw w w':=by
 unfold Mi;by_cases h:FE key c a=true/\d.length<=2016
 .by_cases h16:d.length<16
  .have hE:Eg key c a d=13:=by unfold Eg;rw[if_pos h,if_pos h16]
   rw[hE,if_neg (by omega)];refine(Ts i j f g key c a d w m n k l h.1 h16).mono ?_;rintro e p ⟨rfl,rfl⟩;exact⟨_,rfl,Sl.nil _ _,λ_ _ _ e=>(by cases e),Below.refl _ _⟩
  .by_cases hq:Ej key c a (d.take (d.length-16))=d.drop (d.length-16)
   .have hE:Eg key c a d=0:=by unfold Eg;rw[if_pos h,if_neg h16,if_pos hq]
    rw[hE,if_pos rfl];exact el i j f g key c a d w m n k l h.1 (d.length-16) (by omega) (by omega) o hq
   .have hE:Eg key c a d=6:=by unfold Eg;rw[if_pos h,if_neg h16,if_neg hq]
    rw[hE,if_neg (by omega)];refine(ZN i j f g key c a d w m n k l h.1 (d.length-16) (by omega) (by omega) o hq).mono ?_;rintro e p ⟨rfl,b⟩;exact⟨_,rfl,Sl.nil _ _,λ_ _ _ e=>(by cases e),b⟩
 .have hE:Eg key c a d=1:=by unfold Eg;rw[if_neg h]
  rw[hE,if_neg (by omega)];refine(ej i j f g key c a d w m n k l ?_).mono ?_
  .by_cases hf:FE key c a=true
   .exact .inr (by have:¬ d.length<=2016:=λq=>h ⟨hf,q⟩;omega)
   .exact .inl (by simpa using hf)
  .rintro e p ⟨rfl,rfl⟩;exact⟨_,rfl,Sl.nil _ _,λ_ _ _ e=>(by cases e),Below.refl _ _⟩
theorem M2(key b a p:List Int):(D6 key b a p).take p.length=D7 key b p:=by
 rw[D6,nv (by rw[CG];omega),nf (by rw[CG];omega)]
theorem TP(key b a p:List Int):(D6 key b a p).drop p.length=Ej key b a (D7 key b p):=by
 have h:=CG key b p;rw[D6,<- h,List.drop_left]
theorem TW(key a:List Int){p:List Int}(b:∀ x∈p,0<=x/\x<256):D7 key a (D7 key a p)=p:=Wv _ b
theorem TV(key a:List Int){p:List Int}(b:∀ x∈p,0<=x/\x<256):∀ x∈D7 key a p,0<=x/\x<256:=J9 _ b
theorem TL(key b a:List Int){p:List Int}(c:∀ x∈p,0<=x/\x<256):∀ x∈D6 key b a p,0<=x/\x<256:=by
 intro x d;rcases P'.1 d with h|h
 .exact TV key b c x h
 .exact ME _ _ _ _ x h
theorem UA(lk:key.length=32)(c:nonce.length=12)(b:a.length<=256):FE key nonce a=true:=by
 unfold FE;simp;omega
theorem Km(b:FE key nonce a=true)(c:p.length<=2000):Eg key nonce a (D6 key nonce a p)=0:=by
 have h:=FR key nonce a p;unfold Eg;rw[if_pos ⟨b,by omega⟩,if_neg (by omega),if_pos];rw[h,Nat.add_sub_cancel,M2,TP]
theorem Tr(b:FE key nonce a=true)(d:p.length<=2000)(c:∀ x∈p,0<=x/\x<256):Mi key nonce a (D6 key nonce a p)=p:=by
 have h:=FR key nonce a p;unfold Mi;rw[if_pos (Km b d),h,Nat.add_sub_cancel,M2,TW key nonce c]
end
end
section
def Gf(key:List Int)(n:Int)(p:List Int):List Int:=Ab n++D6 key (Cf (Ab n)) (Ab n) p
theorem Dn(key:List Int)(n:Int)(p:List Int):(Gf key n p).length=p.length+20:=by
 rw[Gf,G',BF,FR];omega
theorem JH(key:List Int)(n:Int)(p:List Int):(Gf key n p).take 4=Ab n:=rfl
theorem O7(key:List Int)(n:Int)(p:List Int):(Gf key n p).drop 4=D6 key (Cf (Ab n)) (Ab n) p:=rfl
theorem WR(key:List Int)(n:Int){p:List Int}(a:∀ x∈p,0<=x/\x<256):∀ x∈Gf key n p,0<=x/\x<256:=by
 intro x b;rcases P'.1 b with h|h
 .exact Aw n x h
 .exact TL _ _ _ a x h
def GM(key:List Int)(s t:Int)(l:List Bool)(r:List Int):Int :=
 if ¬ OkC key s t l then 5 else if 2020<r.length then 1 else if r.length<20 then 13 else if 1073741824<=IK (r.take 4)then 2 else if ZI t l (IK (r.take 4))=true then 7
 else Eg key (Cf (r.take 4)) (r.take 4) (r.drop 4)
def Jh(key:List Int)(r:List Int):List Int:=Mi key (Cf (r.take 4)) (r.take 4) (r.drop 4)
end
end Go.Proofs.YthkjeoamjgnpoaaGreatDoor
