/- Part 5 of the walk. -/
import Derived.Lib.SlBytesRow
import Derived.Lib.SmallJoins
import Derived.Deep.OwnRows
import Derived.Laws.OwnMore
import Derived.Maps.AppendAt
import Derived.Test.YtngmpodijpelnaaGreatDoorZ2
set_option maxRecDepth 100000
set_option maxHeartbeats 4000000
open Go.Proofs.Tryz
namespace Go.Proofs.YtngmpodijpelnaaGreatDoor
section
open Go.RowKit
section
def lenOf:Value->Nat
 | .slice _ n _=>n
 | _=>0
variable{P:Program}{Q:Exit->Act->World->Prop}{a key l la lb m nonce p:List Int}{b base cap e g j n off:Nat}{ops:Array Oper}{v:Value}{w w':World}{xs:List Value}
theorem T8(h:w.ownsRow base e 1 v n xs):lenOf v=n:=by
 rcases h.2 with⟨rfl,rfl⟩|⟨g,cap,cur,rfl,_⟩<;>rfl
theorem TE(v:Value)(l:List Int)(w:World)(h:Sl w v l)(hl:l.length<=100000) :
  Calls prog 109 #[v] w λe w'=>∃ v',e=.returned v'/\w'.ownsRow w.heap.size 5 1 v' (pad l).length ((pad l).map (Value.int .u8))/\Bw w w':=by
 have hs:=h;obtain⟨⟨a,a1,rfl,hc,hn,h1⟩,a4,N⟩:=h;clear h1 hn N;obtain⟨i0,hi,S,T,U⟩:=info_parts Ay;go_enter func109,ntmps109
 go_wp2_with (at_make;refine wpList_make_own _ rfl _ _ 26 rfl w.heap.size 5 i0 (.int .u8 0) 1 underlying26 hi S T _ _ _ (l.length+128) rfl rfl (by omega) (by rw[U];omega) (by unfold maxLen;omega) (A' _) ?_)
 intro X F A;have f:Bw w X:=(Below.refl _ _).grown A (A' _) (by simp);have p:X.ownsRow w.heap.size 5 1 (.slice (some ⟨w.heap.size,0,none⟩) 0 (l.length+128)) ([]:List Int).length (([]:List Int).map (Value.int .u8)):=F;clear F A;go_wp2_with (at_builtin;refine Aa _ rfl _ _ 26 rfl w.heap.size 5 underlying26 Ay _ _ rfl rfl [] l p (hs.af f) (by simp;omega) f.size ?_)
 intro v2 Y G B;have n:Y.ownsRow w.heap.size 5 1 v2 l.length (l.map (Value.int .u8)):=by simpa using G
 have i:Bw w Y:=f.grown B f.size (by simp[Value.ownBlock]);have o:=n.lt;clear p B f G;go_wp2_with (at_builtin;refine Aa _ rfl _ _ 26 rfl w.heap.size 5 underlying26 Ay _ _ rfl rfl l [128] (n.alloc _) (Sl.one _ _ _ rfl (by omega)) (by simp;omega) (by have:=i.size;simp;omega) ?_)
 intro v3 Z H C;have q:Z.ownsRow w.heap.size 5 1 v3 (CX l 0).length ((CX l 0).map (Value.int .u8)):=by simpa[CX]using H
 have z:Bw w Z:=(i.alloc i.size _).grown C (by have:=i.size;simp;omega) (λk x=>(o k x).1);clear H C i o n;go_wp2
 go_loopw [3] (λv wr=>∃ j:Nat,j<=F6 l.length/\wr.ownsRow w.heap.size 5 1 v (CX l j).length ((CX l j).map (Value.int .u8))/\Bw w wr) (λv _=>F6 l.length+l.length+1-lenOf v)
 case atStart=>exact⟨0,nM _,q,z⟩
 case round =>
  clear q z;obtain⟨j,hj,b,c⟩:=hrel;obtain⟨g,cp,W,a3,Q,O,t,P⟩:=EE b (by simp[CX]);rw[D1]at W
  subst W;clear t P O;have hz:F6 l.length<=63:=by unfold F6;omega
  have d:=b.lt;by_cases u:j<F6 l.length
  .have hne:¬ ((l.length+1+j)%64=56):=by unfold F6 at u;omega
   go_wp2_with (at_builtin;refine Aa _ rfl _ _ 26 rfl w.heap.size 5 underlying26 Ay _ _ rfl rfl (CX l j) [0] (b.alloc _) (Sl.one _ _ _ rfl (by omega)) (by rw[D1];simp;omega) (by have:=c.size;simp;omega) ?_)
   intro V w4 I D;have r:w4.ownsRow w.heap.size 5 1 V (CX l (j+1)).length ((CX l (j+1)).map (Value.int .u8)):=by rw[<- TC];simpa using I
   have L:Bw w w4:=(c.alloc c.size _).grown D (by have:=c.size;simp;omega) (λk x=>(d k x).1);have m:=T8 r;rw[D1]at m
   have HL:Hid (lenOf V=l.length+1+(j+1)):=m;clear m I D b d c;go_wp2
   go_roundw
   case rel=>exact⟨j+1,u,r,L⟩
   case measure =>
    have m:=HL.out;show F6 l.length+l.length+1-lenOf V<F6 l.length+l.length+1-(l.length+1+j);rw[m];omega
  .have heq:(l.length+1+j)%64=56:=by unfold F6 at u hj;omega
   have a0:Hid ((l.length+1+j)%64=56):=heq;have a2:(((l.length:Int)+1+j)%64 != 56)=false:=by simp;omega
   have y:j=F6 l.length:=by omega
   have EJ:Hid (j=F6 l.length):=y;clear heq y;go_wp2_with fail
   go_loopw [3,5] (λv s wr=>∃ k:Nat,k<=8/\s=.int .i64 (56-8*(k:Int))/\wr.ownsRow w.heap.size 5 1 v (CX l j++(CW l.length).take k).length ((CX l j++(CW l.length).take k).map (Value.int .u8))/\Bw w wr) (λ_ s _=>(intOf s+8).toNat)
   case atStart=>exact⟨0,by omega,rfl,by simpa using b,c⟩
   case round =>
    clear b c d Q;obtain⟨k,x,rfl,b,c⟩:=hrel;have d:=b.lt;by_cases R:k<8
    .go_wp2_with (at_builtin;refine Aa _ rfl _ _ 26 rfl w.heap.size 5 underlying26 Ay _ _ rfl rfl _ _ (b.alloc _) (Sl.one _ _ _ rfl ?_) (by rw[E',D1,j'];simp;omega) (by have:=c.size;simp;omega) ?_)
     .omega
     intro v5 w5 J E;have K:w5.ownsRow w.heap.size 5 1 v5 (CX l j++(CW l.length).take (k+1)).length ((CX l j++(CW l.length).take (k+1)).map (Value.int .u8)):=by
      rw[NH _ _ R];simpa using J
     have M:Bw w w5:=(c.alloc c.size _).grown E (by have:=c.size;simp;omega) (λk x=>(d k x).1);clear J E b d c;go_wp2
     go_roundw
     case rel=>exact⟨k+1,by omega,by go_num,K,M⟩
     case measure=>simp[intOf];omega
    .obtain rfl:k=8:=by omega
     go_wp2
     go_ret;refine⟨u3,rfl,?_,c⟩;unfold pad;rw[<- EJ.out];exact b
theorem RT(s:St)(w:World) :
  Calls prog 112 #[.agg s.cells] w λe w'=>∃ v',e=.returned v'/\w'.ownsRow w.heap.size 5 1 v' (Pi s).length ((Pi s).map (Value.int .u8))/\Bw w w':=by
 obtain⟨K,J,C,D,E⟩:=info_parts Ay;unfold St.cells;go_enter func112,ntmps112
 go_wp2_with (at_make;refine wpList_make_own _ rfl _ _ 26 rfl w.heap.size 5 K (.int .u8 0) 1 underlying26 J C D _ _ _ 32 rfl rfl (by omega) (by rw[E];omega) (by unfold maxLen;omega) (by simp) ?_)
 intro F u o;have r:Bw w F:=((Below.refl _ _).alloc (A' _) _).grown o (by simp) (by simp);have n:F.heap[w.heap.size]?=some (.cells #[.int .u32 (uw s.a),.int .u32 (uw s.b),.int .u32 (uw s.c),.int .u32 (uw s.d),.int .u32 (uw s.e),.int .u32 (uw s.f),.int .u32 (uw s.g),.int .u32 (uw s.h)] 194 (0,0)):=by
  rw[o.block w.heap.size (by simp) (by simp)];exact heap_alloc_new _ _
 have m:F.ownsRow w.heap.size 5 1 (.slice (some ⟨w.heap.size+1,0,none⟩) 0 32) (CP (s.list.take 0)).length ((CP (s.list.take 0)).map (Value.int .u8)):=u;clear u o;go_wp2_with (refine wpList_load_row rfl 194 _ rfl w.heap.size rfl 194 _ (0,0) _ n underlying194 rfl (by kernel_rfl) ?_)
 go_loopw [3,8] (λv i wr=>∃ k:Nat,k<=8/\i=.int .i64 k/\wr.ownsRow w.heap.size 5 1 v (CP (s.list.take k)).length ((CP (s.list.take k)).map (Value.int .u8))/\Bw w wr) (λ_ i _=>8-(intOf i).toNat)
 case atStart=>exact⟨0,by omega,rfl,m,r⟩
 case round =>
  clear m r n;obtain⟨k,H,rfl,j,q⟩:=hrel;have t:=j.lt;by_cases p:k<8
  .have hix:=YT s k p;have l:=Hx (s.list.take k);have y:Hid (s.list.take (k+1)=s.list.take k++[s.list.getD k 0#32]):=by
    unfold Hid;rw[nE (by simpa[St.list]using p)];simp[List.getD,List.getElem?_eq_getElem (show k<s.list.length by simpa[St.list]using p)]
   have A:(s.list.take k).length<=8:=by rw[j'];omega
   generalize s.list.take k=pre at j l y A;generalize s.list.getD k 0#32=x at hix y;have L:=Ep x;go_wp2_with (at_builtin;refine Aa _ rfl _ _ 26 rfl w.heap.size 5 underlying26 Ay _ _ rfl rfl (CP pre) (FA x) (j.alloc _) ?_ (by rw[l];simp[FA];omega) (by have:=q.size;simp;omega) ?_)
   .exact Sl.built wr (FA x) 5 rfl (by simp[FA]) (Kh x)
   intro v' w' I G;have B:w'.ownsRow w.heap.size 5 1 v' (CP (pre++[x])).length ((CP (pre++[x])).map (Value.int .u8)):=by
    rw[Qn];simpa[Hx]using I
   have z:Bw w w':=(q.alloc q.size _).grown G (by have:=q.size;simp;omega) (λk H=>(t k H).1);clear I G j t q;go_wp2
   go_roundw
   case rel=>exact⟨k+1,by omega,by go_num,by rw[y.out];exact B,z⟩
   case measure=>simp[intOf];omega
  .have HK:Hid (k=8):=by unfold Hid;omega
   go_wp2
   go_ret;refine⟨u3,rfl,?_,q⟩;rw[HK.out]at j
   exact j
theorem lZ(w:World):(Go.sizeOf 5).run prog w=.ok 1 w:=by
 obtain⟨i,b,_,a,_⟩:=info_parts Ay;simp[sizeOf,typeInfo,b,a]
theorem fu(g n a k:Nat)(c:64*k+64<=64*n)(b:64*n<=a):∀ W,(Instr.slice 26 (.slice (some ⟨g,0,none⟩) (64*n) a) (some (.int .i64 (64*(k:Int)))) (some (.int .i64 (64*(k:Int)+64))) none).run prog W=.ok (.slice (some ⟨g,64*k,none⟩) 64 (a-64*k)) W:=by
 intro W;have:=Lib.run_slice_window (P:=prog) W 26 5 underlying26 lZ g 0 (64*n) a (64*k) (64*k+64) (by omega) (by omega);rw[show 64*k+64-64*k=64 by omega,nV]at this
 rw[<- this];rfl
theorem jA{a:Array Value}(s:St)(c:w.heap[g]?=some (.cells a 194 (0,0)))(d:a.size=8):(storeCells ⟨g,0,none⟩ s.cells.toList).run prog w=.ok () (w.setRow g s.cells):=by
 have:=run_storeCells_from (P:=prog) g 194 s.cells.toList 0 a w c (by simp[St.cells];omega) (λv b=>by simp[St.cells]at b;rcases b with rfl|rfl|rfl|rfl|rfl|rfl|rfl|rfl<;>rfl);simpa using this
theorem Sl.tS(h:Sl w (.slice (some ⟨b,off,none⟩) n cap) l){g:Nat}(q:g<b)(f:Array Value):Sl (w.setRow g f) (.slice (some ⟨b,off,none⟩) n cap) l:=by
 obtain⟨⟨a,c,e,m,p,d⟩,j,k⟩:=h;refine⟨⟨a,c,e,m,p,?_⟩,j,k⟩;simp only[Value.slice.injEq]at e;obtain⟨rfl,_,_⟩:=e;rcases d with d|⟨b',off',e',hbs,hcell⟩
 .exact .inl d
 .simp only[Z',Addr.mk.injEq,and_true]at e';obtain⟨rfl,rfl⟩:=e';refine .inr ⟨b,off,rfl,by simpa using hbs,λi o=>?_⟩;rw[<- hcell i o];exact World.cell?_of_block (w:=w) (setRow_other w g b f (by omega))
theorem ip(l:List Int)(k:Nat)(a:64*k+64<=l.length):((l.drop (64*k)).take 64).length=64:=by
 rw[j',nu];omega
theorem EA(v:Value)(l:List Int)(w:World)(h:Sl w v l)(hl:l.length<=100000)(ht:AD w) :
  Calls prog 70 #[v] w λe w'=>∃ v',e=.returned v'/\w'.ownsRow w.heap.size 5 1 v' (dig l).length ((dig l).map (Value.int .u8))/\Bw w w':=by
 go_enter func70,ntmps70
 go_wp2_with fail
 generalize d:w.alloc _=W0;have f:Bw w W0:=by rw[<- d];exact(Below.refl _ _).alloc (A' _) _
 have z:W0.heap[w.heap.size]?=some (.cells (AC start.list) 194 (0,0)):=by rw[<- d];exact heap_alloc_new _ _
 have W:W0.heap.size=w.heap.size+1:=by rw[<- d];simp
 clear d;refine(TE v l W0 (h.af f) hl).mono ?_;rintro e w1 ⟨vp,rfl,r,m⟩;have F:=TD l;have y:=ZX h.byte;have s:Sl w1 vp (pad l):=Sl.mv r (by omega) y;obtain⟨g,E,hv,R,T,q,_,_⟩:=EE r (by intro e;rw[e]at F;simp at F);subst hv;have u:Bw w w1:=f.trans (m.mono f.size);have A:w1.heap[w.heap.size]?=some (.cells (AC start.list) 194 (0,0)):=(m.block _ (by omega)).trans z;have G:Hid (dig l=Pi (Po (pad l) ((pad l).length/64))):=rfl;have x:w.heap.size<g:=by omega
 clear f z r m R T W;generalize pad l=p at G s F y q ⊢;obtain⟨n,U⟩:∃ n,p.length=64*n:=⟨p.length/64,by omega⟩;have HN:Hid (p.length/64=n):=by unfold Hid;omega
 rw[HN.out]at G
 rw[U]at s q ⊢
 have a3:n<=2000:=by omega
 have D:Hid (p.length=64*n):=U;clear U F;go_wp2_with fail
 go_loopw [5] (λi wr=>∃ k:Nat,k<=n/\i=.int .i64 (64*(k:Int))/\wr.heap[w.heap.size]?=some (.cells (AC (Po p k).list) 194 (0,0))/\Sl wr (.slice (some ⟨g,0,none⟩) (64*n) E) p/\Bw w wr) (λi _=>64*n-(intOf i).toNat)
 case atStart=>exact⟨0,by omega,rfl,A,s,u⟩
 case round =>
  clear A s u;obtain⟨k,hk,rfl,a,s,t⟩:=hrel;by_cases a2:k<n
  .have hblk:=ip p k (by rw[D.out];omega);have I:Hid (Po p (k+1)=ZA (Po p k) (ON ((p.drop (64*k)).take 64))):=rfl;have C:Sl wr (.slice (some ⟨g,64*k,none⟩) 64 (E-64*k)) ((p.drop (64*k)).take 64):=by
    have q1:=Sl.drop (n:=64*n) (off:=0) s (64*k) (by rw[D.out];omega) (E-64*k) (by rw[D.out];omega);rw[nV]at q1
    exact q1.take 64 (by rw[nu,D.out];omega)
   generalize (p.drop (64*k)).take 64=bl at hblk I C;generalize Po p k=S at I a;have J:=cell_of_row wr _ 0 _ _ _ a;have K:=cell_of_row wr _ 1 _ _ _ a;have L:=cell_of_row wr _ 2 _ _ _ a;have M:=cell_of_row wr _ 3 _ _ _ a;have N:=cell_of_row wr _ 4 _ _ _ a;have O:=cell_of_row wr _ 5 _ _ _ a;have P:=cell_of_row wr _ 6 _ _ _ a;have Q:=cell_of_row wr _ 7 _ _ _ a;simp only[AC,St.list,nW,oV,ol,oM,qp]at J K L M N O P Q;have b:w.heap.size<wr.heap.size:=(U'.1 a).1;have Z:AD wr:=ht.af t;have a1:∀ i,wr.frozen? ⟨w.heap.size,i,none⟩=false:=λi=>frozen_of_row wr _ i _ _ a;have H:Hid _:=a;have HB:Hid (Bw w wr):=t;clear a t;have a0:IntKind.i64.wrap (64*(k:Int)+64)=64*(k:Int)+64:=by simp only[IntKind.wrap,IntKind.bits,IntKind.signed];simp;omega
   have a4:=fu g n E k (by omega) q;go_wp2_with fail
   go_region_with (first
    | (go_at_call 111;refine(PO _ bl _ (C.af ((Below.refl _ _).drew)) hblk).mono ?_;rintro e w2 ⟨rfl,c⟩;have B:w.heap.size<w2.heap.size:=X' b c.size;have d0:=(c.cell (p:=⟨w.heap.size,0,none⟩) b).trans J;have d1:=(c.cell (p:=⟨w.heap.size,1,none⟩) b).trans K;have d2:=(c.cell (p:=⟨w.heap.size,2,none⟩) b).trans L;have d3:=(c.cell (p:=⟨w.heap.size,3,none⟩) b).trans M;have d4:=(c.cell (p:=⟨w.heap.size,4,none⟩) b).trans N;have d5:=(c.cell (p:=⟨w.heap.size,5,none⟩) b).trans O;have d6:=(c.cell (p:=⟨w.heap.size,6,none⟩) b).trans P;have d7:=(c.cell (p:=⟨w.heap.size,7,none⟩) b).trans Q)
    | (go_at_call 110;refine(W7 S (ON bl) _ (PN bl) (Z.af ((Below.refl _ _).drew.trans c))).mono ?_;rintro e w3 ⟨rfl,o⟩;have a5:w.heap.size<w3.heap.size:=X' B o.size;have X:=jA (ZA S (ON bl)) (((o.block _ B).trans (c.block _ b)).trans H.out) (by rfl)))
   all_goals
    clear J K L M N O P Q d0 d1 d2 d3 d4 d5 d6 d7 X;have j:Bw wr w3:=((Below.refl wr.heap.size wr).drew.trans c).trans (o.mono c.size);go_wp2
    go_roundw
    case rel =>
     refine⟨k+1,by omega,by go_num,?_,(s.af j).tS x _,BS (HB.out.trans (j.mono HB.out.size)) (A' _) _⟩;rw[I.out];exact setRow_heap w3 _ _ _ 194 _ ((j.block _ b).trans H.out)
    case measure=>simp[intOf];omega
  .have HK:Hid (k=n):=by unfold Hid;omega
   have H:Hid _:=a;have Y:(prog.info? 194).map (·.size)=some (AC (Po p k).list).size:=by kernel_rfl
   go_wp2_with (refine wpList_load_row rfl 194 _ rfl w.heap.size rfl 194 _ (0,0) _ a underlying194 rfl Y ?_)
   refine(RT (Po p k) wr).mono ?_;rintro e w2 ⟨v2,rfl,V,c⟩;go_wp2
   go_ret;refine⟨v2,rfl,?_,t.trans (c.mono t.size)⟩;rw[G.out,<- HK.out];exact BN V t.size
structure Fresh(w w':World)(v:Value)(l:List Int):Prop where
 sl:Sl w' v l
 tU:Bw w w'
 shape:∃ g cap,v=.slice (some ⟨g,0,none⟩) l.length cap/\w.heap.size<=g/\l.length<=cap
theorem Fresh.mv(h:w'.ownsRow w.heap.size 5 1 v l.length (l.map (Value.int .u8)))(c:l≠[])(i:l.length<=140737488351232)(f:∀ x∈l,0<=x/\x<256)(a:Bw w w'):Fresh w w' v l:=by
 obtain⟨g,b,j,d,_,e,_,_⟩:=EE h c;exact⟨Sl.mv h i f,a,g,b,j,d,e⟩
theorem FO(h:l.length=n+1):l≠[]:=by
 intro e;rw[e]at h;simp at h
def G1(l:List Int)(n:Nat):List Int:=l++List.replicate (n-l.length) 0
def ID(l:List Int):List Int:=if 64<l.length then dig l else l
def fk(l:List Int):List Int:=G1 (ID l) 64
def Bx(k:List Int)(m:Int):List Int:=k.map λx=>bits .xor .u8 x m
def EC(key b:List Int):List Int:=dig (Bx (fk key) 92++dig (Bx (fk key) 54++b))
theorem NA(l:List Int)(n:Nat)(h:l.length<=n):(G1 l n).length=n:=by simp[G1];omega
theorem QC(h:∀ x∈l,0<=x/\x<256)(n:Nat):∀ x∈G1 l n,0<=x/\x<256:=by
 intro x a;rcases O'.1 a with h1|h1
 .exact h x h1
 .rw[qh h1];omega
theorem P0(l:List Int):(ID l).length<=64:=by
 unfold ID;split
 .rw[Au];omega
 .omega
theorem Tf(h:∀ x∈l,0<=x/\x<256):∀ x∈ID l,0<=x/\x<256:=by
 unfold ID;split
 .exact Dx l
 .exact h
theorem Fr(l:List Int):(fk l).length=64:=NA _ _ (P0 l)
theorem dw(h:∀ x∈l,0<=x/\x<256):∀ x∈fk l,0<=x/\x<256:=QC (Tf h) 64
theorem FM(l:List Int)(m:Int):(Bx l m).length=l.length:=by simp[Bx]
theorem Me(h:∀ x∈l,0<=x/\x<256){m:Int}(b:0<=m/\m<256):∀ x∈Bx l m,0<=x/\x<256:=by
 intro x c;obtain⟨y,d,rfl⟩:=nF.1 c;have a:=h y d;rw[u8_xor _ _ a.1 a.2 b.1 b.2];have:y.toNat ^^^ m.toNat<256:=qm (n:=8) (by omega) (by omega);omega
theorem DZ(k b:List Int):(EC k b).length=32:=rfl
theorem O5(k b:List Int):∀ x∈EC k b,0<=x/\x<256:=Dx _
theorem Ox:(prog.info? 5).map (·.size)=some 1:=by kernel_rfl
theorem K9(l:List Int):splice ((List.replicate 64 (0:Int)).map (Value.int .u8)) 0 (l.map (Value.int .u8))=(G1 l 64).map (Value.int .u8):=by
 have e:(List.replicate 64 (0:Int)).map (Value.int .u8)=List.replicate 64 (Value.int .u8 0):=qo;rw[e];simp only[splice,G1,oP,oQ,nK,nV,List.drop_replicate,nL,qo]
theorem Jw{b:List Oper}{o:Oper}{a:Act}(f:o.guard=none)(i:TypeId)(x y:Operand)(p:o.op=.store i x y)(g:Nat)(cells:Array Value)(q:a.eval x=.pointer (some ⟨g,0,none⟩))(r:a.eval y=.agg cells)(t:TypeId)(c:Array Value)(j:w.heap[g]?=some (.cells c t (0,0)))(n:(P.info? i).map (·.size)=some cells.size)(d:c.size=cells.size)(l:cells.all (·.oneCell')=true)(B:Nat)(k:World)(m:Below B k w)(e:B<=g)(h:∀ w',w'.heap[g]?=some (.cells cells t (0,0))->Below B k w'->wpList P ops Q b (a.put o.dst undef) w'):wpList P ops Q (o::b) a w :=
 wpList_store_row f i x y p g cells q r t c j n d l (h _ (setRow_heap w g _ _ t _ j) (BS m e _))
theorem Sl.tm{i:Option Addr}{c:Nat}(h:Sl w (.slice i n c) l)(q:0<l.length):∃ ad,i=some ad/\∀ (j:Nat) (v:Value),(l.map (Value.int .u8))[j]?=some v->w.cell? (ad.add j)=some v:=by
 obtain⟨⟨a,k,e,r,s,m⟩,p,o⟩:=h;simp only[Value.slice.injEq]at e;obtain⟨rfl,rfl,rfl⟩:=e;rcases m with rfl|⟨b,off,rfl,_,hcell⟩
 .simp at q
 .refine⟨_,rfl,λj v g=>?_⟩;have d:j<l.length:=by
   have:=(V'.1 g).1;simpa using this
  have f:(⟨b,off,none⟩:Addr).add j=⟨b,off+j,none⟩:=by unfold Addr.add;split<;>simp_all
  rw[f,hcell j d];simp[List.getElem?_eq_getElem d]at g
  rw[AQ d,g]
theorem QG(v:Value)(l:List Int)(w:World)(h:Sl w v l)(L:l.length<=100000)(O:AD w) :
  Calls prog 69 #[v] w λe w'=>e=.returned (.agg (AZ (fk l)))/\Bw w w':=by
 have F:=h;obtain⟨⟨a,I,rfl,R,S,D⟩,M,z⟩:=h;have Q:Hid _:=D;have c:(prog.info? 150).map (·.size)=some (AZ (fk l)).size:=by rw[AI,Fr];kernel_rfl
 clear D z;by_cases E:64<l.length
 .have ek:ID l=dig l:=by unfold ID;rw[if_pos E]
  have y:Hid (fk l=G1 (dig l) 64):=by unfold Hid fk;rw[ek]
  clear ek;go_enter func69,ntmps69
  go_wp2_with fail
  generalize i:w.alloc _=W0;have d:Bw w W0:=by rw[<- i];exact(Below.refl _ _).alloc (A' _) _
  have u:W0.heap[w.heap.size]?=some (.cells (AZ (List.replicate 64 0)) 150 (0,0)):=by rw[<- i];exact heap_alloc_new _ _
  have C:W0.heap.size=w.heap.size+1:=by rw[<- i];simp
  clear i;refine(EA _ l W0 (F.af d) L (O.af d)).mono ?_;rintro e j ⟨T,rfl,o,m⟩;obtain⟨J,H,P,A,B,K,n,_⟩:=EE o (FO (Au l));subst P;have p:j.heap[w.heap.size]?=some (.cells (AZ (List.replicate 64 0)) 150 (0,0)):=(m.block _ (by omega)).trans u;have t:Bw w j:=d.trans (m.mono d.size);have x:w.heap.size<j.heap.size:=(U'.1 p).1;have G:Sl j (.slice (some ⟨J,0,none⟩) (dig l).length H) (dig l):=Sl.mv o (by rw[Au];omega) (Dx l);go_wp2_with (refine wpList_copy_splice rfl _ _ 26 26 rfl 5 underlying26 Ox _ _ _ _ _ _ rfl rfl j.heap.size 0 ((List.replicate 64 (0:Int)).map (Value.int .u8)) 150 (heap_alloc_new _ _) ((dig l).map (Value.int .u8)) (by rw[nK,Au];rfl) (λ_=>⟨rfl,(G.af ((Below.refl _ _).alloc (A' _) _)).tm (by rw[Au];omega)⟩) (by rw[nK,Au];simp) (Fs _) j.heap.size _ (Below.refl _ _) (A' _) ?_)
  intro g r b;have q:g.heap[j.heap.size]?=some (.cells (AZ (fk l)) 150 (0,0)):=by
   have s:g.heap[j.heap.size]?=some (.cells (splice ((List.replicate 64 (0:Int)).map (Value.int .u8)) 0 ((dig l).map (Value.int .u8))).toArray 150 (0,0)):=r.out;rw[K9]at s
   rw[y.out];exact s
  have k:Bw w g:=(t.alloc t.size _).trans (b.mono (by omega));have f:g.heap[w.heap.size]?=some (.cells (AZ (List.replicate 64 0)) 150 (0,0)):=by
   rw[b.block _ x,heap_alloc_old _ _ x];exact p
  clear r b p u C d m n o G B A;go_wp2_with (first|(refine wpList_load_row rfl 150 _ rfl j.heap.size rfl 150 _ (0,0) _ q underlying150 rfl c ?_)|(refine wpList_store_row rfl 150 _ _ rfl w.heap.size _ rfl rfl 150 _ f c (by rw[AI,AI,Fr];rfl) (Ls _) ?_))
  refine bodyPost_ret (v:=.agg (AZ (fk l))) (results_cell_row rfl _ _ w.heap.size 150 _ (0,0) _ rfl (setRow_heap g w.heap.size _ _ 150 _ f) underlying150 rfl c) rfl ⟨rfl,BS k (A' _) _⟩
 .have ek:ID l=l:=by unfold ID;rw[if_neg E]
  have y:Hid (fk l=G1 l 64):=by unfold Hid fk;rw[ek]
  clear ek;go_enter func69,ntmps69
  go_wp2_with (refine wpList_copy_splice rfl _ _ 26 26 rfl 5 underlying26 Ox _ _ _ _ _ _ rfl rfl (w.heap.size+1) 0 ((List.replicate 64 (0:Int)).map (Value.int .u8)) 150 (heap_alloc2_new _ _ _) (l.map (Value.int .u8)) (by rw[nK];exact(oJ (show l.length<=64 by omega)).symm) (λN=>⟨rfl,(F.af (((Below.refl _ _).alloc (A' _) _).alloc (by simp) _)).tm (by simpa using N)⟩) (by rw[nK,nK,oW];omega) (Fs _) (w.heap.size+1) _ (Below.refl _ _) (A' _) ?_)
  intro g r b;have q:g.heap[w.heap.size+1]?=some (.cells (AZ (fk l)) 150 (0,0)):=by
   have s:g.heap[w.heap.size+1]?=some (.cells (splice ((List.replicate 64 (0:Int)).map (Value.int .u8)) 0 (l.map (Value.int .u8))).toArray 150 (0,0)):=r.out;rw[K9]at s
   rw[y.out];exact s
  have k:Bw w g:=(((Below.refl _ _).alloc (A' _) _).alloc (by simp) _).trans (b.mono (by omega));have f:g.heap[w.heap.size]?=some (.cells (AZ (List.replicate 64 0)) 150 (0,0)):=by
   rw[b.block _ (by omega)];exact heap_alloc2_old _ _ _
  clear r b;go_wp2_with (first|(refine wpList_load_row rfl 150 _ rfl (w.heap.size+1) rfl 150 _ (0,0) _ q underlying150 rfl c ?_)|(refine wpList_store_row rfl 150 _ _ rfl w.heap.size _ rfl rfl 150 _ f c (by rw[AI,AI,Fr];rfl) (Ls _) ?_))
  refine bodyPost_ret (v:=.agg (AZ (fk l))) (results_cell_row rfl _ _ w.heap.size 150 _ (0,0) _ rfl (setRow_heap g w.heap.size _ _ 150 _ f) underlying150 rfl c) rfl ⟨rfl,BS k (A' _) _⟩
theorem dO(l:List Int)(d:l.length=64)(j:Nat)(c:j<64):∀ w,(Instr.index 150 (.agg (AZ l)) (.int .i64 (j:Int))).run prog w=.ok (.int .u8 (l.getD j 0)) w:=by
 intro w;have b:(AZ l)[j]?=some (.int .u8 (l.getD j 0)):=by
  simp[AZ,List.getElem?_eq_getElem (show j<l.length by omega),List.getD]
 have a:(0:Int)<=j/\(j:Int)<64:=by omega
 simp[Instr.index,run_underlying underlying150,asIntOf,a,part,b];intro h;omega
theorem Mf(k:List Int)(m:Int)(w:World)(q:k.length=64)(I:0<=m/\m<256)(K:∀ x∈k,0<=x/\x<256) :
  Calls prog 71 #[.agg (AZ k),.int .u8 m] w λe w'=>∃ v',e=.returned v'/\w'.ownsRow w.heap.size 5 1 v' (Bx k m).length ((Bx k m).map (Value.int .u8))/\Bw w w':=by
 obtain⟨M,L,C,D,E⟩:=info_parts Ay;have B:(prog.info? 150).map (·.size)=some (AZ k).size:=by rw[AI,q];kernel_rfl
 have u:Hid (k.length=64):=q;clear q;go_enter func71,ntmps71
 go_wp2_with (at_make;refine wpList_make_own _ rfl _ _ 26 rfl w.heap.size 5 M (.int .u8 0) 1 underlying26 L C D _ _ _ 64 rfl rfl (by omega) (by rw[E];omega) (by unfold maxLen;omega) (by simp) ?_)
 intro F t h;have o:Bw w F:=((Below.refl _ _).alloc (A' _) _).grown h (by simp) (by simp);have g:F.heap[w.heap.size]?=some (.cells (AZ k) 150 (0,0)):=by
  rw[h.block w.heap.size (by simp) (by simp)];exact heap_alloc_new _ _
 have f:F.ownsRow w.heap.size 5 1 (.slice (some ⟨w.heap.size+1,0,none⟩) 0 64) (Bx (k.take 0) m).length ((Bx (k.take 0) m).map (Value.int .u8)):=t;clear t h;go_wp2_with (refine wpList_load_row rfl 150 _ rfl w.heap.size rfl 150 _ (0,0) _ g underlying150 rfl B ?_)
 go_loopw [5,10] (λv i wr=>∃ j:Nat,j<=64/\i=.int .i64 j/\wr.ownsRow w.heap.size 5 1 v (Bx (k.take j) m).length ((Bx (k.take j) m).map (Value.int .u8))/\Bw w wr) (λ_ i _=>64-(intOf i).toNat)
 case atStart=>exact⟨0,by omega,rfl,f,o⟩
 case round =>
  clear f o g;obtain⟨j,N,rfl,a,b⟩:=hrel;have s:=a.lt;by_cases d:j<64
  .have hix:=dO k u.out j d;have r:(Bx (k.take j) m).length<=64:=by rw[FM,j'];omega
   have y:Hid (Bx (k.take (j+1)) m=Bx (k.take j) m++[bits .xor .u8 (k.getD j 0) m]):=by
    unfold Hid;have p:j<k.length:=by rw[u.out];exact d
    rw[nE p,AQ p,Bx,nL];rfl
   have c:=Am K j;have l:0<=bits .xor .u8 (k.getD j 0) m/\bits .xor .u8 (k.getD j 0) m<256:=by
    rw[u8_xor _ _ c.1 c.2 I.1 I.2];have:(k.getD j 0).toNat ^^^ m.toNat<256:=qm (n:=8) (by omega) (by omega);omega
   have G:Hid (0<=bits .xor .u8 (k.getD j 0) m/\bits .xor .u8 (k.getD j 0) m<256):=l;generalize Bx (k.take j) m=pre at a y r;generalize k.getD j 0=x at hix y c l G;clear l c;go_wp2_with (at_builtin;refine Aa _ rfl _ _ 26 rfl w.heap.size 5 underlying26 Ay _ _ rfl rfl pre _ (a.alloc _) (Sl.one _ _ _ rfl G.out) (by simp;omega) (by have:=b.size;simp;omega) ?_)
   intro v' w' J H;have A:w'.ownsRow w.heap.size 5 1 v' (pre++[bits .xor .u8 x m]).length ((pre++[bits .xor .u8 x m]).map (Value.int .u8)):=by simpa using J
   have z:Bw w w':=(b.alloc b.size _).grown H (by have:=b.size;simp;omega) (λk q=>(s k q).1);clear J H a s b;go_wp2
   go_roundw
   case rel=>exact⟨j+1,by omega,by go_num,by rw[y.out];exact A,z⟩
   case measure=>simp[intOf];omega
  .have HJ:Hid (k.take j=k):=by unfold Hid;exact nw (by rw[u.out];omega)
   go_wp2
   go_ret;refine⟨u5,rfl,?_,b⟩;rw[HJ.out]at a
   exact a
theorem P6(vk vb:Value)(k b:List Int)(w:World)(C:Sl w vk k)(hb:Sl w vb b)(Z:k.length<=100000)(a3:b.length<=90000)(ht:AD w) :
  Calls prog 41 #[vk,vb] w λe w'=>∃ v',e=.returned v'/\Fresh w w' v' (EC k b):=by
 have n:(prog.info? 150).map (·.size)=some (AZ (fk k)).size:=by rw[AI,Fr];kernel_rfl
 have d:=dw C.byte;have c:=Fr k;have F:Hid (EC k b=dig (Bx (fk k) 92++dig (Bx (fk k) 54++b))):=rfl;go_enter func41,ntmps41
 go_wp2_with fail
 refine(QG vk k w C Z ht).mono ?_;rintro e R ⟨rfl,v⟩;generalize fk k=K at n d c F ⊢;go_wp2_with (refine Jw rfl 150 _ _ rfl R.heap.size _ rfl rfl 150 _ (heap_alloc_new _ _) n (by rw[AI,c];rfl) (Ls _) w.heap.size w (v.alloc v.size _) v.size ?_)
 intro E g a;have hz:R.heap.size<E.heap.size:=(U'.1 g).1;go_wp2_with (refine wpList_load_row rfl 150 _ rfl R.heap.size rfl 150 _ (0,0) _ g underlying150 rfl n ?_)
 refine(Mf K 54 E c (by omega) d).mono ?_;rintro e w3 ⟨v3,rfl,z,j⟩;have U:Bw w w3:=a.trans (j.mono a.size);have p:=z.lt;have s:(Bx K 54).length=64:=by rw[FM,c]
 have t:(Bx K 92).length=64:=by rw[FM,c]
 have G:=Me d (m:=54) (by omega);have H:=Me d (m:=92) (by omega);go_wp2_with (at_builtin;refine Aa _ rfl _ _ 26 rfl E.heap.size 5 underlying26 Ay _ _ rfl rfl (Bx K 54) b z (hb.af U) (by omega) j.size ?_)
 intro v4 S O M;have y:Bw E S:=j.grown M j.size (λk C=>(p k C).1);have V:Bw w S:=a.trans (y.mono a.size);have f:S.ownsRow E.heap.size 5 1 v4 (Bx K 54++b).length ((Bx K 54++b).map (Value.int .u8)):=by simpa[s]using O
 have I:∀ x∈Bx K 54++b,0<=x/\x<256:=λx hx=>by
  rcases O'.1 hx with h|h
  .exact G x h
  .exact hb.byte x h
 have a1:(Bx K 54++b).length<=91000:=by rw[E',s];omega
 clear O M z p;generalize Bx K 54++b=L4 at f I a1 F;go_wp2_with fail
 refine(EA v4 L4 S (Sl.mv f (by omega) I) (by omega) (ht.af V)).mono ?_;rintro e u ⟨v5,rfl,P,W⟩;have o:Bw E u:=y.trans (W.mono y.size);have s5:Sl u v5 (dig L4):=Sl.mv P (by rw[Au];omega) (Dx L4);have l5:=Au L4;have y5:=Dx L4;generalize dig L4=D at s5 F l5 y5;have B:u.heap[R.heap.size]?=some (.cells (AZ K) 150 (0,0)):=(o.block _ hz).trans g;clear f P;go_wp2_with (refine wpList_load_row rfl 150 _ rfl R.heap.size rfl 150 _ (0,0) _ B underlying150 rfl n ?_)
 refine(Mf K 92 u c (by omega) d).mono ?_;rintro e w6 ⟨v6,rfl,A,l⟩;have q:=A.lt;go_wp2_with (at_builtin;refine Aa _ rfl _ _ 26 rfl u.heap.size 5 underlying26 Ay _ _ rfl rfl (Bx K 92) D A (s5.af l) (by omega) l.size ?_)
 intro v7 T Q N;have X:Bw u T:=l.grown N l.size (λk C=>(q k C).1);have L:Bw w u:=a.trans (o.mono a.size);have i:Bw w T:=L.trans (X.mono L.size);have r:T.ownsRow u.heap.size 5 1 v7 (Bx K 92++D).length ((Bx K 92++D).map (Value.int .u8)):=by simpa[t,l5]using Q
 have J:∀ x∈Bx K 92++D,0<=x/\x<256:=λx hx=>by
  rcases O'.1 hx with h|h
  .exact H x h
  .exact y5 x h
 have a2:(Bx K 92++D).length<=96:=by rw[E',t];omega
 clear Q N A q;generalize Bx K 92++D=L7 at r J a2 F;go_wp2_with fail
 refine(EA v7 L7 T (Sl.mv r (by omega) J) (by omega) (ht.af i)).mono ?_;rintro e w8 ⟨v8,rfl,a0,Y⟩;go_wp2
 go_ret;refine⟨v8,rfl,?_⟩;rw[F.out];exact Fresh.mv (BN a0 i.size) (FO (Au L7)) (by rw[Au];omega) (Dx L7) (i.trans (Y.mono i.size))
theorem gR(m l:Value)(k b:List Int)(w:World)(i:Sl w m k)(h:Sl w l b)(q:k.length<=256)(o:b.length<=2000)(t:AD w) :
  Calls prog 39 #[m,l] w λe w'=>∃ v',e=.returned (.tuple #[v',.int .i64 0])/\Fresh w w' v' (EC k b):=by
 have s:=i;have f:=h;obtain⟨⟨a,n,rfl,_,_,_⟩,r,d⟩:=i;obtain⟨⟨v,g,rfl,_,_,_⟩,j,c⟩:=h;clear d c;go_enter func39,ntmps39
 go_wp2_with fail
 refine(P6 _ _ k b w s f (by omega) (by omega) t).mono ?_;rintro e x ⟨u,rfl,p⟩;go_wp2
 go_ret2
 exact⟨u,rfl,p⟩
theorem P8(L M:Value)(a i:List Int)(c:Int)(w:World)(H:Sl w L a)(I:Sl w M i)(S:a.length<=1000)(U:i.length<=1000)(T:0<=c/\c<256) :
  Calls prog 68 #[L,M,.int .u8 c] w λe w'=>∃ v',e=.returned v'/\w'.ownsRow w.heap.size 5 1 v' (a++i++[c]).length ((a++i++[c]).map (Value.int .u8))/\Bw w w':=by
 obtain⟨X,A,D,E,F⟩:=info_parts Ay;have W:=H;have C:=I;obtain⟨⟨aa,R,rfl,_,_,_⟩,V,z⟩:=H;obtain⟨⟨a2,G,rfl,_,_,_⟩,J,n⟩:=I;clear z n;go_enter func68,ntmps68
 go_wp2_with (at_make;refine wpList_make_own _ rfl _ _ 26 rfl w.heap.size 5 X (.int .u8 0) 1 underlying26 A D E _ _ _ (a.length+i.length+1) rfl rfl (by omega) (by rw[F];omega) (by unfold maxLen;omega) (A' _) ?_)
 intro N s o;have b:Bw w N:=(Below.refl _ _).grown o (A' _) (by simp);have m:N.ownsRow w.heap.size 5 1 (.slice (some ⟨w.heap.size,0,none⟩) 0 (a.length+i.length+1)) ([]:List Int).length (([]:List Int).map (Value.int .u8)):=s;clear s o;go_wp2_with (at_builtin;refine Aa _ rfl _ _ 26 rfl w.heap.size 5 underlying26 Ay _ _ rfl rfl [] a m (W.af b) (by simp;omega) b.size ?_)
 intro Y O t p;have g:O.ownsRow w.heap.size 5 1 Y a.length (a.map (Value.int .u8)):=by simpa using t
 have d:Bw w O:=b.grown p b.size (by simp[Value.ownBlock]);have j:=g.lt;clear m p b t;go_wp2_with (at_builtin;refine Aa _ rfl _ _ 26 rfl w.heap.size 5 underlying26 Ay _ _ rfl rfl a i g (C.af d) (by omega) d.size ?_)
 intro Z P u q;have h:P.ownsRow w.heap.size 5 1 Z (a++i).length ((a++i).map (Value.int .u8)):=by simpa using u
 have f:Bw w P:=d.grown q d.size (λk B=>(j k B).1);have l:=h.lt;clear g q d u j;go_wp2_with (at_builtin;refine Aa _ rfl _ _ 26 rfl w.heap.size 5 underlying26 Ay _ _ rfl rfl (a++i) [c] (h.alloc _) (Sl.one _ _ _ rfl T) (by simp;omega) (by have:=f.size;simp;omega) ?_)
 intro K Q v r;have x:Q.ownsRow w.heap.size 5 1 K (a++i++[c]).length ((a++i++[c]).map (Value.int .u8)):=by simpa using v
 have y:Bw w Q:=(f.alloc f.size _).grown r (by have:=f.size;simp;omega) (λk B=>(l k B).1);clear h r f v l;go_wp2
 go_ret;exact⟨K,rfl,x,y⟩
theorem Sl.grown{row:Option Nat}(h:Sl w (.slice (some ⟨b,off,none⟩) n cap) l)(g:w.grownBy w' row)(f:some b≠row):Sl w' (.slice (some ⟨b,off,none⟩) n cap) l:=by
 obtain⟨⟨a,c,e,m,p,d⟩,j,k⟩:=h;refine⟨⟨a,c,e,m,p,?_⟩,j,k⟩;simp only[Value.slice.injEq]at e;obtain⟨rfl,_,_⟩:=e;rcases d with d|⟨b',off',e',hbs,hcell⟩
 .exact .inl d
 .simp only[Z',Addr.mk.injEq,and_true]at e';obtain⟨rfl,rfl⟩:=e';refine .inr ⟨b,off,rfl,X' hbs g.size,λi o=>?_⟩;rw[<- hcell i o];exact World.cell?_of_block (w:=w) (g.block b hbs f)
def blk(key info:List Int):Nat->List Int
 | 0=>[]
 | i+1=>EC key (blk key info i++info++[(i:Int)+1])
def Br(key info:List Int):Nat->List Int
 | 0=>[]
 | i+1=>Br key info i++blk key info (i+1)
def Gz(key info:List Int)(n:Nat):List Int:=(Br key info 16).take n
theorem Ia(key a:List Int)(i:Nat):(blk key a (i+1)).length=32:=DZ _ _
theorem XN(key a:List Int)(i:Nat):∀ x∈blk key a i,0<=x/\x<256:=by
 cases i with
 | zero=>intro x b;cases b
 | succ i=>exact O5 _ _
theorem io(key a:List Int)(i:Nat):(blk key a i).length<=32:=by
 cases i with
 | zero=>simp[blk]
 | succ i=>rw[Ia];omega
theorem CY(key a:List Int)(i:Nat):(Br key a i).length=32*i:=by
 induction i with
 | zero=>rfl
 | succ i ih=>rw[Br,E',ih,Ia];omega
theorem RD(key a:List Int)(i:Nat):∀ x∈Br key a i,0<=x/\x<256:=by
 induction i with
 | zero=>intro x b;cases b
 | succ i ih =>
  intro x b;rcases O'.1 b with h|h
  .exact ih x h
  .exact XN key a (i+1) x h
theorem RE(key a:List Int)(n i j:Nat)(b:n<=32*i):(Br key a (i+j)).take n=(Br key a i).take n:=by
 induction j with
 | zero=>rfl
 | succ j ih=>rw[<- oB,Br,nG (by rw[CY];omega),ih]
theorem VT(key a:List Int)(n i:Nat):(Br key a (i+1)).take n=(Br key a i).take n++(blk key a (i+1)).take (n-32*i):=by
 rw[Br,List.take_append,CY]
theorem SK(vk vi:Value)(k i:List Int)(n:Nat)(w:World)(hk:Sl w vk k)(hi:Sl w vi i)(a9:k.length<=1000)(a8:i.length<=900)(hn:n<=512)(ht:AD w) :
  Calls prog 40 #[vk,vi,.int .i64 n] w λe w'=>∃ v',e=.returned v'/\w'.ownsRow w.heap.size 5 1 v' (Gz k i n).length ((Gz k i n).map (Value.int .u8))/\Bw w w':=by
 obtain⟨i0,Z,a2,a3,a4⟩:=info_parts Ay;go_enter func40,ntmps40
 go_wp2_with (at_make;refine wpList_make_own _ rfl _ _ 26 rfl w.heap.size 5 i0 (.int .u8 0) 1 underlying26 Z a2 a3 _ _ _ n rfl rfl (by omega) (by rw[a4];omega) (by unfold maxLen;omega) (A' _) ?_)
 intro w1 J I;have H:Bw w w1:=(Below.refl _ _).grown I (A' _) (by simp);have y:w1.ownsRow w.heap.size 5 1 (.slice (some ⟨w.heap.size,0,none⟩) 0 n) ((Br k i 0).take n).length (((Br k i 0).take n).map (Value.int .u8)):=by simpa[Br]using J
 clear J I;go_wp2_with fail
 go_loopw [7,8,9] (λv b c wr=>∃ j:Nat,j<=16/\c=.int .u8 ((j:Int)+1)/\(∃ m z,v=.slice (some ⟨m,0,none⟩) (min (32*j) n) z)/\Sl wr b (blk k i j)/\wr.ownsRow w.heap.size 5 1 v ((Br k i j).take n).length (((Br k i j).take n).map (Value.int .u8))/\Bw w wr) (λ_ _ c _=>(17-intOf c).toNat)
 case atStart=>exact⟨0,by omega,rfl,⟨w.heap.size,n,by simp⟩,Sl.nil _ _,y,H⟩
 case round =>
  clear y H;obtain⟨j,hj,rfl,⟨m,z,rfl⟩,sb,f,V⟩:=hrel;have B:=f.lt;by_cases hc:32*j<n
  .have d:min (32*j) n=32*j:=by omega
   rw[d]at f B ⊢
   have a0:m<wr.heap.size:=(B m rfl).2;have l:((Br k i j).take n).length=32*j:=by rw[j',CY];omega
   have a7:=io k i j;have a5:j<=15:=by omega
   have HB:Hid (blk k i (j+1)=EC k (blk k i j++i++[(j:Int)+1])):=rfl;have HS:=VT k i n j;have E:Hid _:=HS;have yb:∀ x∈blk k i j++i++[(j:Int)+1],0<=x/\x<256:=λx hx=>by
    rcases O'.1 hx with h|h
    .rcases O'.1 h with h|h
     .exact sb.byte x h
     .exact hi.byte x h
    .obtain rfl:x=(j:Int)+1:=by simpa using h
     omega
   clear HS d;go_wp2_with fail
   refine(P8 _ vi (blk k i j) i ((j:Int)+1) wr sb (hi.af V) (by omega) (by omega) (by omega)).mono ?_;rintro e w2 ⟨v2,rfl,K,a⟩;have s:Bw w w2:=V.trans (a.mono V.size);have l2:(blk k i j++i++[(j:Int)+1]).length<=2000:=by simp;omega
   have s2:=Sl.mv K (by omega) yb;go_wp2_with fail
   refine(P6 vk v2 k _ w2 (hk.af s) s2 (by omega) (by omega) (ht.af s)).mono ?_;rintro e R ⟨v3,rfl,F⟩;rw[<- HB.out]at F
   obtain⟨T,S,N,_,Y⟩:=F.shape;have s3:=F.sl;have o:=F.tU;have l3:=Ia k i j;rw[l3]at N Y
   subst N;clear HB F s2 K l2 yb sb;have a1:=f;have g:R.ownsRow w.heap.size 5 1 (.slice (some ⟨m,0,none⟩) (32*j) z) ((Br k i j).take n).length (((Br k i j).take n).map (Value.int .u8)):=by
    refine f.kept (row:=none) ⟨(a.trans (o.mono a.size)).os,(a.trans (o.mono a.size)).tape,(a.trans (o.mono a.size)).output,(a.trans (o.mono a.size)).size,λq hq _=>(a.trans (o.mono a.size)).block q hq⟩ (.inr (by simp[Value.ownBlock]))
   have t:Bw w R:=s.trans (o.mono s.size);have p:=g.lt;have C:Hid ((Br k i (j+1)).take n=(Br k i j).take n++(blk k i (j+1)).take (n-32*j)):=E.out;clear E a1 f B;have U:((blk k i (j+1)).take (n-32*j)).length=min (n-32*j) 32:=by rw[j',l3]
   have sM:Sl R (.slice (some ⟨T,0,none⟩) (min (n-32*j) 32) S) ((blk k i (j+1)).take (n-32*j)):=by
    by_cases hq:n-32*j<=32
    .rw[oJ hq];exact s3.take (n-32*j) (by omega)
    .rw[Nat.min_eq_right (by omega),nw (by omega)];exact s3
   have HN:=s3;have u:((Br k i (j+1)).take n).length=min (32*(j+1)) n:=by rw[j',CY];omega
   have D:Hid (((Br k i (j+1)).take n).length=min (32*(j+1)) n):=u;clear HN u;generalize (blk k i (j+1)).take (n-32*j)=M at sM U C;generalize (Br k i j).take n=P at g p l C;have SB:Sl R (.slice (some ⟨T,0,none⟩) 32 S) (blk k i (j+1)):=s3;clear s3;have d:(min (32:Int) ((n:Int)-32*(j:Int))).toNat=min (n-32*j) 32:=by omega
   have Q:Sl R (.slice (some ⟨T,0,none⟩) (min (32:Int) ((n:Int)-32*(j:Int))).toNat S) M:=by rw[d];exact sM
   have a6:m<w2.heap.size:=X' a0 a.size;clear d sM;go_wp2_with (at_builtin;refine Aa _ rfl _ _ 26 rfl w.heap.size 5 underlying26 Ay _ _ rfl rfl P M g Q (by omega) t.size ?_)
   intro v4 w4 L A;have r:w4.ownsRow w.heap.size 5 1 v4 (P++M).length ((P++M).map (Value.int .u8)):=by simpa[l,U]using L
   have X:Bw w w4:=t.grown A t.size (λk hk=>(p k hk).1);have W:Sl w4 (.slice (some ⟨T,0,none⟩) 32 S) (blk k i (j+1)):=SB.grown A (by simp[Value.ownBlock];omega);obtain⟨g4,c4,O,_,_,_,_,_⟩:=EE r (by intro e;have:=congrArg List.length e;rw[E',l,U]at this;simp at this;omega);have G:(P++M).length=min (32*(j+1)) n:=by rw[<- C.out];exact D.out
   rw[<- C.out]at r
   rw[G]at O
   subst O;clear L A g p t SB Q U C D G l;go_wp2
   go_roundw
   case rel=>exact⟨j+1,by omega,by go_num,⟨g4,c4,rfl⟩,W,r,X⟩
   case measure=>simp[intOf];omega
  .have d:min (32*j) n=n:=by omega
   rw[d]at f ⊢
   have HQ:Hid (Gz k i n=(Br k i j).take n):=by
    unfold Hid Gz;have:=RE k i n j (16-j) (by omega);rw[show j+(16-j)=16 by omega]at this
    exact this
   go_wp2
   go_ret;refine⟨_,rfl,?_,V⟩;rw[HQ.out];exact f
theorem I6(k i:List Int)(n:Nat)(h:n<=512):(Gz k i n).length=n:=by
 unfold Gz;rw[j',CY];omega
theorem LH(k i:List Int)(n:Nat):∀ x∈Gz k i n,0<=x/\x<256:=λx a=>RD k i 16 x (nB a)
theorem Ut(o f g:Value)(a b d:List Int)(n:Nat)(w:World)(j:Sl w o a)(k:Sl w f b)(l:Sl w g d)(p:a.length<=256)(q:b.length<=256)(r:d.length<=256)(s:n<=512)(m:AD w) :
  Calls prog 25 #[o,f,g,.int .i64 n] w λe w'=>∃ v',e=.returned (.tuple #[v',.int .i64 0])/\w'.ownsRow w.heap.size 5 1 v' (Gz (EC b a) d n).length ((Gz (EC b a) d n).map (Value.int .u8))/\Bw w w':=by
 have s0:=j;have t:=k;have u:=l;obtain⟨⟨a0,z,rfl,_,_,_⟩,_,_⟩:=j;obtain⟨⟨x,A,rfl,_,_,_⟩,_,_⟩:=k;obtain⟨⟨y,B,rfl,_,_,_⟩,_,_⟩:=l;have C:decide ((256:Int)<(a.length:Int))=false:=by simp;omega
 have D:decide ((256:Int)<(b.length:Int))=false:=by simp;omega
 have E:decide ((256:Int)<(d.length:Int))=false:=by simp;omega
 have F:decide ((n:Int)<0)=false:=by simp
 have G:decide ((512:Int)<(n:Int))=false:=by simp;omega
 go_enter func25,ntmps25
 go_wp2_with fail
 refine(P6 _ _ b a w t s0 (by omega) (by omega) m).mono ?_;rintro e v ⟨f,rfl,c⟩;have H:=DZ b a;go_wp2_with fail
 refine(SK f _ (EC b a) d n v c.sl (u.af c.tU) (by omega) (by omega) s (m.af c.tU)).mono ?_;rintro e I ⟨g,rfl,i,h⟩;go_wp2
 go_ret2
 exact⟨g,rfl,BN i c.tU.size,c.tU.trans (h.mono c.tU.size)⟩
def IC(c:Int):List Int:=Gz (EC [99,108,105,101,110,116] [c]) [] 32
def Ft:List Int:=Gz (EC [105,115,115,117,101,114] [255]) [] 32
theorem Cy(c:Int):(IC c).length=32:=I6 _ _ 32 (by omega)
theorem G4:Ft.length=32:=I6 _ _ 32 (by omega)
theorem Wq(c:Int):∀ x∈IC c,0<=x/\x<256:=LH _ _ _
theorem Wn:∀ x∈Ft,0<=x/\x<256:=LH _ _ _
theorem Sl.uH(w:World)(l:List Int)(e:TypeId)(a:Nat × Nat){g:Nat}(c:g=w.heap.size)(f:l.length=6)(b:∀ x∈l,0<=x/\x<256):Sl (w.alloc (.cells (l.map (Value.int .u8)).toArray e a)) (.slice (some ⟨g,0,none⟩) 6 6) l:=by
 subst c;refine⟨⟨_,6,by rw[f],by omega,by simp,.inr ⟨w.heap.size,0,rfl,by simp,λi d=>?_⟩⟩,by omega,b⟩;rw[cell_of_row _ _ (0+i) _ _ _ (heap_alloc_new w _)];simp[List.getElem?_eq_getElem d,List.getD]
def Ha(t:Nat)(x:Int):Int:=if t%4=3 then x%16 else if t%4=0/\0<t then x/4*4 else x
def Ec(l:List Int):List Int:=(List.range 16).map λt=>Ha t (l.getD t 0)
theorem Nx(l:List Int):(Ec l).length=16:=by simp[Ec]
theorem Sq(l:List Int)(t:Nat)(h:t<16):(Ec l).getD t 0=Ha t (l.getD t 0):=by
 simp[Ec,List.getD,List.getElem?_map,List.getElem?_range h]
theorem Pk(t:Nat){x:Int}(h:0<=x/\x<256):0<=Ha t x/\Ha t x<256:=by
 unfold Ha;split
 .omega
 .split<;>omega
theorem Qt(h:∀ x∈l,0<=x/\x<256):∀ x∈Ec l,0<=x/\x<256:=by
 intro x a;obtain⟨t,_,rfl⟩:=nF.1 a;exact Pk t (Am h t)
theorem SI(h:l.length=m.length)(c:∀ t,t<l.length->l.getD t 0=m.getD t 0):l=m:=by
 apply pz h;intro t a b;have:=c t a
 rwa [AQ a,AQ b]at this
theorem ki(x:Int)(a:0<=x)(b:x<256):bits .and .u8 x 15=x%16:=by
 obtain⟨n,rfl⟩:=nR a;rw[show(15:Int)=((15:Nat):Int)from rfl,u8_and_nat _ _ (by omega) (by omega),show(15:Nat)=2^4-1 from rfl,qW];omega
theorem Sc:∀ n:Fin 256,n.val &&& 252=n.val/4*4:=by decide +kernel
theorem ii(x:Int)(a:0<=x)(b:x<256):bits .and .u8 x 252=x/4*4:=by
 obtain⟨n,rfl⟩:=nR a;have e:n &&& 252=n/4*4:=Sc ⟨n,by omega⟩;rw[show(252:Int)=((252:Nat):Int)from rfl,u8_and_nat _ _ (by omega) (by omega),e];omega
structure Upper(l m:List Int)(j:Nat):Prop where
 len:m.length=16
 at_:∀ t,m.getD t 0=if t%4=3/\t<3+4*j then l.getD t 0%16 else l.getD t 0
theorem Upper.zero(h:l.length=16):Upper l l 0:=by
 refine⟨h,λt=>?_⟩;rw[if_neg (by omega)]
theorem Upper.succ(h:Upper l m j)(a:j<4):Upper l (m.set (3+4*j) (m.getD (3+4*j) 0%16)) (j+1):=by
 refine⟨by simpa using h.len,λt=>?_⟩;by_cases e:3+4*j=t
 .subst e;rw[AT (by rw[h.len];omega),h.at_,if_neg (by omega),if_pos (by omega)]
 .rw[AE e,h.at_];by_cases c:t%4=3/\t<3+4*j
  .rw[if_pos c,if_pos (by omega)]
  .rw[if_neg c,if_neg (by omega)]
structure Lower(l m:List Int)(j:Nat):Prop where
 len:m.length=16
 at_:∀ t,t<16->m.getD t 0=if t%4=3 then l.getD t 0%16 else if t%4=0/\0<t/\t<4+4*j then l.getD t 0/4*4 else l.getD t 0
theorem Upper.lower(h:Upper l m 4):Lower l m 0:=by
 refine⟨h.len,λt a=>?_⟩;rw[h.at_];by_cases c:t%4=3
 .rw[if_pos (by omega),if_pos c]
 .rw[if_neg (by omega),if_neg c,if_neg (by omega)]
theorem Lower.succ(h:Lower l m j)(b:j<3):Lower l (m.set (4+4*j) (m.getD (4+4*j) 0/4*4)) (j+1):=by
 refine⟨by simpa using h.len,λt a=>?_⟩;by_cases e:4+4*j=t
 .subst e;rw[AT (by rw[h.len];omega),h.at_ _ a,if_neg (by omega),if_neg (by omega),if_neg (by omega),if_pos (by omega)]
 .rw[AE e,h.at_ _ a];by_cases c:t%4=3
  .rw[if_pos c,if_pos c]
  .rw[if_neg c,if_neg c];by_cases d:t%4=0/\0<t/\t<4+4*j
   .rw[if_pos d,if_pos (by omega)]
   .rw[if_neg d,if_neg (by omega)]
theorem Lower.uB(h:Lower l m 3):m=Ec l:=by
 refine SI (by rw[h.len,Nx]) (λt a=>?_);rw[h.len]at a
 rw[h.at_ t a,Sq l t a,Ha];by_cases c:t%4=3
 .rw[if_pos c,if_pos c]
 .rw[if_neg c,if_neg c];by_cases d:t%4=0/\0<t
  .rw[if_pos d,if_pos (by omega)]
  .rw[if_neg d,if_neg (by omega)]
theorem Upper.byte(h:Upper l m j)(a:∀ x∈l,0<=x/\x<256)(t:Nat):0<=m.getD t 0/\m.getD t 0<256:=by
 have:=Am a t;rw[h.at_];split<;>omega
theorem Lower.byte(h:Lower l m j)(a:∀ x∈l,0<=x/\x<256)(t:Nat)(b:t<16):0<=m.getD t 0/\m.getD t 0<256:=by
 have:=Am a t;rw[h.at_ t b];split
 .omega
 .split<;>omega
theorem SL(v:Value)(l:List Int)(w:World)(h:Sl w v l)(S:l.length=16) :
  Calls prog 152 #[v] w λe w'=>∃ r,e=.returned (.agg (Ak r))/\Lim 67108864 r/\val r%pp=leN (Ec l)%pp/\Bw w w':=by
 have T:=h;obtain⟨⟨a,Y,rfl,hc,hn,Z⟩,M,A⟩:=h;have n:Hid (∀ x∈l,0<=x/\x<256):=A;clear Z A hn M;have W:Hid (l.length=16):=S;go_enter func152,ntmps152
 go_wp2_with (refine wpList_copy_splice rfl _ _ 26 26 rfl 5 underlying26 YU _ _ _ _ _ _ rfl rfl (w.heap.size+1) 0 ((List.replicate 16 (0:Int)).map (Value.int .u8)) 268 (heap_alloc2_new _ _ _) (l.map (Value.int .u8)) (by rw[nK];exact(oJ (show l.length<=16 by omega)).symm) (λhp=>⟨rfl,(T.af (((Below.refl _ _).alloc (A' _) _).alloc (by simp) _)).src (by simpa using hp)⟩) (by rw[nK,nK,oW];omega) (Fs _) (w.heap.size+1) _ (Below.refl _ _) (A' _) ?_)
 intro F Q q;have E:F.heap[w.heap.size+1]?=some (.cells (byA l) 268 (0,0)):=by
  have R:F.heap[w.heap.size+1]?=some (.cells (splice ((List.replicate 16 (0:Int)).map (Value.int .u8)) 0 (l.map (Value.int .u8))).toArray 268 (0,0)):=Q.out;rw[Jj,S]at R
  simpa[byA]using R
 have y:Bw w F:=(((Below.refl _ _).alloc (A' _) _).alloc (by simp) _).trans (q.mono (by omega));have C:F.heap[w.heap.size]?=some (.cells (Ak [0,0,0,0,0]) 236 (0,0)):=by
  rw[q.block _ (by omega)];exact heap_alloc2_old _ _ _
 clear Q q T;go_wp2_with fail
 go_loopw [4] (λi wr=>∃ (j:Nat) (m:List Int),j<=4/\i=.int .i64 (3+4*(j:Int))/\Upper l m j/\wr.heap[w.heap.size]?=some (.cells (Ak [0,0,0,0,0]) 236 (0,0))/\wr.heap[w.heap.size+1]?=some (.cells (byA m) 268 (0,0))/\Bw w wr) (λi _=>20-(intOf i).toNat)
 case atStart=>exact⟨0,l,by omega,rfl,Upper.zero W.out,C,E,y⟩
 case round =>
  clear C E y;obtain⟨j,m,hj,rfl,c,t,f,o⟩:=hrel;have N:=c.len;by_cases J:j<4
  .have K:3+4*(j:Int)<16:=by omega
   have H:=(cell_of_row _ _ (3+4*j) _ _ _ f).trans (I0 m (3+4*j) (by omega));have fl:=frozen_of_row _ _ (3+4*j) _ _ f;have b:=c.byte n.out (3+4*j);have u:Hid (Upper l (m.set (3+4*j) (m.getD (3+4*j) 0%16)) (j+1)):=c.succ J;have d:=ki (m.getD (3+4*j) 0) b.1 b.2;generalize m.getD (3+4*j) 0=x at H u b d;clear c;go_wp2
   go_roundw
   case rel =>
    refine⟨j+1,_,by omega,by go_num,u.out,?_,GZ f _ _,?_⟩
    .exact(heap_setCell_other _ _ _ _ (by simp)).trans t
    .exact o.setCell (p:=⟨w.heap.size+1,3+4*j,none⟩) (by simp) _
   case measure=>simp[intOf];omega
  .have HJ:Hid (j=4):=by unfold Hid;omega
   have K:¬ 3+4*(j:Int)<16:=by omega
   have B:Lower l m 0:=by have:=HJ.out;subst this;exact c.lower
   clear c;go_wp2_with fail
   go_loopw [5] (λi wr=>∃ (j:Nat) (m:List Int),j<=3/\i=.int .i64 (4+4*(j:Int))/\Lower l m j/\wr.heap[w.heap.size]?=some (.cells (Ak [0,0,0,0,0]) 236 (0,0))/\wr.heap[w.heap.size+1]?=some (.cells (byA m) 268 (0,0))/\Bw w wr) (λi _=>20-(intOf i).toNat)
   case atStart=>exact⟨0,m,by omega,rfl,B,t,f,o⟩
   case round =>
    clear t f o B N;obtain⟨k,m,hk,rfl,c,t,f,o⟩:=hrel;have N:=c.len;by_cases L:k<3
    .have hki:4+4*(k:Int)<16:=by omega
     have H:=(cell_of_row _ _ (4+4*k) _ _ _ f).trans (I0 m (4+4*k) (by omega));have fl:=frozen_of_row _ _ (4+4*k) _ _ f;have b:=c.byte n.out (4+4*k) (by omega);have u:Hid (Lower l (m.set (4+4*k) (m.getD (4+4*k) 0/4*4)) (k+1)):=c.succ L;have d:=ii (m.getD (4+4*k) 0) b.1 b.2;generalize m.getD (4+4*k) 0=x at H u b d;clear c;go_wp2
     go_roundw
     case rel =>
      refine⟨k+1,_,by omega,by go_num,u.out,?_,GZ f _ _,?_⟩
      .exact(heap_setCell_other _ _ _ _ (by simp)).trans t
      .exact o.setCell (p:=⟨w.heap.size+1,4+4*k,none⟩) (by simp) _
     case measure=>simp[intOf];omega
    .have hki:¬ 4+4*(k:Int)<16:=by omega
     have V:Hid (k=3):=by unfold Hid;omega
     have s:m=Ec l:=by have:=V.out;subst this;exact c.uB
     have s3:Sl wr (.slice (some ⟨w.heap.size+1,0,none⟩) 16 16) m:=by
      refine Sl.rowOf f N (by omega) ?_;rw[s];exact Qt n.out
     have X:Hid (m=Ec l):=s;have G:Hid _:=s3;have O:w.heap.size<wr.heap.size:=(U'.1 t).1;clear c s3 s f;go_wp2_with fail
     refine(R1 _ m _ G.out (by omega)).mono ?_;rintro e U ⟨r,rfl,P,vr,z⟩;have D:=(z.block w.heap.size O).trans t;have I:Bw w U:=o.trans (z.mono o.size);have g:=Dn P.1;go_wp2_with ((with_reducible (refine As ?_));(refine wpList_store_row rfl 236 _ _ rfl (w.heap.size) _ rfl rfl 236 _ D g (by rw[Al,Al,P.1];rfl) (BH r) ?_))
     exact bodyPost_ret (v:=.agg (Ak r)) (results_cell_row rfl _ _ (w.heap.size) 236 _ (0,0) _ rfl (setRow_heap U (w.heap.size) _ _ 236 _ D) underlying236 rfl g) rfl ⟨r,rfl,P,by rw[vr,X.out],Bm I (A' _) _⟩
def AO(v:Int)(i:Nat):Int:=v/256^i%256
theorem Gv(v:Int)(i:Nat):0<=AO v i/\AO v i<256:=by unfold AO;omega
def leB(n:Nat)(v:Int):List Int:=(List.range n).map (AO v)
theorem DF(n:Nat)(v:Int):(leB n v).length=n:=by simp[leB]
theorem IF(n:Nat)(v:Int):∀ x∈leB n v,0<=x/\x<256:=by
 intro x a;obtain⟨j,_,rfl⟩:=nF.1 a;exact Gv v j
def Ga(S:Nat->Int):Nat->Int
 | 0=>0
 | k+1=>Ga S k+S k*256^k
def I1(S:Nat->Int)(k:Nat):Int:=Ga S k/256^k
theorem Ms(k:Nat):(0:Int)<256^k:=Int.pow_pos (by omega)
theorem Of(S:Nat->Int):I1 S 0=0:=by simp[I1,Ga]
theorem Od(S:Nat->Int)(k:Nat):I1 S (k+1)=(I1 S k+S k)/256:=by
 have a:=Ms k;unfold I1;rw[Ga,qY,<- qt (qP a),Int.add_mul_ediv_right _ _ (Int.ne_of_gt a)]
theorem Si(S:Nat->Int)(h:∀ j,0<=S j/\S j<1000)(k:Nat):0<=I1 S k/\I1 S k<256:=by
 induction k with
 | zero=>rw[Of];omega
 | succ k ih=>rw[Od];have:=h k;omega
theorem Xk(S:Nat->Int)(k d:Nat):∃ Z,Ga S (k+d)=Ga S k+256^k*Z:=by
 induction d with
 | zero=>exact⟨0,by simp⟩
 | succ d ih =>
  obtain⟨Z,a⟩:=ih;refine⟨Z+S (k+d)*256^d,?_⟩;rw[<- oB,Ga,a,qf]
  grind
theorem Lv(v Z:Int)(n k:Nat)(h:k<n):AO (v+256^n*Z) k=AO v k:=by
 have a:=Ms k;obtain⟨d,rfl⟩:∃ d,n=k+(1+d):=⟨n-k-1,by omega⟩;unfold AO;rw[qf,qf,show(256:Int)^k*(256^1*256^d)*Z=256^k*(256*(256^d*Z))by grind,Int.add_mul_ediv_left _ _ (Int.ne_of_gt a)];omega
theorem VI(S:Nat->Int)(n k:Nat)(h:k<n):(I1 S k+S k)%256=AO (Ga S n) k:=by
 have b:=Ms k;obtain⟨d,rfl⟩:∃ d,n=(k+1)+d:=⟨n-(k+1),by omega⟩;obtain⟨Z,a⟩:=Xk S (k+1) d;rw[a,Lv _ _ _ _ (by omega),AO,Ga,Int.add_mul_ediv_right _ _ (Int.ne_of_gt b)];rfl
theorem bj(S T:Nat->Int)(k:Nat):Ga (λj=>S j+T j) k=Ga S k+Ga T k:=by
 induction k with
 | zero=>rfl
 | succ k ih=>simp only[Ga,ih];grind
theorem bk(l:List Int)(k:Nat):Ga (λj=>l.getD j 0) k=leP l k:=by
 induction k with
 | zero=>rfl
 | succ k ih=>simp only[Ga,leP,ih]
theorem Uh(v:Int)(n:Nat):∃ Z,v=Ga (AO v) n+256^n*Z/\Z=v/256^n:=by
 induction n with
 | zero=>exact⟨v,by simp[Ga],by simp⟩
 | succ n ih =>
  obtain⟨Z,b,a⟩:=ih;refine⟨Z/256,?_,?_⟩
  .rw[Ga,AO,<- a,qY];have:Z=Z%256+256*(Z/256):=by omega
   grind
  .rw[a,qY,qt (qP (Ms n))]
theorem XR(v:Int)(s:List Int)(k:Nat)(a:k<16)(b:s.length<=16) :
  (I1 (λj=>AO v j+s.getD j 0) k+(AO v k+s.getD k 0))%256=AO (v+leN s) k:=by
 rw[VI (λj=>AO v j+s.getD j 0) 16 k a,bj (AO v) (λj=>s.getD j 0),bk,Zk 16 b];obtain⟨Z,c,_⟩:=Uh v 16;have e:v+leN s=Ga (AO v) 16+leN s+256^16*Z:=by omega
 rw[e,Lv _ _ _ _ a]
def Jm(v:Int)(k:Nat):List Int:=(List.range 16).map λj=>if j<k then AO v j else 0
theorem RK(v:Int)(k:Nat):(Jm v k).length=16:=by simp[Jm]
theorem Xq(v:Int):Jm v 0=List.replicate 16 0:=rfl
theorem bE(v:Int):Jm v 16=leB 16 v:=by
 unfold Jm leB;refine rD λj a=>?_;rw[if_pos (pU.1 a)]
theorem Xp(v:Int)(k:Nat)(_hk:k<16):(Jm v k).set k (AO v k)=Jm v (k+1):=by
 apply pz (by simp[Jm]);intro j a b;rw[pA];simp only[Jm,List.getElem_map,List.getElem_range];by_cases e:k=j
 .subst e;rw[if_pos rfl,if_pos (by omega)]
 .rw[if_neg e];by_cases c:j<k
  .rw[if_pos c,if_pos (by omega)]
  .rw[if_neg c,if_neg (by omega)]
theorem T3(a b:Int)(k:Nat)(m:Int)(d:m=2^k)(g:0<=a)(c:a<m)(h:0<=b)(i:a+b*m<18446744073709551616):bits .or .u64 a (b*m)=a+b*m:=by
 obtain⟨x,rfl⟩:=nR g;obtain⟨y,rfl⟩:=nR h;have e:(y:Int)*m=((2^k*y:Nat):Int):=by rw[d,rA,pV,Int.mul_comm];rfl
 rw[e]at i ⊢
 have j:x<2^k:=by
  have:((x:Nat):Int)<((2^k:Nat):Int):=by rw[pV];rw[d]at c;exact c
  omega
 have f:=pW j y;rw[u64_or_nat _ _ (by omega) (by omega),Nat.or_comm,<- f];omega
theorem j0{a b:Int}(h:a=b):Ending.returned (.int .u8 a)=.returned (.int .u8 b):=by rw[h]
theorem Sg(n:List Int)(i:Nat)(w:World)(o:Lim 67108864 n)(B:i<16) :
  Calls prog 177 #[.agg (Ak n),.int .i64 i] w λe w'=>e=.returned (.int .u8 (AO (val n) i))/\Bw w w':=by
 obtain⟨a,b,c,d,e,rfl,⟨q,r⟩,⟨s,t⟩,⟨u,v⟩,⟨x,y⟩,⟨z,A⟩⟩:=o.split;have f:(w.alloc (.cells (Ak [a,b,c,d,e]) 236 (0,0))).heap[w.heap.size]?=some (.cells (Ak [a,b,c,d,e]) 236 (0,0)):=heap_alloc_new _ _;have h:=(cell_of_row _ _ 0 _ _ _ f).trans (Av _ 0 (by simp));have j:=(cell_of_row _ _ 1 _ _ _ f).trans (Av _ 1 (by simp));have k:=(cell_of_row _ _ 2 _ _ _ f).trans (Av _ 2 (by simp));have l:=(cell_of_row _ _ 3 _ _ _ f).trans (Av _ 3 (by simp));have m:=(cell_of_row _ _ 4 _ _ _ f).trans (Av _ 4 (by simp));simp only[nJ,nZ]at h j k l m;have g:Hid (val [a,b,c,d,e]=a+67108864*b+4503599627370496*c+302231454903657293676544*d+20282409603651670423947251286016*e):=D7 a b c d e;generalize Ak [a,b,c,d,e]=arr at h j k l m ⊢;generalize val [a,b,c,d,e]=V at g ⊢;clear o f;obtain rfl|rfl|rfl|rfl|rfl|rfl|rfl|rfl|rfl|rfl|rfl|rfl|rfl|rfl|rfl|rfl:i=0\/i=1\/i=2\/i=3\/i=4\/i=5\/i=6\/i=7\/i=8\/i=9\/i=10\/i=11\/i=12\/i=13\/i=14\/i=15:=by omega
 all_goals
  go_enter func177,ntmps177
  go_wp2
  go_ret;refine⟨j0 ?_,(Below.refl _ _).alloc (A' _) _⟩;have p:=g.out;clear g h j k l m;unfold AO
  first
   | rw[T3 _ _ 2 4 rfl (by omega) (by omega) (by omega) (by omega)]
   | rw[T3 _ _ 4 16 rfl (by omega) (by omega) (by omega) (by omega)]
   | rw[T3 _ _ 6 64 rfl (by omega) (by omega) (by omega) (by omega)]
   | skip
  subst p;simp only[Int.reducePow];omega
theorem NN{d:Nat}{K:Act->World->Prop}{a:Act}(R:World->Prop){A:Act}(c:∀ K':Act->World->Prop,Hid (∀ W2,R W2->K' A W2)->(Code.region d ops true).wp P (Exit.then K' Q) a w)(b:∀ W2,R W2->K A W2):(Code.region d ops true).wp P (Exit.then K Q) a w:=c K b
theorem PY(nl:List Int)(v:Value)(s:List Int)(w:World)(h:Sl w v s)(Z:s.length=16)(hn:Lim 67108864 nl) :
  Calls prog 150 #[.agg (Ak nl),v] w λe w'=>∃ v',e=.returned v'/\Sl w' v' (leB 16 (val nl+leN s))/\Bw w w':=by
 obtain⟨⟨a,a3,rfl,hc,a1,O⟩,a0,r⟩:=h;rcases O with rfl|⟨B,off,rfl,hB,hcell⟩
 .simp at Z
 have HC:Hid (∀ i,i<16->w.cell? ⟨B,off+i,none⟩=some (.int .u8 (s.getD i 0))):=λi hi=>hcell i (by omega);have n:Hid (∀ x∈s,0<=x/\x<256):=r;have o:Hid (s.length=16):=Z;rw[Z]at hc ⊢
 clear hcell r a1 a0;obtain⟨J,K,L,M,N,rfl,_⟩:=hn.split;obtain⟨V,X⟩:∃ V,val [J,K,L,M,N]=V:=⟨_,rfl⟩;have HV:Hid (val [J,K,L,M,N]=V):=X;rw[X];clear X;obtain⟨i0,z,A,C,D⟩:=info_parts Ay;go_enter func150,ntmps150
 go_wp2_with (at_make;refine wpList_make_row _ rfl _ _ 26 rfl 5 i0 (.int .u8 0) underlying26 z A C rfl _ _ 16 rfl rfl (by rw[D];omega) (by omega) ?_)
 clear z A C D
 go_loopw [6,11] (λcv i wr=>∃ (k:Nat),k<=16/\i=.int .i64 k/\cv=.int .i64 (I1 (λj=>AO V j+s.getD j 0) k)/\wr.heap[w.heap.size]?=some (.cells (Ak [J,K,L,M,N]) 236 (0,0))/\wr.heap[w.heap.size+1]?=some (.cells (byA (Jm (V+leN s) k)) 5 (0,0))/\Bw w wr) (λ_ i _=>16-(intOf i).toNat)
 case atStart =>
  refine⟨0,by omega,rfl,by rw[Of],?_,?_,?_⟩
  .exact heap_alloc2_old _ _ _
  .have e:madeCells #[Value.int .u8 0] 16=byA (Jm (V+leN s) 0):=by rw[Xq];kernel_rfl
   rw[e];exact heap_alloc2_new _ _ _
  .exact((Below.refl _ _).alloc (A' _) _).alloc (by simp) _
 case round =>
  obtain⟨k,hk,rfl,rfl,f,g,P⟩:=hrel;by_cases b:k<16
  .have hki:(k:Int)<16:=by omega
   have E:=(cell_of_row _ _ 0 _ _ _ f).trans (Av _ 0 (by simp));have F:=(cell_of_row _ _ 1 _ _ _ f).trans (Av _ 1 (by simp));have G:=(cell_of_row _ _ 2 _ _ _ f).trans (Av _ 2 (by simp));have H:=(cell_of_row _ _ 3 _ _ _ f).trans (Av _ 3 (by simp));have I:=(cell_of_row _ _ 4 _ _ _ f).trans (Av _ 4 (by simp));simp only[nJ,nZ]at E F G H I;have a2:w.heap.size+1<wr.heap.size:=(U'.1 g).1;have U:B<wr.heap.size:=by omega
   have ch:=(P.cell (p:=⟨B,off+k,none⟩) hB).trans (HC.out k b);have t:∀ j,0<=AO V j+s.getD j 0/\AO V j+s.getD j 0<1000:=λj=>by
    have R:=Gv V j;have S:=Am n.out j;omega
   have u:=Si (λj=>AO V j+s.getD j 0) t k;have d:Hid (I1 (λj=>AO V j+s.getD j 0) (k+1)=(I1 (λj=>AO V j+s.getD j 0) k+(AO V k+s.getD k 0))/256):=Od _ k;have c:Hid ((I1 (λj=>AO V j+s.getD j 0) k+(AO V k+s.getD k 0))%256=AO (V+leN s) k):=XR V s k b (by rw[o.out];omega);have R:=Gv V k;have S:=Am n.out k;have l:=Sg [J,K,L,M,N] k;rw[HV.out]at l
   have m:Hid (∀ W,Calls prog 177 #[.agg (Ak [J,K,L,M,N]),.int .i64 k] W λe w'=>e=.returned (.int .u8 (AO V k))/\Bw W w'):=λW=>l W hn b;have HT:Hid _:=g;have HR:Hid _:=f;have HB:Hid _:=P;clear l t g f P;have a5:=RK (V+leN s) k;have Q:Hid ((Jm (V+leN s) k).set k (AO (V+leN s) k)=Jm (V+leN s) (k+1)):=Xp _ k b;generalize I1 (λj=>AO V j+s.getD j 0) k=cy at d c u;generalize AO V k=x at d c R m;generalize s.getD k 0=y at d c S ch;obtain⟨x1,x2⟩:=R;obtain⟨y1,y2⟩:=S;obtain⟨z1,z2⟩:=u;go_wp2_with fail
   apply NN (λW=>Bw wr W)
   .intro K2 HK2
    go_region_with (go_at_call 177;refine(m.out _).mono ?_;rintro e w2 ⟨rfl,q⟩;have a4:=(q.cell (p:=⟨B,off+k,none⟩) U).trans ch)
    all_goals exact HK2.out _ ((Below.refl _ _).drew.trans q)
   intro W Y;have g:=(Y.block _ a2).trans HT.out;have f:=(Y.block _ (by omega)).trans HR.out;have ct:=(cell_of_row _ _ k _ _ _ g).trans (I0 _ k (by omega));have ft:=frozen_of_row _ _ k _ _ g;have T:Bw w W:=HB.out.trans (Y.mono HB.out.size);clear E F G H I ch;generalize (Jm (V+leN s) k).getD k 0=c0 at ct;go_wp2
   go_roundw
   case rel =>
    refine⟨k+1,by omega,by go_num,?_,?_,?_,?_⟩
    .rw[d.out]
    .exact(heap_setCell_other _ _ _ _ (by simp)).trans f
    .have O:=GZ g k (AO (V+leN s) k);rw[Q.out,<- c.out]at O
     exact O
    .exact T.setCell (p:=⟨w.heap.size+1,k,none⟩) (by simp) _
   case measure=>simp[intOf];omega
  .have hki:¬ (k:Int)<16:=by omega
   have HK:Hid (k=16):=by unfold Hid;omega
   go_wp2
   go_ret;have hK:=HK.out;subst hK;rw[bE]at g
   exact⟨_,rfl,Sl.rowOf g (DF _ _) (by rw[DF];omega) (IF _ _),P⟩
def Xn(key data:List Int):List Int:=leB 16 (gT (leN (Ec (key.take 16))) data+leN (key.drop 16))
theorem RI(key a:List Int):(Xn key a).length=16:=DF _ _
theorem Xo(key a:List Int):∀ x∈Xn key a,0<=x/\x<256:=IF _ _
theorem Sl.tL(h:Sl w v l):∃ a c,v=.slice a l.length c:=by
 obtain⟨⟨a,b,e,_⟩,_⟩:=h;exact⟨a,b,e⟩
theorem jG(r q:Value)(key a:List Int)(w:World)(g:Sl w r key)(m:Sl w q a)(lk:key.length=32)(B:a.length<=4000) :
  Calls prog 118 #[r,q] w λe w'=>∃ v',e=.returned (.tuple #[v',.int .i64 0])/\Sl w' v' (Xn key a)/\Bw w w':=by
 obtain⟨k,l,rfl⟩:=g.tL;obtain⟨ad,K,rfl⟩:=m.tL;rw[lk]at g ⊢
 obtain⟨s,u,c,o⟩:=g.qv 16 (by omega);obtain⟨t,v,d,p⟩:=g.from 16 (by omega);have x:∀ W,(Instr.slice 26 (.slice k 32 l) none (some (.int .i64 16)) none).run prog W=.ok (.slice s 16 u) W:=c;have y:∀ W,(Instr.slice 26 (.slice k 32 l) (some (.int .i64 16)) none none).run prog W=.ok (.slice t 16 v) W:=d;clear c d;have lt:(key.take 16).length=16:=by rw[j'];omega
 have n:(key.drop 16).length=16:=by rw[nu];omega
 have C:¬ (4000:Int)<(a.length:Int):=by omega
 have h:Hid (Xn key a=leB 16 (gT (leN (Ec (key.take 16))) a+leN (key.drop 16))):=rfl;generalize key.take 16=K1 at o lt h;generalize key.drop 16=K2 at p n h;clear g lk;have j:Hid (a.length<=4000):=B;go_enter func118,ntmps118
 go_wp2_with fail
 go_region_with (first
  | (go_at_call 152;refine(SL _ K1 _ (o.af ((Below.refl _ _).drew)) lt).mono ?_;rintro e L ⟨E,rfl,z,G,b⟩)
  | (go_at_call 151;refine(Py E (leN (Ec K1)) _ a _ (m.af ((Below.refl _ _).drew.trans b)) j.out z G).mono ?_;rintro e J ⟨D,rfl,A,H,f⟩)
  | (go_at_call 150;refine(PY D _ K2 _ (p.af (((Below.refl _ _).drew.trans b).trans (f.mono b.size))) n A).mono ?_;rintro e M ⟨I,rfl,F,i⟩))
 all_goals
  go_wp2
  go_ret2
  refine⟨I,rfl,?_,?_⟩
  .rw[h.out,<- H];exact F
  .have b3:Bw w J:=((Below.refl _ _).drew.trans b).trans (f.mono b.size);exact b3.trans (i.mono b3.size)
def gap(n:Nat):Nat:=(16-n%16)%16
def EQ(l:List Int):List Int:=l++List.replicate (gap l.length) 0
theorem EX(l:List Int):(EQ l).length=l.length+gap l.length:=by rw[EQ,E',oW]
theorem Ig(n:Nat):gap n<16:=by unfold gap;omega
theorem UJ(n:Nat):(n+gap n)%16=0:=by unfold gap;omega
theorem Wc(n j:Nat)(h:j<gap n):¬ (n+j)%16=0:=by unfold gap at h;omega
theorem dE(n m:Nat)(h:n%16=0):gap (n+m)=gap m:=by unfold gap;omega
theorem OA(h:∀ x∈l,0<=x/\x<256):∀ x∈EQ l,0<=x/\x<256:=by
 intro x a;rcases O'.1 a with h1|h1
 .exact h x h1
 .rw[(ql.1 h1).2];omega
theorem ZW(a s:List Int):EQ (EQ a++s)=EQ a++EQ s:=by
 have h:(EQ a).length%16=0:=by rw[EX];exact UJ _
 rw[EQ,E',dE _ _ h,nm];rfl
theorem Zj(k:Nat)(v:Int):leB (k+1) v=leB k v++[AO v k]:=by
 simp[leB,List.range_succ]
def G7(a s:List Int):List Int:=EQ a++EQ s++leB 8 (a.length:Int)++leB 8 (s.length:Int)
theorem IE(a s:List Int):(G7 a s).length=a.length+gap a.length+(s.length+gap s.length)+8+8:=by
 simp only[G7,E',EX,DF]
theorem Th{s:List Int}(b:∀ x∈a,0<=x/\x<256)(c:∀ x∈s,0<=x/\x<256):∀ x∈G7 a s,0<=x/\x<256:=by
 intro x hx;rcases O'.1 hx with hx|hx
 .rcases O'.1 hx with hx|hx
  .rcases O'.1 hx with hx|hx
   .exact OA b x hx
   .exact OA c x hx
  .exact IF _ _ x hx
 .exact IF _ _ x hx
def Eo(key nonce a s:List Int):List Int:=Xn ((CO (Cf key (BitVec.ofNat 32 0) nonce)).take 32) (G7 a s)
theorem Jk(key b a s:List Int):(Eo key b a s).length=16:=RI _ _
theorem MK(key b a s:List Int):∀ x∈Eo key b a s,0<=x/\x<256:=Xo _ _
def DB(key nonce p:List Int):List Int:=KN (Cf key (BitVec.ofNat 32 1) nonce) p
theorem CJ(key a p:List Int):(DB key a p).length=p.length:=Dm _ _
def DA(key nonce a p:List Int):List Int:=DB key nonce p++Eo key nonce a (DB key nonce p)
theorem FW(key b a p:List Int):(DA key b a p).length=p.length+16:=by
 rw[DA,E',CJ,Jk]
theorem K8(v:Value)(l:List Int)(B:Nat)(w:World)(p:w.ownsRow B 5 1 v l.length (l.map (Value.int .u8)))(E:B<=w.heap.size)(J:l.length<=100000) :
  Calls prog 153 #[v] w λe w'=>∃ v',e=.returned v'/\w'.ownsRow B 5 1 v' (EQ l).length ((EQ l).map (Value.int .u8))/\Below B w w':=by
 have r:Hid (EQ l=l++List.replicate (gap l.length) 0):=rfl;have F:=Ig l.length;have s:Hid (∀ j,j<gap l.length->¬ (l.length+j)%16=0):=λj x=>Wc _ _ x;have q:Hid ((l.length+gap l.length)%16=0):=UJ _;obtain⟨a0,A,rfl⟩:=EW p;generalize gap l.length=G at r F s q;go_enter func153,ntmps153
 go_wp2_with fail
 go_loopw [0] (λv wr=>∃ (j:Nat) (a:Option Addr) (f:Nat),j<=G/\v=.slice a (l.length+j) f/\wr.ownsRow B 5 1 v (l++List.replicate j 0).length ((l++List.replicate j 0).map (Value.int .u8))/\Below B w wr) (λv _=>l.length+G-Zn v)
 case atStart=>exact⟨0,a0,A,by omega,rfl,by simpa using p,Below.refl _ _⟩
 case round =>
  clear p;obtain⟨j,a,f,x,rfl,b,d⟩:=hrel;have h:=b.lt;by_cases o:j<G
  .have t:=s.out j o;have u:¬ ((l.length:Int)+j)%16=0:=by omega
   go_wp2_with (at_builtin;refine Aa _ rfl _ _ 26 rfl B 5 underlying26 Ay _ _ rfl rfl (l++List.replicate j 0) [0] (b.alloc _) (Sl.one _ _ _ rfl (by omega)) (by simp;omega) (by have:=d.size;simp;omega) ?_)
   intro I y i g;have c:y.ownsRow B 5 1 I (l++List.replicate (j+1) 0).length ((l++List.replicate (j+1) 0).map (Value.int .u8)):=by rw[<- MD];simpa using i
   have n:Below B w y:=(d.alloc (na E d.size) _).grown g (by have:=d.size;simp;omega) (λk H=>(h k H).1);obtain⟨z,C,m⟩:=EW c;rw[E',oW]at m
   subst m;clear i g b h d t u;go_wp2
   go_roundw
   case rel=>exact⟨j+1,z,C,by omega,rfl,c,n⟩
   case measure=>simp[Zn];omega
  .have HJ:Hid (G=j):=by unfold Hid;omega
   have D:=q.out;have t:((l.length:Int)+j)%16=0:=by have:=HJ.out;omega
   have u:(((l.length:Int)+j)%16 != 0)=false:=by simp;omega
   clear D;go_wp2
   go_ret;refine⟨_,rfl,?_,d⟩;rw[r.out,HJ.out];exact b
theorem GV(v:Value)(l:List Int)(n:Nat)(B:Nat)(w:World)(r:w.ownsRow B 5 1 v l.length (l.map (Value.int .u8)))(A:B<=w.heap.size)(G:l.length<=100000)(H:n<=100000) :
  Calls prog 154 #[v,.int .i64 n] w λe w'=>∃ v',e=.returned v'/\w'.ownsRow B 5 1 v' (l++leB 8 (n:Int)).length ((l++leB 8 (n:Int)).map (Value.int .u8))/\Below B w w':=by
 go_enter func154,ntmps154
 go_wp2_with fail
 go_loopw [0,1,5] (λv s i wr=>∃ k:Nat,k<=8/\i=.int .i64 k/\s=.int .i64 ((n:Int)/256^k)/\wr.ownsRow B 5 1 v (l++leB k (n:Int)).length ((l++leB k (n:Int)).map (Value.int .u8))/\Below B w wr) (λ_ _ i _=>8-(intOf i).toNat)
 case atStart=>exact⟨0,by omega,rfl,by simp,by simpa[leB]using r,Below.refl _ _⟩
 case round =>
  clear r;obtain⟨k,q,rfl,rfl,a,c⟩:=hrel;have h:=a.lt;by_cases C:k<8
  .have hki:(k:Int)<8:=by omega
   obtain⟨x,d⟩:∃ x:Int,(n:Int)/256^k=x:=⟨_,rfl⟩;have t:(0:Int)<256^k:=Ms k;have D:0<=x:=by rw[<- d];exact Int.ediv_nonneg (by omega) (by omega)
   have E:x<=100000:=by rw[<- d];have:=Int.ediv_le_self (256^k) (show(0:Int)<=n by omega);omega
   have z:Hid ((n:Int)/256^(k+1)=x/256):=by unfold Hid;rw[qY,<- qt (qP t),d]
   have b:Hid (x%256=AO n k):=by unfold Hid AO;rw[d]
   have g:=DF k (n:Int);have o:Hid (leB (k+1) (n:Int)=leB k n++[AO n k]):=Zj k _;rw[d];clear d t;generalize leB k (n:Int)=pre at a o g;generalize AO (n:Int) k=y at b o;go_wp2_with (at_builtin;refine Aa _ rfl _ _ 26 rfl B 5 underlying26 Ay _ _ rfl rfl (l++pre) [y] (a.alloc _) (Sl.um _ _ _ _ rfl ?_ ?_) (by simp;omega) (by have:=c.size;simp;omega) ?_)
   .have:=b.out;omega
   .have:=b.out;omega
   intro F u j f;have m:u.ownsRow B 5 1 F (l++(pre++[y])).length ((l++(pre++[y])).map (Value.int .u8)):=by rw[<- nm];simpa[g]using j
   have p:Below B w u:=(c.alloc (na A c.size) _).grown f (by have:=c.size;simp;omega) (λk q=>(h k q).1);clear j f a h c;go_wp2
   go_roundw
   case rel=>exact⟨k+1,by omega,by go_num,by rw[z.out],by rw[o.out];exact m,p⟩
   case measure=>simp[intOf];omega
  .obtain rfl:k=8:=by omega
   go_wp2
   go_ret;exact⟨_,rfl,a,c⟩
theorem Zg(O P:Value)(a s:List Int)(w:World)(z:Sl w O a)(B:Sl w P s)(U:a.length<=10000)(V:s.length<=10000) :
  Calls prog 119 #[O,P] w λe w'=>∃ v',e=.returned v'/\Sl w' v' (G7 a s)/\Bw w w':=by
 have f:Hid (G7 a s=EQ (EQ a++s)++leB 8 (a.length:Int)++leB 8 (s.length:Int)):=by unfold Hid;rw[ZW];rfl
 have R:Hid (∀ x∈G7 a s,0<=x/\x<256):=Th z.byte B.byte;have Q:Hid ((G7 a s).length<=30000):=by unfold Hid;rw[IE];have:=Ig a.length;have:=Ig s.length;omega
 have H:(EQ a).length<=11000:=by rw[EX];have:=Ig a.length;omega
 have i:(EQ (EQ a++s)).length<=30000:=by rw[EX,E'];have:=Ig ((EQ a).length+s.length);omega
 obtain⟨aa,ca,rfl⟩:=z.shape;obtain⟨S,cs,rfl⟩:=B.shape;generalize L:a.length=n at U f z ⊢;generalize K:s.length=m at V f B ⊢;have l:Hid (a.length=n):=L;have j:Hid (s.length=m):=K;clear L K;go_enter func119,ntmps119
 go_wp2_with (at_builtin;refine Aa _ rfl _ _ 26 rfl w.heap.size 5 underlying26 Ay _ _ rfl rfl [] a (World.ownsRow_nil _ _ _ _) z (by have:=l.out;simp;omega) (A' _) ?_)
 intro M I c p;have C:Bw w I:=(Below.refl _ _).grown p (A' _) (by simp[Value.ownBlock]);replace c:I.ownsRow w.heap.size 5 1 M a.length (a.map (Value.int .u8)):=by simpa using c
 clear p;go_wp2_with fail
 refine(K8 M a w.heap.size I c C.size (by have:=l.out;omega)).mono ?_;rintro e w2 ⟨v2,rfl,d,g⟩;replace g:=C.trans g;clear c C;have v:=B.af g;have r:=d.lt;generalize EQ a=A at f H i d;go_wp2_with (at_builtin;refine Aa _ rfl _ _ 26 rfl w.heap.size 5 underlying26 Ay _ _ rfl rfl A s d v (by have:=j.out;omega) g.size ?_)
 intro N J b q;have D:Bw w J:=g.grown q g.size (λk T=>(r k T).1);clear q r d g v;replace b:J.ownsRow w.heap.size 5 1 N (A++s).length ((A++s).map (Value.int .u8)):=by simpa using b
 have F:(A++s).length<=21000:=by rw[E'];have:=j.out;omega
 generalize A++s=AS at f i b F;go_wp2_with fail
 refine(K8 N AS w.heap.size J b D.size (by omega)).mono ?_;rintro e Z ⟨W,rfl,h,o⟩;replace o:=D.trans o;clear b D;generalize EQ AS=X at f i h;go_wp2_with fail
 refine(GV W X n w.heap.size Z h o.size (by omega) (by omega)).mono ?_;rintro e w5 ⟨Y,rfl,t,y⟩;replace y:=o.trans y;have G:(X++leB 8 (n:Int)).length<=30008:=by rw[E',DF];omega
 clear h o;generalize X++leB 8 (n:Int)=X5 at f G t;go_wp2_with fail
 refine(GV Y X5 m w.heap.size w5 t y.size (by omega) (by omega)).mono ?_;rintro e w6 ⟨v6,rfl,u,E⟩;replace E:=y.trans E;rw[<- f.out]at u
 go_wp2
 go_ret;exact⟨_,rfl,Sl.mv u (by have:=Q.out;omega) R.out,E⟩
def FJ(key nonce a:List Int):Bool:=decide (key.length=32)&&decide (nonce.length=12)&&decide (a.length<=256)
theorem He(h i g:Value)(key b a:List Int)(w:World)(d:Sl w h key)(f:Sl w i b)(c:Sl w g a) :
  Calls prog 75 #[h,i,g] w λe w'=>e=.returned (.bool (FJ key b a))/\w'=w:=by
 have j:=d.len;have k:=f.len;have l:=c.len;obtain⟨n,r,rfl⟩:=d.shape;obtain⟨o,s,rfl⟩:=f.shape;obtain⟨m,q,rfl⟩:=c.shape;unfold FJ;generalize key.length=n1 at j d ⊢;generalize b.length=n2 at k f ⊢;generalize a.length=n3 at l c ⊢;clear d f c;by_cases p:(n1:Int)=32
 .by_cases c2:(n2:Int)=12
  .by_cases c3:(n3:Int)<=256
   .go_enter func75,ntmps75
    go_wp2
    go_ret;refine⟨Az ?_,rfl⟩;simp;omega
   .go_enter func75,ntmps75
    go_wp2
    go_ret;refine⟨Az ?_,rfl⟩;simp;omega
  .go_enter func75,ntmps75
   go_wp2
   go_ret;refine⟨Az ?_,rfl⟩;simp;omega
 .go_enter func75,ntmps75
  go_wp2
  go_ret;refine⟨Az ?_,rfl⟩;simp;omega
theorem XO(b d:Value)(key a:List Int)(x:Int)(c:Nat)(j:x=(c:Int))(w:World)(g:Sl w b key)(h:Sl w d a)(lk:key.length=32)(k:a.length=12)(f:c<=1073741824)(i:Dv w) :
  Calls prog 117 #[b,.int .i64 x,d] w λe w'=>∃ v',e=.returned (.tuple #[v',.int .i64 0])/\Got w w' v' (CO (Cf key (BitVec.ofNat 32 c) a)):=by
 subst j;exact XP b d key a c w g h lk k f i
theorem PR(u v D E:Value)(key b a s:List Int)(w:World)(y:Sl w u key)(z:Sl w v b)(x:Sl w D a)(A:Sl w E s)(lk:key.length=32)(B:b.length=12)(M:a.length<=256)(N:s.length<=2000)(L:Dv w) :
  Calls prog 77 #[u,v,D,E] w λe w'=>∃ v',e=.returned (.tuple #[v',.int .i64 0])/\Sl w' v' (Eo key b a s)/\Bw w w':=by
 have o:Hid (Eo key b a s=Xn ((CO (Cf key (BitVec.ofNat 32 0) b)).take 32) (G7 a s)):=rfl;have g:(G7 a s).length<=4000:=by rw[IE];have:=Ig a.length;have:=Ig s.length;omega
 go_enter func77,ntmps77
 go_wp2_with fail
 refine(XO u v key b 0 0 rfl w y z lk B (by omega) L).mono ?_;rintro e T ⟨S,rfl,p⟩;have j:=p.sl;have k:=p.tU;clear p;have d:=Fc (Cf key (BitVec.ofNat 32 0) b);generalize CO (Cf key (BitVec.ofNat 32 0) b)=bs at o j d;obtain⟨G,I,rfl⟩:=j.shape;rw[d]at j ⊢
 obtain⟨F,H,c,C⟩:=j.qv 32 (by omega);have J:∀ W,(Instr.slice 26 (.slice G 64 I) none (some (.int .i64 32)) none).run prog W=.ok (.slice F 32 H) W:=c;have lt:(bs.take 32).length=32:=by rw[j'];omega
 generalize bs.take 32=K at o C lt;have q:=x.af k;have t:=A.af k;clear c j d;have h:a.length<=10000:=by omega
 have i:s.length<=10000:=by omega
 have l:Hid (a.length<=10000):=h;have n:Hid (s.length<=10000):=i;have m:Hid ((G7 a s).length<=4000):=g;clear M N h i g y z x A lk B;go_wp2_with fail
 go_region_with (first
  | (go_at_call 119;refine(Zg _ _ a s _ (q.af ((Below.refl _ _).drew)) (t.af ((Below.refl _ _).drew)) l.out n.out).mono ?_;rintro e Q ⟨R,rfl,O,f⟩)
  | (go_at_call 118;refine(jG _ _ K _ _ (C.af ((Below.refl _ _).drew.trans f)) O lt m.out).mono ?_;rintro e U ⟨P,rfl,s3,r⟩))
 all_goals
  go_wp2
  go_ret2
  refine⟨P,rfl,?_,?_⟩
  .rw[o.out];exact s3
  .have b2:Bw w Q:=k.trans (((Below.refl _ _).drew.trans f).mono k.size);exact b2.trans (r.mono b2.size)
theorem QV(c f b:Value)(key a d:List Int)(w:World)(h:Sl w c key)(i:Sl w f a)(g:Sl w b d)(lk:key.length=32)(l:a.length=12)(k:d.length<=2000)(j:Dv w) :
  Calls prog 76 #[c,.int .i64 1,f,b] w λe w'=>∃ v',e=.returned (.tuple #[v',.int .i64 0])/\w'.ownsRow w.heap.size 5 1 v' (DB key a d).length ((DB key a d).map (Value.int .u8))/\Bw w w' :=
 eg c f b key a d 1 w h i g lk l (by omega) k j
def NwV(B:Nat)(v:Value):Prop:=∀ a n c,v=.slice (some a) n c->B<=a.block
theorem NwV.own{B k:Nat}(h:w.ownsRow B e k v n xs):NwV B v:=λa m c e=>(h.lt a.block (by rw[e];rfl)).1
theorem T6(h:w.ownsRow base e 1 v n xs)(a:Bw w w'):w'.ownsRow base e 1 v n xs :=
 Fv h λk b=>a.block k (h.lt k b).2
theorem JA(h:FJ key nonce a=true):key.length=32/\nonce.length=12/\a.length<=256:=by
 unfold FJ at h;simp at h;omega
theorem aO(o q v K:Value)(key b a p:List Int)(w:World)(i:Sl w o key)(s:Sl w q b)(A:Sl w v a)(t:Sl w K p)(E:FJ key b a=true)(U:p.length<=2000)(D:Dv w) :
  Calls prog 47 #[o,q,v,K] w λe w'=>∃ v',e=.returned (.tuple #[v',.int .i64 0])/\Sl w' v' (DA key b a p)/\NwV w.heap.size v'/\Bw w w':=by
 obtain⟨lk,F,S⟩:=JA E;have j:=D.pos;have y:Hid (DA key b a p=DB key b p++Eo key b a (DB key b p)):=rfl;have n:=CJ key b p;have g:∀ x∈DB key b p,0<=x/\x<256:=JG _ t.byte;have Q:¬ (2000:Int)<(p.length:Int):=by omega
 obtain⟨ap,W,rfl⟩:=t.shape;go_enter func47,ntmps47
 go_wp2_with fail
 refine(He o q v key b a w i s A).mono ?_;rintro e r ⟨rfl,rfl⟩;rw[E];go_wp2_with fail
 refine(QV o q _ key b p r i s t lk F U D).mono ?_;rintro e M ⟨L,rfl,u,d⟩;generalize DB key b p=X at y n g u;have H:Sl M L X:=Sl.mv u (by omega) g;go_wp2_with fail
 refine(PR o q v L key b a X M (i.af d) (s.af d) (A.af d) H lk F S (by omega) (D.af j d)).mono ?_;rintro e V ⟨Y,rfl,I,z⟩;have G:=T6 u z;have C:=G.lt;have f:Bw r V:=d.trans (z.mono d.size);have m:=Jk key b a X;have l:=MK key b a X;generalize Eo key b a X=T at y I m l;have P:X.length<=2000:=by omega
 clear n u H d z i s A t;go_wp2_with (at_builtin;refine Aa _ rfl _ _ 26 rfl r.heap.size 5 underlying26 Ay _ _ rfl rfl X T G I (by omega) f.size ?_)
 intro J N c B;replace c:N.ownsRow r.heap.size 5 1 J (X++T).length ((X++T).map (Value.int .u8)):=by simpa[m]using c
 have O:Bw r N:=f.grown B f.size (λk i=>(C k i).1);go_wp2
 go_ret2
 refine⟨J,rfl,?_,.own c,O⟩;rw[y.out];refine Sl.mv c (by rw[E'];omega) ?_;intro x R;rcases O'.1 R with h|h
 .exact g x h
 .exact l x h
def dif(la lb:List Int):Nat->Int
 | 0=>0
 | k+1=>bits .or .u8 (dif la lb k) (bits .xor .u8 (la.getD k 0) (lb.getD k 0))
theorem mz{a b:Nat}:a ||| b=0↔a=0/\b=0:=by
 constructor
 .intro h;have c:∀ i,(a ||| b).testBit i=false:=by intro i;rw[h];simp
  constructor
  .apply rm;intro i;have:=c i;rw[Nat.testBit_or]at this;simp at this;simp[this.1]
  .apply rm;intro i;have:=c i;rw[Nat.testBit_or]at this;simp at this;simp[this.2]
 .rintro⟨rfl,rfl⟩;rfl
theorem mp{a b:Nat}:a ^^^ b=0↔a=b:=by
 constructor
 .intro h;have c:∀ i,(a ^^^ b).testBit i=false:=by intro i;rw[h];simp
  apply rm;intro i;have:=c i;rw[Nat.testBit_xor]at this;simpa using this
 .rintro rfl;simp
theorem Yp(q:∀ x∈la,0<=x/\x<256)(r:∀ x∈lb,0<=x/\x<256)(k:Nat) :
  0<=dif la lb k/\dif la lb k<256/\(dif la lb k=0↔∀ i,i<k->la.getD i 0=lb.getD i 0):=by
 induction k with
 | zero=>simp[dif]
 | succ k ih =>
  obtain⟨l,m,o⟩:=ih;have d:=Am q k;have e:=Am r k;have f:=u8_xor _ _ d.1 d.2 e.1 e.2;have b:(la.getD k 0).toNat ^^^ (lb.getD k 0).toNat<256:=qm (n:=8) (by omega) (by omega);have g:=u8_or (dif la lb k) (((la.getD k 0).toNat ^^^ (lb.getD k 0).toNat:Nat):Int) l m (by omega) (by omega);have a:dif la lb (k+1)=(((dif la lb k).toNat ||| ((la.getD k 0).toNat ^^^ (lb.getD k 0).toNat):Nat):Int):=by
   show bits .or .u8 (dif la lb k) (bits .xor .u8 (la.getD k 0) (lb.getD k 0))=_;rw[f,g];simp
  have c:(dif la lb k).toNat ||| ((la.getD k 0).toNat ^^^ (lb.getD k 0).toNat)<256:=Nat.or_lt_two_pow (n:=8) (by omega) b;refine⟨by rw[a];omega,by rw[a];omega,?_⟩;have j:dif la lb (k+1)=0↔dif la lb k=0/\la.getD k 0=lb.getD k 0:=by
   rw[a];have:=@mz (dif la lb k).toNat ((la.getD k 0).toNat ^^^ (lb.getD k 0).toNat);have p:=@mp (la.getD k 0).toNat (lb.getD k 0).toNat;rw[p]at this
   constructor
   .intro h;have:=this.1 (by omega);omega
   .intro h;have:=this.2 (by omega);omega
  rw[j,o];constructor
  .intro h i s;rcases oc i k with h'|h'
   .exact h.1 i h'
   .obtain rfl:i=k:=by omega
    exact h.2
  .intro h;exact⟨λi s=>h i (by omega),h k (by omega)⟩
theorem df(c:∀ x∈la,0<=x/\x<256)(d:∀ x∈lb,0<=x/\x<256)(e:la.length=lb.length):(dif la lb lb.length==0)=decide (la=lb):=by
 rw[Bool.eq_iff_iff,decide_eq_true_iff,beq_iff_eq,(Yp c d _).2.2];constructor
 .intro h;apply pz e;intro i b a;have:=h i a
  rwa [AQ b,AQ a]at this
 .rintro rfl _ _;rfl
theorem Jg(r s:Value)(f c:List Int)(w:World)(v:Sl w r f)(x:Sl w s c) :
  Calls prog 189 #[r,s] w λe w'=>e=.returned (.bool (decide (f=c)))/\∃ n,w'=w.drewN n:=by
 obtain⟨⟨a,t,rfl,C,E,u⟩,z,g⟩:=v;obtain⟨⟨b,q,rfl,y,B,m⟩,A,h⟩:=x;by_cases l:f.length=c.length
 .rcases u with rfl|⟨ba,oa,rfl,_,hca⟩
  .obtain rfl:c=[]:=Y' (by simpa using l.symm);go_enter func189,ntmps189
   go_wp2
   refine wp_loop_rounds 1 ?_;rw[rounds_succ];go_wp2
   go_ret;exact⟨rfl,0,rfl⟩
  .rcases m with rfl|⟨bb,ob,rfl,_,hcb⟩
   .obtain rfl:f=[]:=Y' (by simpa using l);go_enter func189,ntmps189
    go_wp2
    refine wp_loop_rounds 1 ?_;rw[rounds_succ];go_wp2
    go_ret;exact⟨rfl,0,rfl⟩
   .have HD:Hid ((dif f c c.length==0)=decide (f=c)):=df g h l;go_enter func189,ntmps189
    go_wp2
    go_loopw [5,14] (λd i wr=>∃ k n:Nat,k<=c.length/\i=.int .i64 k/\d=.int .u8 (dif f c k)/\wr=w.drewN n) (λ_ i _=>c.length-(intOf i).toNat)
    case atStart=>exact⟨0,0,nM _,rfl,rfl,rfl⟩
    case round =>
     obtain⟨k,n,D,rfl,rfl,rfl⟩:=hrel;by_cases j:k<c.length
     .have hx:=hca k (by omega);have F:=hcb k j;clear hca hcb g h;have p:k<f.length:=by omega
      go_wp2
      go_quiet (fail)
      go_wp2
      go_roundw
      case rel=>exact⟨k+1,_,by omega,by go_num,by simp only[dif,AQ p,AQ j],rfl⟩
      case measure=>simp[intOf];omega
     .obtain rfl:k=c.length:=by omega
      clear hca hcb;go_wp2
      go_ret;exact⟨Az HD.out,n,rfl⟩
 .have hne:((f.length:Int)==(c.length:Int))=false:=by simp;omega
  have o:decide (f=c)=false:=H' (λe=>l (by rw[e]));go_enter func189,ntmps189
  go_wp2
  go_ret;exact⟨Az o.symm,0,rfl⟩
def Ek(key nonce a d:List Int):Int :=
 if FJ key nonce a=true/\d.length<=2016 then(if d.length<16 then 13 else if Eo key nonce a (d.take (d.length-16))=d.drop (d.length-16)then 0 else 6)else 1
def Mo(key nonce a d:List Int):List Int:=if Ek key nonce a d=0 then DB key nonce (d.take (d.length-16))else[]
theorem ez(g i f o:Value)(key b a d:List Int)(w:World)(m:Sl w g key)(n:Sl w i b)(k:Sl w f a)(l:Sl w o d)(j:FJ key b a=false\/2016<d.length) :
  Calls prog 210 #[g,i,f,o] w λe w'=>e=.returned (.tuple #[.slice none 0 0,.int .i64 1])/\w'=w:=by
 have r:=l.len;obtain⟨ap,q,rfl⟩:=l.shape;by_cases c:FJ key b a=true
 .have hpl:(2016:Int)<(d.length:Int):=by
   rcases j with h|h
   .rw[c]at h;cases h
   .omega
  go_enter func210,ntmps210
  go_wp2_with fail
  refine(He g i f key b a w m n k).mono ?_;rintro e p ⟨rfl,rfl⟩;rw[c];go_wp2
  go_ret2
  exact⟨rfl,rfl⟩
 .rw[Bool.not_eq_true]at c
  go_enter func210,ntmps210
  go_wp2_with fail
  refine(He g i f key b a w m n k).mono ?_;rintro e p ⟨rfl,rfl⟩;rw[c];go_wp2
  go_ret2
  exact⟨rfl,rfl⟩
theorem T2(f g c h:Value)(key b a d:List Int)(w:World)(l:Sl w f key)(m:Sl w g b)(i:Sl w c a)(j:Sl w h d)(k:FJ key b a=true)(p:d.length<16) :
  Calls prog 210 #[f,g,c,h] w λe w'=>e=.returned (.tuple #[.slice none 0 0,.int .i64 13])/\w'=w:=by
 obtain⟨ap,o,rfl⟩:=j.shape;have n:(d.length:Int)<16:=by omega
 go_enter func210,ntmps210
 go_wp2_with fail
 refine(He f g c key b a w l m i).mono ?_;rintro e q ⟨rfl,rfl⟩;rw[k];go_wp2
 go_ret2
 exact⟨rfl,rfl⟩
theorem ZR(r s q H:Value)(key b a d:List Int)(w:World)(l:Sl w r key)(n:Sl w s b)(k:Sl w q a)(f:Sl w H d)(E:FJ key b a=true)(m:Nat)(F:d.length=m+16)(W:m<=2000)(o:Dv w)(G:Eo key b a (d.take m)≠d.drop m) :
  Calls prog 210 #[r,s,q,H] w λe w'=>e=.returned (.tuple #[.slice none 0 0,.int .i64 6])/\Bw w w':=by
 obtain⟨lk,N,M⟩:=JA E;have h:=o.pos;have i:=f.byte;obtain⟨ad,V,rfl⟩:=f.shape;rw[F]at f ⊢
 obtain⟨R,T,A,p⟩:=f.qv m (by omega);obtain⟨S,U,g,j⟩:=f.from m (by omega);rw[Nat.add_sub_cancel_left]at g j
 have B:(d.take m).length=m:=by rw[j'];omega
 have Q:∀ x∈d.take m,0<=x/\x<256:=λx K=>i x (nB K);have y:Hid (Eo key b a (d.take m)≠d.drop m):=G;clear G;generalize d.take m=D at p B Q y ⊢;generalize d.drop m=L at j y;have v:Hid (D.length=m):=B;clear f F i B;go_enter func210,ntmps210
 go_wp2_with fail
 refine(He r s q key b a w l n k).mono ?_;rintro e t ⟨rfl,rfl⟩;rw[E];go_wp2_with fail
 go_quiet (fail)
 have c:Bw t (t.drewN nq):=Ar (Below.refl _ _) nq;generalize t.drewN nq=w1 at c ⊢;replace l:=l.af c;replace n:=n.af c;replace k:=k.af c;replace p:=p.af c;replace j:=j.af c;replace o:=o.af h c;clear A g;go_wp2_with fail
 refine(PR r s q _ key b a D w1 l n k p lk N M (by have:=v.out;omega) o).mono ?_;rintro e u ⟨P,rfl,O,z⟩;go_wp2_with fail
 refine(Jg P _ (Eo key b a D) L u O (j.af z)).mono ?_;rintro e X ⟨rfl,C,rfl⟩;have I:Bw u (u.drewN C):=Ar (Below.refl _ _) C;have J:Bw t (u.drewN C):=c.trans ((z.trans (I.mono z.size)).mono c.size);rw[H' y.out];go_wp2
 go_ret2
 exact⟨rfl,J⟩
theorem eA(B C F S:Value)(key b a d:List Int)(w:World)(g:Sl w B key)(h:Sl w C b)(u:Sl w F a)(p:Sl w S d)(N:FJ key b a=true)(m:Nat)(O:d.length=m+16)(hl:m<=2000)(j:Dv w)(P:Eo key b a (d.take m)=d.drop m) :
  Calls prog 210 #[B,C,F,S] w λe w'=>∃ v',e=.returned (.tuple #[v',.int .i64 0])/\Sl w' v' (DB key b (d.take m))/\NwV w.heap.size v'/\Bw w w':=by
 obtain⟨lk,Q,la⟩:=JA N;have i:=j.pos;have z:=p.byte;obtain⟨ad,cd,rfl⟩:=p.shape;rw[O]at p ⊢
 obtain⟨a1,c1,I,k⟩:=p.qv m (by omega);obtain⟨a2,c2,v,q⟩:=p.from m (by omega);rw[Nat.add_sub_cancel_left]at v q
 have J:(d.take m).length=m:=by rw[j'];omega
 have V:∀ x∈d.take m,0<=x/\x<256:=λx Y=>z x (nB Y);have G:Hid (Eo key b a (d.take m)=d.drop m):=P;clear P;generalize d.take m=D at k J V G ⊢;generalize d.drop m=L at q G;have l:Hid (D.length=m):=J;clear p O z J;go_enter func210,ntmps210
 go_wp2_with fail
 refine(He B C F key b a w g h u).mono ?_;rintro e r ⟨rfl,rfl⟩;rw[N];go_wp2_with fail
 go_quiet (fail)
 have f:Bw r (r.drewN nq):=Ar (Below.refl _ _) nq;generalize r.drewN nq=w1 at f ⊢;replace g:=g.af f;replace h:=h.af f;replace u:=u.af f;replace k:=k.af f;replace q:=q.af f;replace j:=j.af i f;clear I v;go_wp2_with fail
 refine(PR B C F _ key b a D w1 g h u k lk Q la (by have:=l.out;omega) j).mono ?_;rintro e s ⟨vt,rfl,R,o⟩;go_wp2_with fail
 refine(Jg vt _ (Eo key b a D) L s R (q.af o)).mono ?_;rintro e T ⟨rfl,A,rfl⟩;have H:Bw s (s.drewN A):=Ar (Below.refl _ _) A;have E:Bw r (s.drewN A):=f.trans ((o.trans (H.mono o.size)).mono f.size);rw[P' G.out];have t:Bw w1 (s.drewN A):=o.trans (H.mono o.size);replace g:=g.af t;replace h:=h.af t;replace k:=k.af t;replace j:=j.af (X' i f.size) t;have Z:=CJ key b D;have y:∀ x∈DB key b D,0<=x/\x<256:=JG _ V;clear q R u H o;generalize s.drewN A=T at g h k j E t ⊢;go_wp2_with fail
 refine(QV B C _ key b D T g h k lk Q (by have:=l.out;omega) j).mono ?_;rintro e U ⟨M,rfl,K,W⟩;have s4:Sl U M (DB key b D):=Sl.mv K (by have:=l.out;omega) y;have X:Bw r U:=E.trans (W.mono E.size);have n4:NwV r.heap.size M:=λa n c e=>na E.size (NwV.own K a n c e);clear K y;go_wp2
 go_ret2
 exact⟨M,rfl,s4,n4,X⟩
theorem WH(i j f g:Value)(key c a d:List Int)(w:World)(m:Sl w i key)(n:Sl w j c)(k:Sl w f a)(l:Sl w g d)(o:Dv w) :
  Calls prog 210 #[i,j,f,g] w λe w'=>∃ v',e=.returned (.tuple #[v',.int .i64 (Ek key c a d)])/\Sl w' v' (Mo key c a d)/\NwV w.heap.size v'/\Bw w w':=by
 unfold Mo;by_cases h:FJ key c a=true/\d.length<=2016
 .by_cases h16:d.length<16
  .have hE:Ek key c a d=13:=by unfold Ek;rw[if_pos h,if_pos h16]
   rw[hE,if_neg (by omega)];refine(T2 i j f g key c a d w m n k l h.1 h16).mono ?_;rintro e p ⟨rfl,rfl⟩;exact⟨_,rfl,Sl.nil _ _,λ_ _ _ e=>(by cases e),Below.refl _ _⟩
  .by_cases hq:Eo key c a (d.take (d.length-16))=d.drop (d.length-16)
   .have hE:Ek key c a d=0:=by unfold Ek;rw[if_pos h,if_neg h16,if_pos hq]
    rw[hE,if_pos rfl];exact eA i j f g key c a d w m n k l h.1 (d.length-16) (by omega) (by omega) o hq
   .have hE:Ek key c a d=6:=by unfold Ek;rw[if_pos h,if_neg h16,if_neg hq]
    rw[hE,if_neg (by omega)];refine(ZR i j f g key c a d w m n k l h.1 (d.length-16) (by omega) (by omega) o hq).mono ?_;rintro e p ⟨rfl,b⟩;exact⟨_,rfl,Sl.nil _ _,λ_ _ _ e=>(by cases e),b⟩
 .have hE:Ek key c a d=1:=by unfold Ek;rw[if_neg h]
  rw[hE,if_neg (by omega)];refine(ez i j f g key c a d w m n k l ?_).mono ?_
  .by_cases hf:FJ key c a=true
   .exact .inr (by have:¬ d.length<=2016:=λq=>h ⟨hf,q⟩;omega)
   .exact .inl (by simpa using hf)
  .rintro e p ⟨rfl,rfl⟩;exact⟨_,rfl,Sl.nil _ _,λ_ _ _ e=>(by cases e),Below.refl _ _⟩
theorem MF(key b a p:List Int):(DA key b a p).take p.length=DB key b p:=by
 rw[DA,nG (by rw[CJ];omega),nw (by rw[CJ];omega)]
theorem TY(key b a p:List Int):(DA key b a p).drop p.length=Eo key b a (DB key b p):=by
 have h:=CJ key b p;rw[DA,<- h,List.drop_left]
theorem Uc(key a:List Int){p:List Int}(b:∀ x∈p,0<=x/\x<256):DB key a (DB key a p)=p:=W6 _ b
theorem Ub(key a:List Int){p:List Int}(b:∀ x∈p,0<=x/\x<256):∀ x∈DB key a p,0<=x/\x<256:=JG _ b
theorem TX(key b a:List Int){p:List Int}(c:∀ x∈p,0<=x/\x<256):∀ x∈DA key b a p,0<=x/\x<256:=by
 intro x d;rcases O'.1 d with h|h
 .exact Ub key b c x h
 .exact MK _ _ _ _ x h
theorem UE(lk:key.length=32)(c:nonce.length=12)(b:a.length<=256):FJ key nonce a=true:=by
 unfold FJ;simp;omega
theorem Kv(b:FJ key nonce a=true)(c:p.length<=2000):Ek key nonce a (DA key nonce a p)=0:=by
 have h:=FW key nonce a p;unfold Ek;rw[if_pos ⟨b,by omega⟩,if_neg (by omega),if_pos];rw[h,Nat.add_sub_cancel,MF,TY]
theorem Tz(b:FJ key nonce a=true)(d:p.length<=2000)(c:∀ x∈p,0<=x/\x<256):Mo key nonce a (DA key nonce a p)=p:=by
 have h:=FW key nonce a p;unfold Mo;rw[if_pos (Kv b d),h,Nat.add_sub_cancel,MF,Uc key nonce c]
end
end
section
def Gk(key:List Int)(n:Int)(p:List Int):List Int:=Ab n++DA key (Ck (Ab n)) (Ab n) p
theorem Ds(key:List Int)(n:Int)(p:List Int):(Gk key n p).length=p.length+20:=by
 rw[Gk,E',BG,FW];omega
theorem JM(key:List Int)(n:Int)(p:List Int):(Gk key n p).take 4=Ab n:=rfl
theorem OE(key:List Int)(n:Int)(p:List Int):(Gk key n p).drop 4=DA key (Ck (Ab n)) (Ab n) p:=rfl
theorem WW(key:List Int)(n:Int){p:List Int}(a:∀ x∈p,0<=x/\x<256):∀ x∈Gk key n p,0<=x/\x<256:=by
 intro x b;rcases O'.1 b with h|h
 .exact Ax n x h
 .exact TX _ _ _ a x h
def GN(key:List Int)(s t:Int)(l:List Bool)(r:List Int):Int :=
 if ¬ OkC key s t l then 5 else if 2020<r.length then 1 else if r.length<20 then 13 else if 1073741824<=IM (r.take 4)then 2 else if ZL t l (IM (r.take 4))=true then 7
 else Ek key (Ck (r.take 4)) (r.take 4) (r.drop 4)
def Jo(key:List Int)(r:List Int):List Int:=Mo key (Ck (r.take 4)) (r.take 4) (r.drop 4)
end
end Go.Proofs.YtngmpodijpelnaaGreatDoor
