/- Part 5 of the walk. -/
import Derived.Lib.SlBytesRow
import Derived.Lib.SmallJoins
import Derived.Deep.OwnRows
import Derived.Laws.OwnMore
import Derived.Maps.AppendAt
import Derived.Test.YteimjcbgceckdaaGreatDoorZ2
set_option maxRecDepth 100000
set_option maxHeartbeats 4000000
open Go.Proofs.Tryz
namespace Go.Proofs.YteimjcbgceckdaaGreatDoor
section
open Go.RowKit
section
def lenOf:Value->Nat
 | .slice _ n _=>n
 | _=>0
variable{P:Program}{Q:Exit->Act->World->Prop}{a key l la lb m nonce p:List Int}{b base cap e g j n off:Nat}{ops:Array Oper}{v:Value}{w w':World}{xs:List Value}
theorem SI(h:w.ownsRow base e 1 v n xs):lenOf v=n:=by
 rcases h.2 with⟨rfl,rfl⟩|⟨g,cap,cur,rfl,_⟩<;>rfl
theorem SP(v:Value)(l:List Int)(w:World)(h:Sl w v l)(hl:l.length<=100000) :
  Calls prog 97 #[v] w λe w'=>∃ v',e=.returned v'/\w'.ownsRow w.heap.size 5 1 v' (pad l).length ((pad l).map (Value.int .u8))/\Bw w w':=by
 have hs:=h;obtain⟨⟨a,a1,rfl,hc,hn,h1⟩,a4,N⟩:=h;clear h1 hn N;obtain⟨i0,hi,S,T,U⟩:=info_parts Av;go_enter func97,ntmps97
 go_wp2_with (at_make;refine wpList_make_own _ rfl _ _ 26 rfl w.heap.size 5 i0 (.int .u8 0) 1 underlying26 hi S T _ _ _ (l.length+128) rfl rfl (by omega) (by rw[U];omega) (by unfold maxLen;omega) (A' _) ?_)
 intro X F A;have f:Bw w X:=(Below.refl _ _).grown A (A' _) (by simp);have p:X.ownsRow w.heap.size 5 1 (.slice (some ⟨w.heap.size,0,none⟩) 0 (l.length+128)) ([]:List Int).length (([]:List Int).map (Value.int .u8)):=F;clear F A;go_wp2_with (at_builtin;refine Aa _ rfl _ _ 26 rfl w.heap.size 5 underlying26 Av _ _ rfl rfl [] l p (hs.af f) (by simp;omega) f.size ?_)
 intro v2 Y G B;have n:Y.ownsRow w.heap.size 5 1 v2 l.length (l.map (Value.int .u8)):=by simpa using G
 have i:Bw w Y:=f.grown B f.size (by simp[Value.ownBlock]);have o:=n.lt;clear p B f G;go_wp2_with (at_builtin;refine Aa _ rfl _ _ 26 rfl w.heap.size 5 underlying26 Av _ _ rfl rfl l [128] (n.alloc _) (Sl.one _ _ _ rfl (by omega)) (by simp;omega) (by have:=i.size;simp;omega) ?_)
 intro v3 Z H C;have q:Z.ownsRow w.heap.size 5 1 v3 (CG l 0).length ((CG l 0).map (Value.int .u8)):=by simpa[CG]using H
 have z:Bw w Z:=(i.alloc i.size _).grown C (by have:=i.size;simp;omega) (λk x=>(o k x).1);clear H C i o n;go_wp2
 go_loopw [3] (λv wr=>∃ j:Nat,j<=Fc l.length/\wr.ownsRow w.heap.size 5 1 v (CG l j).length ((CG l j).map (Value.int .u8))/\Bw w wr) (λv _=>Fc l.length+l.length+1-lenOf v)
 case atStart=>exact⟨0,mA _,q,z⟩
 case round =>
  clear q z;obtain⟨j,hj,b,c⟩:=hrel;obtain⟨g,cp,W,a3,Q,O,t,P⟩:=En b (by simp[CG]);rw[Dj]at W
  subst W;clear t P O;have hz:Fc l.length<=63:=by unfold Fc;omega
  have d:=b.lt;by_cases u:j<Fc l.length
  .have hne:¬ ((l.length+1+j)%64=56):=by unfold Fc at u;omega
   go_wp2_with (at_builtin;refine Aa _ rfl _ _ 26 rfl w.heap.size 5 underlying26 Av _ _ rfl rfl (CG l j) [0] (b.alloc _) (Sl.one _ _ _ rfl (by omega)) (by rw[Dj];simp;omega) (by have:=c.size;simp;omega) ?_)
   intro V w4 I D;have r:w4.ownsRow w.heap.size 5 1 V (CG l (j+1)).length ((CG l (j+1)).map (Value.int .u8)):=by rw[<- SN];simpa using I
   have L:Bw w w4:=(c.alloc c.size _).grown D (by have:=c.size;simp;omega) (λk x=>(d k x).1);have m:=SI r;rw[Dj]at m
   have HL:Hid (lenOf V=l.length+1+(j+1)):=m;clear m I D b d c;go_wp2
   go_roundw
   case rel=>exact⟨j+1,u,r,L⟩
   case measure =>
    have m:=HL.out;show Fc l.length+l.length+1-lenOf V<Fc l.length+l.length+1-(l.length+1+j);rw[m];omega
  .have heq:(l.length+1+j)%64=56:=by unfold Fc at u hj;omega
   have a0:Hid ((l.length+1+j)%64=56):=heq;have a2:(((l.length:Int)+1+j)%64 != 56)=false:=by simp;omega
   have y:j=Fc l.length:=by omega
   have EJ:Hid (j=Fc l.length):=y;clear heq y;go_wp2_with fail
   go_loopw [3,5] (λv s wr=>∃ k:Nat,k<=8/\s=.int .i64 (56-8*(k:Int))/\wr.ownsRow w.heap.size 5 1 v (CG l j++(CF l.length).take k).length ((CG l j++(CF l.length).take k).map (Value.int .u8))/\Bw w wr) (λ_ s _=>(intOf s+8).toNat)
   case atStart=>exact⟨0,by omega,rfl,by simpa using b,c⟩
   case round =>
    clear b c d Q;obtain⟨k,x,rfl,b,c⟩:=hrel;have d:=b.lt;by_cases R:k<8
    .go_wp2_with (at_builtin;refine Aa _ rfl _ _ 26 rfl w.heap.size 5 underlying26 Av _ _ rfl rfl _ _ (b.alloc _) (Sl.one _ _ _ rfl ?_) (by rw[H',Dj,Z'];simp;omega) (by have:=c.size;simp;omega) ?_)
     .omega
     intro v5 w5 J E;have K:w5.ownsRow w.heap.size 5 1 v5 (CG l j++(CF l.length).take (k+1)).length ((CG l j++(CF l.length).take (k+1)).map (Value.int .u8)):=by
      rw[MN _ _ R];simpa using J
     have M:Bw w w5:=(c.alloc c.size _).grown E (by have:=c.size;simp;omega) (λk x=>(d k x).1);clear J E b d c;go_wp2
     go_roundw
     case rel=>exact⟨k+1,by omega,by go_num,K,M⟩
     case measure=>simp[intOf];omega
    .obtain rfl:k=8:=by omega
     go_wp2
     go_ret;refine⟨u3,rfl,?_,c⟩;unfold pad;rw[<- EJ.out];exact b
theorem Rj(s:St)(w:World) :
  Calls prog 100 #[.agg s.cells] w λe w'=>∃ v',e=.returned v'/\w'.ownsRow w.heap.size 5 1 v' (Ox s).length ((Ox s).map (Value.int .u8))/\Bw w w':=by
 obtain⟨K,J,C,D,E⟩:=info_parts Av;unfold St.cells;go_enter func100,ntmps100
 go_wp2_with (at_make;refine wpList_make_own _ rfl _ _ 26 rfl w.heap.size 5 K (.int .u8 0) 1 underlying26 J C D _ _ _ 32 rfl rfl (by omega) (by rw[E];omega) (by unfold maxLen;omega) (by simp) ?_)
 intro F u o;have r:Bw w F:=((Below.refl _ _).alloc (A' _) _).grown o (by simp) (by simp);have n:F.heap[w.heap.size]?=some (.cells #[.int .u32 (uw s.a),.int .u32 (uw s.b),.int .u32 (uw s.c),.int .u32 (uw s.d),.int .u32 (uw s.e),.int .u32 (uw s.f),.int .u32 (uw s.g),.int .u32 (uw s.h)] 175 (0,0)):=by
  rw[o.block w.heap.size (by simp) (by simp)];exact heap_alloc_new _ _
 have m:F.ownsRow w.heap.size 5 1 (.slice (some ⟨w.heap.size+1,0,none⟩) 0 32) (CB (s.list.take 0)).length ((CB (s.list.take 0)).map (Value.int .u8)):=u;clear u o;go_wp2_with (refine wpList_load_row rfl 175 _ rfl w.heap.size rfl 175 _ (0,0) _ n underlying175 rfl (by kernel_rfl) ?_)
 go_loopw [3,8] (λv i wr=>∃ k:Nat,k<=8/\i=.int .i64 k/\wr.ownsRow w.heap.size 5 1 v (CB (s.list.take k)).length ((CB (s.list.take k)).map (Value.int .u8))/\Bw w wr) (λ_ i _=>8-(intOf i).toNat)
 case atStart=>exact⟨0,by omega,rfl,m,r⟩
 case round =>
  clear m r n;obtain⟨k,H,rfl,j,q⟩:=hrel;have t:=j.lt;by_cases p:k<8
  .have hix:=Yn s k p;have l:=GX (s.list.take k);have y:Hid (s.list.take (k+1)=s.list.take k++[s.list.getD k 0#32]):=by
    unfold Hid;rw[mj (by simpa[St.list]using p)];simp[List.getD,List.getElem?_eq_getElem (show k<s.list.length by simpa[St.list]using p)]
   have A:(s.list.take k).length<=8:=by rw[Z'];omega
   generalize s.list.take k=pre at j l y A;generalize s.list.getD k 0#32=x at hix y;have L:=DS x;go_wp2_with (at_builtin;refine Aa _ rfl _ _ 26 rfl w.heap.size 5 underlying26 Av _ _ rfl rfl (CB pre) (Fg x) (j.alloc _) ?_ (by rw[l];simp[Fg];omega) (by have:=q.size;simp;omega) ?_)
   .exact Sl.built wr (Fg x) 5 rfl (by simp[Fg]) (JF x)
   intro v' w' I G;have B:w'.ownsRow w.heap.size 5 1 v' (CB (pre++[x])).length ((CB (pre++[x])).map (Value.int .u8)):=by
    rw[Px];simpa[GX]using I
   have z:Bw w w':=(q.alloc q.size _).grown G (by have:=q.size;simp;omega) (λk H=>(t k H).1);clear I G j t q;go_wp2
   go_roundw
   case rel=>exact⟨k+1,by omega,by go_num,by rw[y.out];exact B,z⟩
   case measure=>simp[intOf];omega
  .have HK:Hid (k=8):=by unfold Hid;omega
   go_wp2
   go_ret;refine⟨u3,rfl,?_,q⟩;rw[HK.out]at j
   exact j
theorem kq(w:World):(Go.sizeOf 5).run prog w=.ok 1 w:=by
 obtain⟨i,b,_,a,_⟩:=info_parts Av;simp[sizeOf,typeInfo,b,a]
theorem dS(g n a k:Nat)(c:64*k+64<=64*n)(b:64*n<=a):∀ W,(Instr.slice 26 (.slice (some ⟨g,0,none⟩) (64*n) a) (some (.int .i64 (64*(k:Int)))) (some (.int .i64 (64*(k:Int)+64))) none).run prog W=.ok (.slice (some ⟨g,64*k,none⟩) 64 (a-64*k)) W:=by
 intro W;have:=Lib.run_slice_window (P:=prog) W 26 5 underlying26 kq g 0 (64*n) a (64*k) (64*k+64) (by omega) (by omega);rw[show 64*k+64-64*k=64 by omega,mJ]at this
 rw[<- this];rfl
theorem iE{a:Array Value}(s:St)(c:w.heap[g]?=some (.cells a 175 (0,0)))(d:a.size=8):(storeCells ⟨g,0,none⟩ s.cells.toList).run prog w=.ok () (w.setRow g s.cells):=by
 have:=run_storeCells_from (P:=prog) g 175 s.cells.toList 0 a w c (by simp[St.cells];omega) (λv b=>by simp[St.cells]at b;rcases b with rfl|rfl|rfl|rfl|rfl|rfl|rfl|rfl<;>rfl);simpa using this
theorem Sl.rX(h:Sl w (.slice (some ⟨b,off,none⟩) n cap) l){g:Nat}(q:g<b)(f:Array Value):Sl (w.setRow g f) (.slice (some ⟨b,off,none⟩) n cap) l:=by
 obtain⟨⟨a,c,e,m,p,d⟩,j,k⟩:=h;refine⟨⟨a,c,e,m,p,?_⟩,j,k⟩;simp only[Value.slice.injEq]at e;obtain⟨rfl,_,_⟩:=e;rcases d with d|⟨b',off',e',hbs,hcell⟩
 .exact .inl d
 .simp only[X',Addr.mk.injEq,and_true]at e';obtain⟨rfl,rfl⟩:=e';refine .inr ⟨b,off,rfl,by simpa using hbs,λi o=>?_⟩;rw[<- hcell i o];exact World.cell?_of_block (w:=w) (setRow_other w g b f (by omega))
theorem fX(l:List Int)(k:Nat)(a:64*k+64<=l.length):((l.drop (64*k)).take 64).length=64:=by
 rw[Z',lZ];omega
theorem Fj(v:Value)(l:List Int)(w:World)(h:Sl w v l)(hl:l.length<=100000)(ht:AG w) :
  Calls prog 59 #[v] w λe w'=>∃ v',e=.returned v'/\w'.ownsRow w.heap.size 5 1 v' (dig l).length ((dig l).map (Value.int .u8))/\Bw w w':=by
 go_enter func59,ntmps59
 go_wp2_with fail
 generalize d:w.alloc _=W0;have f:Bw w W0:=by rw[<- d];exact(Below.refl _ _).alloc (A' _) _
 have z:W0.heap[w.heap.size]?=some (.cells (Ay start.list) 175 (0,0)):=by rw[<- d];exact heap_alloc_new _ _
 have W:W0.heap.size=w.heap.size+1:=by rw[<- d];simp
 clear d;refine(SP v l W0 (h.af f) hl).mono ?_;rintro e w1 ⟨vp,rfl,r,m⟩;have F:=SO l;have y:=Zb h.byte;have s:Sl w1 vp (pad l):=Sl.qi r (by omega) y;obtain⟨g,E,hv,R,T,q,_,_⟩:=En r (by intro e;rw[e]at F;simp at F);subst hv;have u:Bw w w1:=f.trans (m.mono f.size);have A:w1.heap[w.heap.size]?=some (.cells (Ay start.list) 175 (0,0)):=(m.block _ (by omega)).trans z;have G:Hid (dig l=Ox (O4 (pad l) ((pad l).length/64))):=rfl;have x:w.heap.size<g:=by omega
 clear f z r m R T W;generalize pad l=p at G s F y q ⊢;obtain⟨n,U⟩:∃ n,p.length=64*n:=⟨p.length/64,by omega⟩;have HN:Hid (p.length/64=n):=by unfold Hid;omega
 rw[HN.out]at G
 rw[U]at s q ⊢
 have a3:n<=2000:=by omega
 have D:Hid (p.length=64*n):=U;clear U F;go_wp2_with fail
 go_loopw [5] (λi wr=>∃ k:Nat,k<=n/\i=.int .i64 (64*(k:Int))/\wr.heap[w.heap.size]?=some (.cells (Ay (O4 p k).list) 175 (0,0))/\Sl wr (.slice (some ⟨g,0,none⟩) (64*n) E) p/\Bw w wr) (λi _=>64*n-(intOf i).toNat)
 case atStart=>exact⟨0,by omega,rfl,A,s,u⟩
 case round =>
  clear A s u;obtain⟨k,hk,rfl,a,s,t⟩:=hrel;by_cases a2:k<n
  .have hblk:=fX p k (by rw[D.out];omega);have I:Hid (O4 p (k+1)=YF (O4 p k) (Oa ((p.drop (64*k)).take 64))):=rfl;have C:Sl wr (.slice (some ⟨g,64*k,none⟩) 64 (E-64*k)) ((p.drop (64*k)).take 64):=by
    have q1:=Sl.drop (n:=64*n) (off:=0) s (64*k) (by rw[D.out];omega) (E-64*k) (by rw[D.out];omega);rw[mJ]at q1
    exact q1.take 64 (by rw[lZ,D.out];omega)
   generalize (p.drop (64*k)).take 64=bl at hblk I C;generalize O4 p k=S at I a;have J:=cell_of_row wr _ 0 _ _ _ a;have K:=cell_of_row wr _ 1 _ _ _ a;have L:=cell_of_row wr _ 2 _ _ _ a;have M:=cell_of_row wr _ 3 _ _ _ a;have N:=cell_of_row wr _ 4 _ _ _ a;have O:=cell_of_row wr _ 5 _ _ _ a;have P:=cell_of_row wr _ 6 _ _ _ a;have Q:=cell_of_row wr _ 7 _ _ _ a;simp only[Ay,St.list,mF,nt,mR,nh,oO]at J K L M N O P Q;have b:w.heap.size<wr.heap.size:=(Q'.1 a).1;have Z:AG wr:=ht.af t;have a1:∀ i,wr.frozen? ⟨w.heap.size,i,none⟩=false:=λi=>frozen_of_row wr _ i _ _ a;have H:Hid _:=a;have HB:Hid (Bw w wr):=t;clear a t;have a0:IntKind.i64.wrap (64*(k:Int)+64)=64*(k:Int)+64:=by simp only[IntKind.wrap,IntKind.bits,IntKind.signed];simp;omega
   have a4:=dS g n E k (by omega) q;go_wp2_with fail
   go_region_with (first
    | (go_at_call 99;refine(Pa _ bl _ (C.af ((Below.refl _ _).drew)) hblk).mono ?_;rintro e w2 ⟨rfl,c⟩;have B:w.heap.size<w2.heap.size:=j' b c.size;have d0:=(c.cell (p:=⟨w.heap.size,0,none⟩) b).trans J;have d1:=(c.cell (p:=⟨w.heap.size,1,none⟩) b).trans K;have d2:=(c.cell (p:=⟨w.heap.size,2,none⟩) b).trans L;have d3:=(c.cell (p:=⟨w.heap.size,3,none⟩) b).trans M;have d4:=(c.cell (p:=⟨w.heap.size,4,none⟩) b).trans N;have d5:=(c.cell (p:=⟨w.heap.size,5,none⟩) b).trans O;have d6:=(c.cell (p:=⟨w.heap.size,6,none⟩) b).trans P;have d7:=(c.cell (p:=⟨w.heap.size,7,none⟩) b).trans Q)
    | (go_at_call 98;refine(VJ S (Oa bl) _ (OZ bl) (Z.af ((Below.refl _ _).drew.trans c))).mono ?_;rintro e w3 ⟨rfl,o⟩;have a5:w.heap.size<w3.heap.size:=j' B o.size;have X:=iE (YF S (Oa bl)) (((o.block _ B).trans (c.block _ b)).trans H.out) (by rfl)))
   all_goals
    clear J K L M N O P Q d0 d1 d2 d3 d4 d5 d6 d7 X;have j:Bw wr w3:=((Below.refl wr.heap.size wr).drew.trans c).trans (o.mono c.size);go_wp2
    go_roundw
    case rel =>
     refine⟨k+1,by omega,by go_num,?_,(s.af j).rX x _,BL (HB.out.trans (j.mono HB.out.size)) (A' _) _⟩;rw[I.out];exact setRow_heap w3 _ _ _ 175 _ ((j.block _ b).trans H.out)
    case measure=>simp[intOf];omega
  .have HK:Hid (k=n):=by unfold Hid;omega
   have H:Hid _:=a;have Y:(prog.info? 175).map (·.size)=some (Ay (O4 p k).list).size:=by kernel_rfl
   go_wp2_with (refine wpList_load_row rfl 175 _ rfl w.heap.size rfl 175 _ (0,0) _ a underlying175 rfl Y ?_)
   refine(Rj (O4 p k) wr).mono ?_;rintro e w2 ⟨v2,rfl,V,c⟩;go_wp2
   go_ret;refine⟨v2,rfl,?_,t.trans (c.mono t.size)⟩;rw[G.out,<- HK.out];exact BY V t.size
structure Fresh(w w':World)(v:Value)(l:List Int):Prop where
 sl:Sl w' v l
 sa:Bw w w'
 shape:∃ g cap,v=.slice (some ⟨g,0,none⟩) l.length cap/\w.heap.size<=g/\l.length<=cap
theorem Fresh.qi(h:w'.ownsRow w.heap.size 5 1 v l.length (l.map (Value.int .u8)))(c:l≠[])(i:l.length<=140737488351232)(f:∀ x∈l,0<=x/\x<256)(a:Bw w w'):Fresh w w' v l:=by
 obtain⟨g,b,j,d,_,e,_,_⟩:=En h c;exact⟨Sl.qi h i f,a,g,b,j,d,e⟩
theorem Fu(h:l.length=n+1):l≠[]:=by
 intro e;rw[e]at h;simp at h
def FZ(l:List Int)(n:Nat):List Int:=l++List.replicate (n-l.length) 0
def Iq(l:List Int):List Int:=if 64<l.length then dig l else l
def fk(l:List Int):List Int:=FZ (Iq l) 64
def Bo(k:List Int)(m:Int):List Int:=k.map λx=>bits .xor .u8 x m
def El(key b:List Int):List Int:=dig (Bo (fk key) 92++dig (Bo (fk key) 54++b))
theorem MH(l:List Int)(n:Nat)(h:l.length<=n):(FZ l n).length=n:=by simp[FZ];omega
theorem PM(h:∀ x∈l,0<=x/\x<256)(n:Nat):∀ x∈FZ l n,0<=x/\x<256:=by
 intro x a;rcases U'.1 a with h1|h1
 .exact h x h1
 .rw[List.eq_of_mem_replicate h1];omega
theorem OA(l:List Int):(Iq l).length<=64:=by
 unfold Iq;split
 .rw[Az];omega
 .omega
theorem Sj(h:∀ x∈l,0<=x/\x<256):∀ x∈Iq l,0<=x/\x<256:=by
 unfold Iq;split
 .exact DD l
 .exact h
theorem EN(l:List Int):(fk l).length=64:=MH _ _ (OA l)
theorem bP(h:∀ x∈l,0<=x/\x<256):∀ x∈fk l,0<=x/\x<256:=PM (Sj h) 64
theorem Fs(l:List Int)(m:Int):(Bo l m).length=l.length:=by simp[Bo]
theorem L8(h:∀ x∈l,0<=x/\x<256){m:Int}(b:0<=m/\m<256):∀ x∈Bo l m,0<=x/\x<256:=by
 intro x c;obtain⟨y,d,rfl⟩:=mt.1 c;have a:=h y d;rw[u8_xor _ _ a.1 a.2 b.1 b.2];have:y.toNat ^^^ m.toNat<256:=oM (n:=8) (by omega) (by omega);omega
theorem DH(k b:List Int):(El k b).length=32:=rfl
theorem NI(k b:List Int):∀ x∈El k b,0<=x/\x<256:=DD _
theorem NA:(prog.info? 5).map (·.size)=some 1:=by kernel_rfl
theorem Kc(l:List Int):splice ((List.replicate 64 (0:Int)).map (Value.int .u8)) 0 (l.map (Value.int .u8))=(FZ l 64).map (Value.int .u8):=by
 have e:(List.replicate 64 (0:Int)).map (Value.int .u8)=List.replicate 64 (Value.int .u8 0):=oN;rw[e];simp only[splice,FZ,nc,m7,mm,mJ,List.drop_replicate,mz,oN]
theorem IR{b:List Oper}{o:Oper}{a:Act}(f:o.guard=none)(i:TypeId)(x y:Operand)(p:o.op=.store i x y)(g:Nat)(cells:Array Value)(q:a.eval x=.pointer (some ⟨g,0,none⟩))(r:a.eval y=.agg cells)(t:TypeId)(c:Array Value)(j:w.heap[g]?=some (.cells c t (0,0)))(n:(P.info? i).map (·.size)=some cells.size)(d:c.size=cells.size)(l:cells.all (·.oneCell')=true)(B:Nat)(k:World)(m:Below B k w)(e:B<=g)(h:∀ w',w'.heap[g]?=some (.cells cells t (0,0))->Below B k w'->wpList P ops Q b (a.put o.dst undef) w'):wpList P ops Q (o::b) a w :=
 wpList_store_row f i x y p g cells q r t c j n d l (h _ (setRow_heap w g _ _ t _ j) (BL m e _))
theorem Sl.rF{i:Option Addr}{c:Nat}(h:Sl w (.slice i n c) l)(q:0<l.length):∃ ad,i=some ad/\∀ (j:Nat) (v:Value),(l.map (Value.int .u8))[j]?=some v->w.cell? (ad.add j)=some v:=by
 obtain⟨⟨a,k,e,r,s,m⟩,p,o⟩:=h;simp only[Value.slice.injEq]at e;obtain⟨rfl,rfl,rfl⟩:=e;rcases m with rfl|⟨b,off,rfl,_,hcell⟩
 .simp at q
 .refine⟨_,rfl,λj v g=>?_⟩;have d:j<l.length:=by
   have:=(V'.1 g).1;simpa using this
  have f:(⟨b,off,none⟩:Addr).add j=⟨b,off+j,none⟩:=by unfold Addr.add;split<;>simp_all
  rw[f,hcell j d];simp[List.getElem?_eq_getElem d]at g
  rw[AK d,g]
theorem PR(v:Value)(l:List Int)(w:World)(h:Sl w v l)(L:l.length<=100000)(O:AG w) :
  Calls prog 58 #[v] w λe w'=>e=.returned (.agg (AQ (fk l)))/\Bw w w':=by
 have F:=h;obtain⟨⟨a,I,rfl,R,S,D⟩,M,z⟩:=h;have Q:Hid _:=D;have c:(prog.info? 132).map (·.size)=some (AQ (fk l)).size:=by rw[AC,EN];kernel_rfl
 clear D z;by_cases E:64<l.length
 .have ek:Iq l=dig l:=by unfold Iq;rw[if_pos E]
  have y:Hid (fk l=FZ (dig l) 64):=by unfold Hid fk;rw[ek]
  clear ek;go_enter func58,ntmps58
  go_wp2_with fail
  generalize i:w.alloc _=W0;have d:Bw w W0:=by rw[<- i];exact(Below.refl _ _).alloc (A' _) _
  have u:W0.heap[w.heap.size]?=some (.cells (AQ (List.replicate 64 0)) 132 (0,0)):=by rw[<- i];exact heap_alloc_new _ _
  have C:W0.heap.size=w.heap.size+1:=by rw[<- i];simp
  clear i;refine(Fj _ l W0 (F.af d) L (O.af d)).mono ?_;rintro e j ⟨T,rfl,o,m⟩;obtain⟨J,H,P,A,B,K,n,_⟩:=En o (Fu (Az l));subst P;have p:j.heap[w.heap.size]?=some (.cells (AQ (List.replicate 64 0)) 132 (0,0)):=(m.block _ (by omega)).trans u;have t:Bw w j:=d.trans (m.mono d.size);have x:w.heap.size<j.heap.size:=(Q'.1 p).1;have G:Sl j (.slice (some ⟨J,0,none⟩) (dig l).length H) (dig l):=Sl.qi o (by rw[Az];omega) (DD l);go_wp2_with (refine wpList_copy_splice rfl _ _ 26 26 rfl 5 underlying26 NA _ _ _ _ _ _ rfl rfl j.heap.size 0 ((List.replicate 64 (0:Int)).map (Value.int .u8)) 132 (heap_alloc_new _ _) ((dig l).map (Value.int .u8)) (by rw[mm,Az];rfl) (λ_=>⟨rfl,(G.af ((Below.refl _ _).alloc (A' _) _)).rF (by rw[Az];omega)⟩) (by rw[mm,Az];simp) (EO _) j.heap.size _ (Below.refl _ _) (A' _) ?_)
  intro g r b;have q:g.heap[j.heap.size]?=some (.cells (AQ (fk l)) 132 (0,0)):=by
   have s:g.heap[j.heap.size]?=some (.cells (splice ((List.replicate 64 (0:Int)).map (Value.int .u8)) 0 ((dig l).map (Value.int .u8))).toArray 132 (0,0)):=r.out;rw[Kc]at s
   rw[y.out];exact s
  have k:Bw w g:=(t.alloc t.size _).trans (b.mono (by omega));have f:g.heap[w.heap.size]?=some (.cells (AQ (List.replicate 64 0)) 132 (0,0)):=by
   rw[b.block _ x,heap_alloc_old _ _ x];exact p
  clear r b p u C d m n o G B A;go_wp2_with (first|(refine wpList_load_row rfl 132 _ rfl j.heap.size rfl 132 _ (0,0) _ q underlying132 rfl c ?_)|(refine wpList_store_row rfl 132 _ _ rfl w.heap.size _ rfl rfl 132 _ f c (by rw[AC,AC,EN];rfl) (KS _) ?_))
  refine bodyPost_ret (v:=.agg (AQ (fk l))) (results_cell_row rfl _ _ w.heap.size 132 _ (0,0) _ rfl (setRow_heap g w.heap.size _ _ 132 _ f) underlying132 rfl c) rfl ⟨rfl,BL k (A' _) _⟩
 .have ek:Iq l=l:=by unfold Iq;rw[if_neg E]
  have y:Hid (fk l=FZ l 64):=by unfold Hid fk;rw[ek]
  clear ek;go_enter func58,ntmps58
  go_wp2_with (refine wpList_copy_splice rfl _ _ 26 26 rfl 5 underlying26 NA _ _ _ _ _ _ rfl rfl (w.heap.size+1) 0 ((List.replicate 64 (0:Int)).map (Value.int .u8)) 132 (heap_alloc2_new _ _ _) (l.map (Value.int .u8)) (by rw[mm];exact(m8 (show l.length<=64 by omega)).symm) (λN=>⟨rfl,(F.af (((Below.refl _ _).alloc (A' _) _).alloc (by simp) _)).rF (by simpa using N)⟩) (by rw[mm,mm,nu];omega) (EO _) (w.heap.size+1) _ (Below.refl _ _) (A' _) ?_)
  intro g r b;have q:g.heap[w.heap.size+1]?=some (.cells (AQ (fk l)) 132 (0,0)):=by
   have s:g.heap[w.heap.size+1]?=some (.cells (splice ((List.replicate 64 (0:Int)).map (Value.int .u8)) 0 (l.map (Value.int .u8))).toArray 132 (0,0)):=r.out;rw[Kc]at s
   rw[y.out];exact s
  have k:Bw w g:=(((Below.refl _ _).alloc (A' _) _).alloc (by simp) _).trans (b.mono (by omega));have f:g.heap[w.heap.size]?=some (.cells (AQ (List.replicate 64 0)) 132 (0,0)):=by
   rw[b.block _ (by omega)];exact heap_alloc2_old _ _ _
  clear r b;go_wp2_with (first|(refine wpList_load_row rfl 132 _ rfl (w.heap.size+1) rfl 132 _ (0,0) _ q underlying132 rfl c ?_)|(refine wpList_store_row rfl 132 _ _ rfl w.heap.size _ rfl rfl 132 _ f c (by rw[AC,AC,EN];rfl) (KS _) ?_))
  refine bodyPost_ret (v:=.agg (AQ (fk l))) (results_cell_row rfl _ _ w.heap.size 132 _ (0,0) _ rfl (setRow_heap g w.heap.size _ _ 132 _ f) underlying132 rfl c) rfl ⟨rfl,BL k (A' _) _⟩
theorem cE(l:List Int)(d:l.length=64)(j:Nat)(c:j<64):∀ w,(Instr.index 132 (.agg (AQ l)) (.int .i64 (j:Int))).run prog w=.ok (.int .u8 (l.getD j 0)) w:=by
 intro w;have b:(AQ l)[j]?=some (.int .u8 (l.getD j 0)):=by
  simp[AQ,List.getElem?_eq_getElem (show j<l.length by omega),List.getD]
 have a:(0:Int)<=j/\(j:Int)<64:=by omega
 simp[Instr.index,run_underlying underlying132,asIntOf,a,part,b];intro h;omega
theorem L9(k:List Int)(m:Int)(w:World)(q:k.length=64)(I:0<=m/\m<256)(K:∀ x∈k,0<=x/\x<256) :
  Calls prog 60 #[.agg (AQ k),.int .u8 m] w λe w'=>∃ v',e=.returned v'/\w'.ownsRow w.heap.size 5 1 v' (Bo k m).length ((Bo k m).map (Value.int .u8))/\Bw w w':=by
 obtain⟨M,L,C,D,E⟩:=info_parts Av;have B:(prog.info? 132).map (·.size)=some (AQ k).size:=by rw[AC,q];kernel_rfl
 have u:Hid (k.length=64):=q;clear q;go_enter func60,ntmps60
 go_wp2_with (at_make;refine wpList_make_own _ rfl _ _ 26 rfl w.heap.size 5 M (.int .u8 0) 1 underlying26 L C D _ _ _ 64 rfl rfl (by omega) (by rw[E];omega) (by unfold maxLen;omega) (by simp) ?_)
 intro F t h;have o:Bw w F:=((Below.refl _ _).alloc (A' _) _).grown h (by simp) (by simp);have g:F.heap[w.heap.size]?=some (.cells (AQ k) 132 (0,0)):=by
  rw[h.block w.heap.size (by simp) (by simp)];exact heap_alloc_new _ _
 have f:F.ownsRow w.heap.size 5 1 (.slice (some ⟨w.heap.size+1,0,none⟩) 0 64) (Bo (k.take 0) m).length ((Bo (k.take 0) m).map (Value.int .u8)):=t;clear t h;go_wp2_with (refine wpList_load_row rfl 132 _ rfl w.heap.size rfl 132 _ (0,0) _ g underlying132 rfl B ?_)
 go_loopw [5,10] (λv i wr=>∃ j:Nat,j<=64/\i=.int .i64 j/\wr.ownsRow w.heap.size 5 1 v (Bo (k.take j) m).length ((Bo (k.take j) m).map (Value.int .u8))/\Bw w wr) (λ_ i _=>64-(intOf i).toNat)
 case atStart=>exact⟨0,by omega,rfl,f,o⟩
 case round =>
  clear f o g;obtain⟨j,N,rfl,a,b⟩:=hrel;have s:=a.lt;by_cases d:j<64
  .have hix:=cE k u.out j d;have r:(Bo (k.take j) m).length<=64:=by rw[Fs,Z'];omega
   have y:Hid (Bo (k.take (j+1)) m=Bo (k.take j) m++[bits .xor .u8 (k.getD j 0) m]):=by
    unfold Hid;have p:j<k.length:=by rw[u.out];exact d
    rw[mj p,AK p,Bo,mz];rfl
   have c:=Ak K j;have l:0<=bits .xor .u8 (k.getD j 0) m/\bits .xor .u8 (k.getD j 0) m<256:=by
    rw[u8_xor _ _ c.1 c.2 I.1 I.2];have:(k.getD j 0).toNat ^^^ m.toNat<256:=oM (n:=8) (by omega) (by omega);omega
   have G:Hid (0<=bits .xor .u8 (k.getD j 0) m/\bits .xor .u8 (k.getD j 0) m<256):=l;generalize Bo (k.take j) m=pre at a y r;generalize k.getD j 0=x at hix y c l G;clear l c;go_wp2_with (at_builtin;refine Aa _ rfl _ _ 26 rfl w.heap.size 5 underlying26 Av _ _ rfl rfl pre _ (a.alloc _) (Sl.one _ _ _ rfl G.out) (by simp;omega) (by have:=b.size;simp;omega) ?_)
   intro v' w' J H;have A:w'.ownsRow w.heap.size 5 1 v' (pre++[bits .xor .u8 x m]).length ((pre++[bits .xor .u8 x m]).map (Value.int .u8)):=by simpa using J
   have z:Bw w w':=(b.alloc b.size _).grown H (by have:=b.size;simp;omega) (λk q=>(s k q).1);clear J H a s b;go_wp2
   go_roundw
   case rel=>exact⟨j+1,by omega,by go_num,by rw[y.out];exact A,z⟩
   case measure=>simp[intOf];omega
  .have HJ:Hid (k.take j=k):=by unfold Hid;exact mc (by rw[u.out];omega)
   go_wp2
   go_ret;refine⟨u5,rfl,?_,b⟩;rw[HJ.out]at a
   exact a
theorem OG(vk vb:Value)(k b:List Int)(w:World)(C:Sl w vk k)(hb:Sl w vb b)(Z:k.length<=100000)(a3:b.length<=90000)(ht:AG w) :
  Calls prog 34 #[vk,vb] w λe w'=>∃ v',e=.returned v'/\Fresh w w' v' (El k b):=by
 have n:(prog.info? 132).map (·.size)=some (AQ (fk k)).size:=by rw[AC,EN];kernel_rfl
 have d:=bP C.byte;have c:=EN k;have F:Hid (El k b=dig (Bo (fk k) 92++dig (Bo (fk k) 54++b))):=rfl;go_enter func34,ntmps34
 go_wp2_with fail
 refine(PR vk k w C Z ht).mono ?_;rintro e R ⟨rfl,v⟩;generalize fk k=K at n d c F ⊢;go_wp2_with (refine IR rfl 132 _ _ rfl R.heap.size _ rfl rfl 132 _ (heap_alloc_new _ _) n (by rw[AC,c];rfl) (KS _) w.heap.size w (v.alloc v.size _) v.size ?_)
 intro E g a;have hz:R.heap.size<E.heap.size:=(Q'.1 g).1;go_wp2_with (refine wpList_load_row rfl 132 _ rfl R.heap.size rfl 132 _ (0,0) _ g underlying132 rfl n ?_)
 refine(L9 K 54 E c (by omega) d).mono ?_;rintro e w3 ⟨v3,rfl,z,j⟩;have U:Bw w w3:=a.trans (j.mono a.size);have p:=z.lt;have s:(Bo K 54).length=64:=by rw[Fs,c]
 have t:(Bo K 92).length=64:=by rw[Fs,c]
 have G:=L8 d (m:=54) (by omega);have H:=L8 d (m:=92) (by omega);go_wp2_with (at_builtin;refine Aa _ rfl _ _ 26 rfl E.heap.size 5 underlying26 Av _ _ rfl rfl (Bo K 54) b z (hb.af U) (by omega) j.size ?_)
 intro v4 S O M;have y:Bw E S:=j.grown M j.size (λk C=>(p k C).1);have V:Bw w S:=a.trans (y.mono a.size);have f:S.ownsRow E.heap.size 5 1 v4 (Bo K 54++b).length ((Bo K 54++b).map (Value.int .u8)):=by simpa[s]using O
 have I:∀ x∈Bo K 54++b,0<=x/\x<256:=λx hx=>by
  rcases U'.1 hx with h|h
  .exact G x h
  .exact hb.byte x h
 have a1:(Bo K 54++b).length<=91000:=by rw[H',s];omega
 clear O M z p;generalize Bo K 54++b=L4 at f I a1 F;go_wp2_with fail
 refine(Fj v4 L4 S (Sl.qi f (by omega) I) (by omega) (ht.af V)).mono ?_;rintro e u ⟨v5,rfl,P,W⟩;have o:Bw E u:=y.trans (W.mono y.size);have s5:Sl u v5 (dig L4):=Sl.qi P (by rw[Az];omega) (DD L4);have l5:=Az L4;have y5:=DD L4;generalize dig L4=D at s5 F l5 y5;have B:u.heap[R.heap.size]?=some (.cells (AQ K) 132 (0,0)):=(o.block _ hz).trans g;clear f P;go_wp2_with (refine wpList_load_row rfl 132 _ rfl R.heap.size rfl 132 _ (0,0) _ B underlying132 rfl n ?_)
 refine(L9 K 92 u c (by omega) d).mono ?_;rintro e w6 ⟨v6,rfl,A,l⟩;have q:=A.lt;go_wp2_with (at_builtin;refine Aa _ rfl _ _ 26 rfl u.heap.size 5 underlying26 Av _ _ rfl rfl (Bo K 92) D A (s5.af l) (by omega) l.size ?_)
 intro v7 T Q N;have X:Bw u T:=l.grown N l.size (λk C=>(q k C).1);have L:Bw w u:=a.trans (o.mono a.size);have i:Bw w T:=L.trans (X.mono L.size);have r:T.ownsRow u.heap.size 5 1 v7 (Bo K 92++D).length ((Bo K 92++D).map (Value.int .u8)):=by simpa[t,l5]using Q
 have J:∀ x∈Bo K 92++D,0<=x/\x<256:=λx hx=>by
  rcases U'.1 hx with h|h
  .exact H x h
  .exact y5 x h
 have a2:(Bo K 92++D).length<=96:=by rw[H',t];omega
 clear Q N A q;generalize Bo K 92++D=L7 at r J a2 F;go_wp2_with fail
 refine(Fj v7 L7 T (Sl.qi r (by omega) J) (by omega) (ht.af i)).mono ?_;rintro e w8 ⟨v8,rfl,a0,Y⟩;go_wp2
 go_ret;refine⟨v8,rfl,?_⟩;rw[F.out];exact Fresh.qi (BY a0 i.size) (Fu (Az L7)) (by rw[Az];omega) (DD L7) (i.trans (Y.mono i.size))
theorem fH(m l:Value)(k b:List Int)(w:World)(i:Sl w m k)(h:Sl w l b)(q:k.length<=256)(o:b.length<=2000)(t:AG w) :
  Calls prog 32 #[m,l] w λe w'=>∃ v',e=.returned (.tuple #[v',.int .i64 0])/\Fresh w w' v' (El k b):=by
 have s:=i;have f:=h;obtain⟨⟨a,n,rfl,_,_,_⟩,r,d⟩:=i;obtain⟨⟨v,g,rfl,_,_,_⟩,j,c⟩:=h;clear d c;go_enter func32,ntmps32
 go_wp2_with fail
 refine(OG _ _ k b w s f (by omega) (by omega) t).mono ?_;rintro e x ⟨u,rfl,p⟩;go_wp2
 go_ret2
 exact⟨u,rfl,p⟩
theorem OJ(L M:Value)(a i:List Int)(c:Int)(w:World)(H:Sl w L a)(I:Sl w M i)(S:a.length<=1000)(U:i.length<=1000)(T:0<=c/\c<256) :
  Calls prog 57 #[L,M,.int .u8 c] w λe w'=>∃ v',e=.returned v'/\w'.ownsRow w.heap.size 5 1 v' (a++i++[c]).length ((a++i++[c]).map (Value.int .u8))/\Bw w w':=by
 obtain⟨X,A,D,E,F⟩:=info_parts Av;have W:=H;have C:=I;obtain⟨⟨aa,R,rfl,_,_,_⟩,V,z⟩:=H;obtain⟨⟨a2,G,rfl,_,_,_⟩,J,n⟩:=I;clear z n;go_enter func57,ntmps57
 go_wp2_with (at_make;refine wpList_make_own _ rfl _ _ 26 rfl w.heap.size 5 X (.int .u8 0) 1 underlying26 A D E _ _ _ (a.length+i.length+1) rfl rfl (by omega) (by rw[F];omega) (by unfold maxLen;omega) (A' _) ?_)
 intro N s o;have b:Bw w N:=(Below.refl _ _).grown o (A' _) (by simp);have m:N.ownsRow w.heap.size 5 1 (.slice (some ⟨w.heap.size,0,none⟩) 0 (a.length+i.length+1)) ([]:List Int).length (([]:List Int).map (Value.int .u8)):=s;clear s o;go_wp2_with (at_builtin;refine Aa _ rfl _ _ 26 rfl w.heap.size 5 underlying26 Av _ _ rfl rfl [] a m (W.af b) (by simp;omega) b.size ?_)
 intro Y O t p;have g:O.ownsRow w.heap.size 5 1 Y a.length (a.map (Value.int .u8)):=by simpa using t
 have d:Bw w O:=b.grown p b.size (by simp[Value.ownBlock]);have j:=g.lt;clear m p b t;go_wp2_with (at_builtin;refine Aa _ rfl _ _ 26 rfl w.heap.size 5 underlying26 Av _ _ rfl rfl a i g (C.af d) (by omega) d.size ?_)
 intro Z P u q;have h:P.ownsRow w.heap.size 5 1 Z (a++i).length ((a++i).map (Value.int .u8)):=by simpa using u
 have f:Bw w P:=d.grown q d.size (λk B=>(j k B).1);have l:=h.lt;clear g q d u j;go_wp2_with (at_builtin;refine Aa _ rfl _ _ 26 rfl w.heap.size 5 underlying26 Av _ _ rfl rfl (a++i) [c] (h.alloc _) (Sl.one _ _ _ rfl T) (by simp;omega) (by have:=f.size;simp;omega) ?_)
 intro K Q v r;have x:Q.ownsRow w.heap.size 5 1 K (a++i++[c]).length ((a++i++[c]).map (Value.int .u8)):=by simpa using v
 have y:Bw w Q:=(f.alloc f.size _).grown r (by have:=f.size;simp;omega) (λk B=>(l k B).1);clear h r f v l;go_wp2
 go_ret;exact⟨K,rfl,x,y⟩
theorem Sl.grown{row:Option Nat}(h:Sl w (.slice (some ⟨b,off,none⟩) n cap) l)(g:w.grownBy w' row)(f:some b≠row):Sl w' (.slice (some ⟨b,off,none⟩) n cap) l:=by
 obtain⟨⟨a,c,e,m,p,d⟩,j,k⟩:=h;refine⟨⟨a,c,e,m,p,?_⟩,j,k⟩;simp only[Value.slice.injEq]at e;obtain⟨rfl,_,_⟩:=e;rcases d with d|⟨b',off',e',hbs,hcell⟩
 .exact .inl d
 .simp only[X',Addr.mk.injEq,and_true]at e';obtain⟨rfl,rfl⟩:=e';refine .inr ⟨b,off,rfl,j' hbs g.size,λi o=>?_⟩;rw[<- hcell i o];exact World.cell?_of_block (w:=w) (g.block b hbs f)
def blk(key info:List Int):Nat->List Int
 | 0=>[]
 | i+1=>El key (blk key info i++info++[(i:Int)+1])
def Bk(key info:List Int):Nat->List Int
 | 0=>[]
 | i+1=>Bk key info i++blk key info (i+1)
def FX(key info:List Int)(n:Nat):List Int:=(Bk key info 16).take n
theorem Hg(key a:List Int)(i:Nat):(blk key a (i+1)).length=32:=DH _ _
theorem Xi(key a:List Int)(i:Nat):∀ x∈blk key a i,0<=x/\x<256:=by
 cases i with
 | zero=>intro x b;cases b
 | succ i=>exact NI _ _
theorem fW(key a:List Int)(i:Nat):(blk key a i).length<=32:=by
 cases i with
 | zero=>simp[blk]
 | succ i=>rw[Hg];omega
theorem CH(key a:List Int)(i:Nat):(Bk key a i).length=32*i:=by
 induction i with
 | zero=>rfl
 | succ i ih=>rw[Bk,H',ih,Hg];omega
theorem QM(key a:List Int)(i:Nat):∀ x∈Bk key a i,0<=x/\x<256:=by
 induction i with
 | zero=>intro x b;cases b
 | succ i ih =>
  intro x b;rcases U'.1 b with h|h
  .exact ih x h
  .exact Xi key a (i+1) x h
theorem QN(key a:List Int)(n i j:Nat)(b:n<=32*i):(Bk key a (i+j)).take n=(Bk key a i).take n:=by
 induction j with
 | zero=>rfl
 | succ j ih=>rw[<- mV,Bk,mn (by rw[CH];omega),ih]
theorem Vn(key a:List Int)(n i:Nat):(Bk key a (i+1)).take n=(Bk key a i).take n++(blk key a (i+1)).take (n-32*i):=by
 rw[Bk,List.take_append,CH]
theorem RP(vk vi:Value)(k i:List Int)(n:Nat)(w:World)(hk:Sl w vk k)(hi:Sl w vi i)(a9:k.length<=1000)(a8:i.length<=900)(hn:n<=512)(ht:AG w) :
  Calls prog 33 #[vk,vi,.int .i64 n] w λe w'=>∃ v',e=.returned v'/\w'.ownsRow w.heap.size 5 1 v' (FX k i n).length ((FX k i n).map (Value.int .u8))/\Bw w w':=by
 obtain⟨i0,Z,a2,a3,a4⟩:=info_parts Av;go_enter func33,ntmps33
 go_wp2_with (at_make;refine wpList_make_own _ rfl _ _ 26 rfl w.heap.size 5 i0 (.int .u8 0) 1 underlying26 Z a2 a3 _ _ _ n rfl rfl (by omega) (by rw[a4];omega) (by unfold maxLen;omega) (A' _) ?_)
 intro w1 J I;have H:Bw w w1:=(Below.refl _ _).grown I (A' _) (by simp);have y:w1.ownsRow w.heap.size 5 1 (.slice (some ⟨w.heap.size,0,none⟩) 0 n) ((Bk k i 0).take n).length (((Bk k i 0).take n).map (Value.int .u8)):=by simpa[Bk]using J
 clear J I;go_wp2_with fail
 go_loopw [7,8,9] (λv b c wr=>∃ j:Nat,j<=16/\c=.int .u8 ((j:Int)+1)/\(∃ m z,v=.slice (some ⟨m,0,none⟩) (min (32*j) n) z)/\Sl wr b (blk k i j)/\wr.ownsRow w.heap.size 5 1 v ((Bk k i j).take n).length (((Bk k i j).take n).map (Value.int .u8))/\Bw w wr) (λ_ _ c _=>(17-intOf c).toNat)
 case atStart=>exact⟨0,by omega,rfl,⟨w.heap.size,n,by simp⟩,Sl.nil _ _,y,H⟩
 case round =>
  clear y H;obtain⟨j,hj,rfl,⟨m,z,rfl⟩,sb,f,V⟩:=hrel;have B:=f.lt;by_cases hc:32*j<n
  .have d:min (32*j) n=32*j:=by omega
   rw[d]at f B ⊢
   have a0:m<wr.heap.size:=(B m rfl).2;have l:((Bk k i j).take n).length=32*j:=by rw[Z',CH];omega
   have a7:=fW k i j;have a5:j<=15:=by omega
   have HB:Hid (blk k i (j+1)=El k (blk k i j++i++[(j:Int)+1])):=rfl;have HS:=Vn k i n j;have E:Hid _:=HS;have yb:∀ x∈blk k i j++i++[(j:Int)+1],0<=x/\x<256:=λx hx=>by
    rcases U'.1 hx with h|h
    .rcases U'.1 h with h|h
     .exact sb.byte x h
     .exact hi.byte x h
    .obtain rfl:x=(j:Int)+1:=by simpa using h
     omega
   clear HS d;go_wp2_with fail
   refine(OJ _ vi (blk k i j) i ((j:Int)+1) wr sb (hi.af V) (by omega) (by omega) (by omega)).mono ?_;rintro e w2 ⟨v2,rfl,K,a⟩;have s:Bw w w2:=V.trans (a.mono V.size);have l2:(blk k i j++i++[(j:Int)+1]).length<=2000:=by simp;omega
   have s2:=Sl.qi K (by omega) yb;go_wp2_with fail
   refine(OG vk v2 k _ w2 (hk.af s) s2 (by omega) (by omega) (ht.af s)).mono ?_;rintro e R ⟨v3,rfl,F⟩;rw[<- HB.out]at F
   obtain⟨T,S,N,_,Y⟩:=F.shape;have s3:=F.sl;have o:=F.sa;have l3:=Hg k i j;rw[l3]at N Y
   subst N;clear HB F s2 K l2 yb sb;have a1:=f;have g:R.ownsRow w.heap.size 5 1 (.slice (some ⟨m,0,none⟩) (32*j) z) ((Bk k i j).take n).length (((Bk k i j).take n).map (Value.int .u8)):=by
    refine f.kept (row:=none) ⟨(a.trans (o.mono a.size)).os,(a.trans (o.mono a.size)).tape,(a.trans (o.mono a.size)).output,(a.trans (o.mono a.size)).size,λq hq _=>(a.trans (o.mono a.size)).block q hq⟩ (.inr (by simp[Value.ownBlock]))
   have t:Bw w R:=s.trans (o.mono s.size);have p:=g.lt;have C:Hid ((Bk k i (j+1)).take n=(Bk k i j).take n++(blk k i (j+1)).take (n-32*j)):=E.out;clear E a1 f B;have U:((blk k i (j+1)).take (n-32*j)).length=min (n-32*j) 32:=by rw[Z',l3]
   have sM:Sl R (.slice (some ⟨T,0,none⟩) (min (n-32*j) 32) S) ((blk k i (j+1)).take (n-32*j)):=by
    by_cases hq:n-32*j<=32
    .rw[m8 hq];exact s3.take (n-32*j) (by omega)
    .rw[Nat.min_eq_right (by omega),mc (by omega)];exact s3
   have HN:=s3;have u:((Bk k i (j+1)).take n).length=min (32*(j+1)) n:=by rw[Z',CH];omega
   have D:Hid (((Bk k i (j+1)).take n).length=min (32*(j+1)) n):=u;clear HN u;generalize (blk k i (j+1)).take (n-32*j)=M at sM U C;generalize (Bk k i j).take n=P at g p l C;have SB:Sl R (.slice (some ⟨T,0,none⟩) 32 S) (blk k i (j+1)):=s3;clear s3;have d:(min (32:Int) ((n:Int)-32*(j:Int))).toNat=min (n-32*j) 32:=by omega
   have Q:Sl R (.slice (some ⟨T,0,none⟩) (min (32:Int) ((n:Int)-32*(j:Int))).toNat S) M:=by rw[d];exact sM
   have a6:m<w2.heap.size:=j' a0 a.size;clear d sM;go_wp2_with (at_builtin;refine Aa _ rfl _ _ 26 rfl w.heap.size 5 underlying26 Av _ _ rfl rfl P M g Q (by omega) t.size ?_)
   intro v4 w4 L A;have r:w4.ownsRow w.heap.size 5 1 v4 (P++M).length ((P++M).map (Value.int .u8)):=by simpa[l,U]using L
   have X:Bw w w4:=t.grown A t.size (λk hk=>(p k hk).1);have W:Sl w4 (.slice (some ⟨T,0,none⟩) 32 S) (blk k i (j+1)):=SB.grown A (by simp[Value.ownBlock];omega);obtain⟨g4,c4,O,_,_,_,_,_⟩:=En r (by intro e;have:=congrArg List.length e;rw[H',l,U]at this;simp at this;omega);have G:(P++M).length=min (32*(j+1)) n:=by rw[<- C.out];exact D.out
   rw[<- C.out]at r
   rw[G]at O
   subst O;clear L A g p t SB Q U C D G l;go_wp2
   go_roundw
   case rel=>exact⟨j+1,by omega,by go_num,⟨g4,c4,rfl⟩,W,r,X⟩
   case measure=>simp[intOf];omega
  .have d:min (32*j) n=n:=by omega
   rw[d]at f ⊢
   have HQ:Hid (FX k i n=(Bk k i j).take n):=by
    unfold Hid FX;have:=QN k i n j (16-j) (by omega);rw[show j+(16-j)=16 by omega]at this
    exact this
   go_wp2
   go_ret;refine⟨_,rfl,?_,V⟩;rw[HQ.out];exact f
theorem Ih(k i:List Int)(n:Nat)(h:n<=512):(FX k i n).length=n:=by
 unfold FX;rw[Z',CH];omega
theorem Lk(k i:List Int)(n:Nat):∀ x∈FX k i n,0<=x/\x<256:=λx a=>QM k i 16 x (mh a)
theorem T3(o f g:Value)(a b d:List Int)(n:Nat)(w:World)(j:Sl w o a)(k:Sl w f b)(l:Sl w g d)(p:a.length<=256)(q:b.length<=256)(r:d.length<=256)(s:n<=512)(m:AG w) :
  Calls prog 20 #[o,f,g,.int .i64 n] w λe w'=>∃ v',e=.returned (.tuple #[v',.int .i64 0])/\w'.ownsRow w.heap.size 5 1 v' (FX (El b a) d n).length ((FX (El b a) d n).map (Value.int .u8))/\Bw w w':=by
 have s0:=j;have t:=k;have u:=l;obtain⟨⟨a0,z,rfl,_,_,_⟩,_,_⟩:=j;obtain⟨⟨x,A,rfl,_,_,_⟩,_,_⟩:=k;obtain⟨⟨y,B,rfl,_,_,_⟩,_,_⟩:=l;have C:decide ((256:Int)<(a.length:Int))=false:=by simp;omega
 have D:decide ((256:Int)<(b.length:Int))=false:=by simp;omega
 have E:decide ((256:Int)<(d.length:Int))=false:=by simp;omega
 have F:decide ((n:Int)<0)=false:=by simp
 have G:decide ((512:Int)<(n:Int))=false:=by simp;omega
 go_enter func20,ntmps20
 go_wp2_with fail
 refine(OG _ _ b a w t s0 (by omega) (by omega) m).mono ?_;rintro e v ⟨f,rfl,c⟩;have H:=DH b a;go_wp2_with fail
 refine(RP f _ (El b a) d n v c.sl (u.af c.sa) (by omega) (by omega) s (m.af c.sa)).mono ?_;rintro e I ⟨g,rfl,i,h⟩;go_wp2
 go_ret2
 exact⟨g,rfl,BY i c.sa.size,c.sa.trans (h.mono c.sa.size)⟩
def Ip(c:Int):List Int:=FX (El [99,108,105,101,110,116] [c]) [] 32
def EP:List Int:=FX (El [105,115,115,117,101,114] [255]) [] 32
theorem Cn(c:Int):(Ip c).length=32:=Ih _ _ 32 (by omega)
theorem Gb:EP.length=32:=Ih _ _ 32 (by omega)
theorem VA(c:Int):∀ x∈Ip c,0<=x/\x<256:=Lk _ _ _
theorem V7:∀ x∈EP,0<=x/\x<256:=Lk _ _ _
theorem Sl.sN(w:World)(l:List Int)(e:TypeId)(a:Nat × Nat){g:Nat}(c:g=w.heap.size)(f:l.length=6)(b:∀ x∈l,0<=x/\x<256):Sl (w.alloc (.cells (l.map (Value.int .u8)).toArray e a)) (.slice (some ⟨g,0,none⟩) 6 6) l:=by
 subst c;refine⟨⟨_,6,by rw[f],by omega,by simp,.inr ⟨w.heap.size,0,rfl,by simp,λi d=>?_⟩⟩,by omega,b⟩;rw[cell_of_row _ _ (0+i) _ _ _ (heap_alloc_new w _)];simp[List.getElem?_eq_getElem d,List.getD]
def G8(t:Nat)(x:Int):Int:=if t%4=3 then x%16 else if t%4=0/\0<t then x/4*4 else x
def DK(l:List Int):List Int:=(List.range 16).map λt=>G8 t (l.getD t 0)
theorem ME(l:List Int):(DK l).length=16:=by simp[DK]
theorem R3(l:List Int)(t:Nat)(h:t<16):(DK l).getD t 0=G8 t (l.getD t 0):=by
 simp[DK,List.getD,List.getElem?_map,List.getElem?_range h]
theorem Oz(t:Nat){x:Int}(h:0<=x/\x<256):0<=G8 t x/\G8 t x<256:=by
 unfold G8;split
 .omega
 .split<;>omega
theorem P6(h:∀ x∈l,0<=x/\x<256):∀ x∈DK l,0<=x/\x<256:=by
 intro x a;obtain⟨t,_,rfl⟩:=mt.1 a;exact Oz t (Ak h t)
theorem RN(h:l.length=m.length)(c:∀ t,t<l.length->l.getD t 0=m.getD t 0):l=m:=by
 apply ol h;intro t a b;have:=c t a
 rwa [AK a,AK b]at this
theorem jc(x:Int)(a:0<=x)(b:x<256):bits .and .u8 x 15=x%16:=by
 obtain⟨n,rfl⟩:=mG a;rw[show(15:Int)=((15:Nat):Int)from rfl,u8_and_nat _ _ (by omega) (by omega),show(15:Nat)=2^4-1 from rfl,ph];omega
theorem Rt:∀ n:Fin 256,n.val &&& 252=n.val/4*4:=by decide +kernel
theorem fR(x:Int)(a:0<=x)(b:x<256):bits .and .u8 x 252=x/4*4:=by
 obtain⟨n,rfl⟩:=mG a;have e:n &&& 252=n/4*4:=Rt ⟨n,by omega⟩;rw[show(252:Int)=((252:Nat):Int)from rfl,u8_and_nat _ _ (by omega) (by omega),e];omega
structure Upper(l m:List Int)(j:Nat):Prop where
 len:m.length=16
 at_:∀ t,m.getD t 0=if t%4=3/\t<3+4*j then l.getD t 0%16 else l.getD t 0
theorem Upper.zero(h:l.length=16):Upper l l 0:=by
 refine⟨h,λt=>?_⟩;rw[if_neg (by omega)]
theorem Upper.succ(h:Upper l m j)(a:j<4):Upper l (m.set (3+4*j) (m.getD (3+4*j) 0%16)) (j+1):=by
 refine⟨by simpa using h.len,λt=>?_⟩;by_cases e:3+4*j=t
 .subst e;rw[AL (by rw[h.len];omega),h.at_,if_neg (by omega),if_pos (by omega)]
 .rw[AA e,h.at_];by_cases c:t%4=3/\t<3+4*j
  .rw[if_pos c,if_pos (by omega)]
  .rw[if_neg c,if_neg (by omega)]
structure Lower(l m:List Int)(j:Nat):Prop where
 len:m.length=16
 at_:∀ t,t<16->m.getD t 0=if t%4=3 then l.getD t 0%16 else if t%4=0/\0<t/\t<4+4*j then l.getD t 0/4*4 else l.getD t 0
theorem Upper.lower(h:Upper l m 4):Lower l m 0:=by
 refine⟨h.len,λt a=>?_⟩;rw[h.at_];by_cases c:t%4=3
 .rw[if_pos (by omega),if_pos c]
 .rw[if_neg (by omega),if_neg c,if_neg (by omega)]
theorem Lower.succ(h:Lower l m j)(b:j<3):Lower l (m.set (4+4*j) (m.getD (4+4*j) 0/4*4)) (j+1):=by
 refine⟨by simpa using h.len,λt a=>?_⟩;by_cases e:4+4*j=t
 .subst e;rw[AL (by rw[h.len];omega),h.at_ _ a,if_neg (by omega),if_neg (by omega),if_neg (by omega),if_pos (by omega)]
 .rw[AA e,h.at_ _ a];by_cases c:t%4=3
  .rw[if_pos c,if_pos c]
  .rw[if_neg c,if_neg c];by_cases d:t%4=0/\0<t/\t<4+4*j
   .rw[if_pos d,if_pos (by omega)]
   .rw[if_neg d,if_neg (by omega)]
theorem Lower.sF(h:Lower l m 3):m=DK l:=by
 refine RN (by rw[h.len,ME]) (λt a=>?_);rw[h.len]at a
 rw[h.at_ t a,R3 l t a,G8];by_cases c:t%4=3
 .rw[if_pos c,if_pos c]
 .rw[if_neg c,if_neg c];by_cases d:t%4=0/\0<t
  .rw[if_pos d,if_pos (by omega)]
  .rw[if_neg d,if_neg (by omega)]
theorem Upper.byte(h:Upper l m j)(a:∀ x∈l,0<=x/\x<256)(t:Nat):0<=m.getD t 0/\m.getD t 0<256:=by
 have:=Ak a t;rw[h.at_];split<;>omega
theorem Lower.byte(h:Lower l m j)(a:∀ x∈l,0<=x/\x<256)(t:Nat)(b:t<16):0<=m.getD t 0/\m.getD t 0<256:=by
 have:=Ak a t;rw[h.at_ t b];split
 .omega
 .split<;>omega
theorem RQ(v:Value)(l:List Int)(w:World)(h:Sl w v l)(S:l.length=16) :
  Calls prog 142 #[v] w λe w'=>∃ r,e=.returned (.agg (Ai r))/\Lim 67108864 r/\val r%pp=leN (DK l)%pp/\Bw w w':=by
 have T:=h;obtain⟨⟨a,Y,rfl,hc,hn,Z⟩,M,A⟩:=h;have n:Hid (∀ x∈l,0<=x/\x<256):=A;clear Z A hn M;have W:Hid (l.length=16):=S;go_enter func142,ntmps142
 go_wp2_with (refine wpList_copy_splice rfl _ _ 26 26 rfl 5 underlying26 Yo _ _ _ _ _ _ rfl rfl (w.heap.size+1) 0 ((List.replicate 16 (0:Int)).map (Value.int .u8)) 254 (heap_alloc2_new _ _ _) (l.map (Value.int .u8)) (by rw[mm];exact(m8 (show l.length<=16 by omega)).symm) (λhp=>⟨rfl,(T.af (((Below.refl _ _).alloc (A' _) _).alloc (by simp) _)).src (by simpa using hp)⟩) (by rw[mm,mm,nu];omega) (EO _) (w.heap.size+1) _ (Below.refl _ _) (A' _) ?_)
 intro F Q q;have E:F.heap[w.heap.size+1]?=some (.cells (byA l) 254 (0,0)):=by
  have R:F.heap[w.heap.size+1]?=some (.cells (splice ((List.replicate 16 (0:Int)).map (Value.int .u8)) 0 (l.map (Value.int .u8))).toArray 254 (0,0)):=Q.out;rw[I9,S]at R
  simpa[byA]using R
 have y:Bw w F:=(((Below.refl _ _).alloc (A' _) _).alloc (by simp) _).trans (q.mono (by omega));have C:F.heap[w.heap.size]?=some (.cells (Ai [0,0,0,0,0]) 221 (0,0)):=by
  rw[q.block _ (by omega)];exact heap_alloc2_old _ _ _
 clear Q q T;go_wp2_with fail
 go_loopw [4] (λi wr=>∃ (j:Nat) (m:List Int),j<=4/\i=.int .i64 (3+4*(j:Int))/\Upper l m j/\wr.heap[w.heap.size]?=some (.cells (Ai [0,0,0,0,0]) 221 (0,0))/\wr.heap[w.heap.size+1]?=some (.cells (byA m) 254 (0,0))/\Bw w wr) (λi _=>20-(intOf i).toNat)
 case atStart=>exact⟨0,l,by omega,rfl,Upper.zero W.out,C,E,y⟩
 case round =>
  clear C E y;obtain⟨j,m,hj,rfl,c,t,f,o⟩:=hrel;have N:=c.len;by_cases J:j<4
  .have K:3+4*(j:Int)<16:=by omega
   have H:=(cell_of_row _ _ (3+4*j) _ _ _ f).trans (Ic m (3+4*j) (by omega));have fl:=frozen_of_row _ _ (3+4*j) _ _ f;have b:=c.byte n.out (3+4*j);have u:Hid (Upper l (m.set (3+4*j) (m.getD (3+4*j) 0%16)) (j+1)):=c.succ J;have d:=jc (m.getD (3+4*j) 0) b.1 b.2;generalize m.getD (3+4*j) 0=x at H u b d;clear c;go_wp2
   go_roundw
   case rel =>
    refine⟨j+1,_,by omega,by go_num,u.out,?_,G7 f _ _,?_⟩
    .exact(heap_setCell_other _ _ _ _ (by simp)).trans t
    .exact o.setCell (p:=⟨w.heap.size+1,3+4*j,none⟩) (by simp) _
   case measure=>simp[intOf];omega
  .have HJ:Hid (j=4):=by unfold Hid;omega
   have K:¬ 3+4*(j:Int)<16:=by omega
   have B:Lower l m 0:=by have:=HJ.out;subst this;exact c.lower
   clear c;go_wp2_with fail
   go_loopw [5] (λi wr=>∃ (j:Nat) (m:List Int),j<=3/\i=.int .i64 (4+4*(j:Int))/\Lower l m j/\wr.heap[w.heap.size]?=some (.cells (Ai [0,0,0,0,0]) 221 (0,0))/\wr.heap[w.heap.size+1]?=some (.cells (byA m) 254 (0,0))/\Bw w wr) (λi _=>20-(intOf i).toNat)
   case atStart=>exact⟨0,m,by omega,rfl,B,t,f,o⟩
   case round =>
    clear t f o B N;obtain⟨k,m,hk,rfl,c,t,f,o⟩:=hrel;have N:=c.len;by_cases L:k<3
    .have hki:4+4*(k:Int)<16:=by omega
     have H:=(cell_of_row _ _ (4+4*k) _ _ _ f).trans (Ic m (4+4*k) (by omega));have fl:=frozen_of_row _ _ (4+4*k) _ _ f;have b:=c.byte n.out (4+4*k) (by omega);have u:Hid (Lower l (m.set (4+4*k) (m.getD (4+4*k) 0/4*4)) (k+1)):=c.succ L;have d:=fR (m.getD (4+4*k) 0) b.1 b.2;generalize m.getD (4+4*k) 0=x at H u b d;clear c;go_wp2
     go_roundw
     case rel =>
      refine⟨k+1,_,by omega,by go_num,u.out,?_,G7 f _ _,?_⟩
      .exact(heap_setCell_other _ _ _ _ (by simp)).trans t
      .exact o.setCell (p:=⟨w.heap.size+1,4+4*k,none⟩) (by simp) _
     case measure=>simp[intOf];omega
    .have hki:¬ 4+4*(k:Int)<16:=by omega
     have V:Hid (k=3):=by unfold Hid;omega
     have s:m=DK l:=by have:=V.out;subst this;exact c.sF
     have s3:Sl wr (.slice (some ⟨w.heap.size+1,0,none⟩) 16 16) m:=by
      refine Sl.rowOf f N (by omega) ?_;rw[s];exact P6 n.out
     have X:Hid (m=DK l):=s;have G:Hid _:=s3;have O:w.heap.size<wr.heap.size:=(Q'.1 t).1;clear c s3 s f;go_wp2_with fail
     refine(QA _ m _ G.out (by omega)).mono ?_;rintro e U ⟨r,rfl,P,vr,z⟩;have D:=(z.block w.heap.size O).trans t;have I:Bw w U:=o.trans (z.mono o.size);have g:=CZ P.1;go_wp2_with ((with_reducible (refine Aq ?_));(refine wpList_store_row rfl 221 _ _ rfl (w.heap.size) _ rfl rfl 221 _ D g (by rw[Aj,Aj,P.1];rfl) (B9 r) ?_))
     exact bodyPost_ret (v:=.agg (Ai r)) (results_cell_row rfl _ _ (w.heap.size) 221 _ (0,0) _ rfl (setRow_heap U (w.heap.size) _ _ 221 _ D) underlying221 rfl g) rfl ⟨r,rfl,P,by rw[vr,X.out],Bg I (A' _) _⟩
def AI(v:Int)(i:Nat):Int:=v/256^i%256
theorem FT(v:Int)(i:Nat):0<=AI v i/\AI v i<256:=by unfold AI;omega
def leB(n:Nat)(v:Int):List Int:=(List.range n).map (AI v)
theorem Dw(n:Nat)(v:Int):(leB n v).length=n:=by simp[leB]
theorem Is(n:Nat)(v:Int):∀ x∈leB n v,0<=x/\x<256:=by
 intro x a;obtain⟨j,_,rfl⟩:=mt.1 a;exact FT v j
def FA(S:Nat->Int):Nat->Int
 | 0=>0
 | k+1=>FA S k+S k*256^k
def Id(S:Nat->Int)(k:Nat):Int:=FA S k/256^k
theorem LJ(k:Nat):(0:Int)<256^k:=Int.pow_pos (by omega)
theorem Nj(S:Nat->Int):Id S 0=0:=by simp[Id,FA]
theorem Ni(S:Nat->Int)(k:Nat):Id S (k+1)=(Id S k+S k)/256:=by
 have a:=LJ k;unfold Id;rw[FA,pj,<- oT (oI a),Int.add_mul_ediv_right _ _ (Int.ne_of_gt a)]
theorem Rx(S:Nat->Int)(h:∀ j,0<=S j/\S j<1000)(k:Nat):0<=Id S k/\Id S k<256:=by
 induction k with
 | zero=>rw[Nj];omega
 | succ k ih=>rw[Ni];have:=h k;omega
theorem Ww(S:Nat->Int)(k d:Nat):∃ Z,FA S (k+d)=FA S k+256^k*Z:=by
 induction d with
 | zero=>exact⟨0,by simp⟩
 | succ d ih =>
  obtain⟨Z,a⟩:=ih;refine⟨Z+S (k+d)*256^d,?_⟩;rw[<- mV,FA,a,oH]
  grind
theorem KV(v Z:Int)(n k:Nat)(h:k<n):AI (v+256^n*Z) k=AI v k:=by
 have a:=LJ k;obtain⟨d,rfl⟩:∃ d,n=k+(1+d):=⟨n-k-1,by omega⟩;unfold AI;rw[oH,oH,show(256:Int)^k*(256^1*256^d)*Z=256^k*(256*(256^d*Z))by grind,Int.add_mul_ediv_left _ _ (Int.ne_of_gt a)];omega
theorem Vb(S:Nat->Int)(n k:Nat)(h:k<n):(Id S k+S k)%256=AI (FA S n) k:=by
 have b:=LJ k;obtain⟨d,rfl⟩:∃ d,n=(k+1)+d:=⟨n-(k+1),by omega⟩;obtain⟨Z,a⟩:=Ww S (k+1) d;rw[a,KV _ _ _ _ (by omega),AI,FA,Int.add_mul_ediv_right _ _ (Int.ne_of_gt b)];rfl
theorem ZM(S T:Nat->Int)(k:Nat):FA (λj=>S j+T j) k=FA S k+FA T k:=by
 induction k with
 | zero=>rfl
 | succ k ih=>simp only[FA,ih];grind
theorem ZN(l:List Int)(k:Nat):FA (λj=>l.getD j 0) k=leP l k:=by
 induction k with
 | zero=>rfl
 | succ k ih=>simp only[FA,leP,ih]
theorem Tn(v:Int)(n:Nat):∃ Z,v=FA (AI v) n+256^n*Z/\Z=v/256^n:=by
 induction n with
 | zero=>exact⟨v,by simp[FA],by simp⟩
 | succ n ih =>
  obtain⟨Z,b,a⟩:=ih;refine⟨Z/256,?_,?_⟩
  .rw[FA,AI,<- a,pj];have:Z=Z%256+256*(Z/256):=by omega
   grind
  .rw[a,pj,oT (oI (LJ n))]
theorem Xm(v:Int)(s:List Int)(k:Nat)(a:k<16)(b:s.length<=16) :
  (Id (λj=>AI v j+s.getD j 0) k+(AI v k+s.getD k 0))%256=AI (v+leN s) k:=by
 rw[Vb (λj=>AI v j+s.getD j 0) 16 k a,ZM (AI v) (λj=>s.getD j 0),ZN,Y3 16 b];obtain⟨Z,c,_⟩:=Tn v 16;have e:v+leN s=FA (AI v) 16+leN s+256^16*Z:=by omega
 rw[e,KV _ _ _ _ a]
def IE(v:Int)(k:Nat):List Int:=(List.range 16).map λj=>if j<k then AI v j else 0
theorem QT(v:Int)(k:Nat):(IE v k).length=16:=by simp[IE]
theorem WB(v:Int):IE v 0=List.replicate 16 0:=rfl
theorem ZV(v:Int):IE v 16=leB 16 v:=by
 unfold IE leB;refine pB λj a=>?_;rw[if_pos (oE.1 a)]
theorem W9(v:Int)(k:Nat)(_hk:k<16):(IE v k).set k (AI v k)=IE v (k+1):=by
 apply ol (by simp[IE]);intro j a b;rw[nM];simp only[IE,List.getElem_map,List.getElem_range];by_cases e:k=j
 .subst e;rw[if_pos rfl,if_pos (by omega)]
 .rw[if_neg e];by_cases c:j<k
  .rw[if_pos c,if_pos (by omega)]
  .rw[if_neg c,if_neg (by omega)]
theorem SC(a b:Int)(k:Nat)(m:Int)(d:m=2^k)(g:0<=a)(c:a<m)(h:0<=b)(i:a+b*m<18446744073709551616):bits .or .u64 a (b*m)=a+b*m:=by
 obtain⟨x,rfl⟩:=mG g;obtain⟨y,rfl⟩:=mG h;have e:(y:Int)*m=((2^k*y:Nat):Int):=by rw[d,pX,oz,Int.mul_comm];rfl
 rw[e]at i ⊢
 have j:x<2^k:=by
  have:((x:Nat):Int)<((2^k:Nat):Int):=by rw[oz];rw[d]at c;exact c
  omega
 have f:=oA j y;rw[u64_or_nat _ _ (by omega) (by omega),Nat.or_comm,<- f];omega
theorem i5{a b:Int}(h:a=b):Ending.returned (.int .u8 a)=.returned (.int .u8 b):=by rw[h]
theorem Rw(n:List Int)(i:Nat)(w:World)(o:Lim 67108864 n)(B:i<16) :
  Calls prog 169 #[.agg (Ai n),.int .i64 i] w λe w'=>e=.returned (.int .u8 (AI (val n) i))/\Bw w w':=by
 obtain⟨a,b,c,d,e,rfl,⟨q,r⟩,⟨s,t⟩,⟨u,v⟩,⟨x,y⟩,⟨z,A⟩⟩:=o.split;have f:(w.alloc (.cells (Ai [a,b,c,d,e]) 221 (0,0))).heap[w.heap.size]?=some (.cells (Ai [a,b,c,d,e]) 221 (0,0)):=heap_alloc_new _ _;have h:=(cell_of_row _ _ 0 _ _ _ f).trans (Ar _ 0 (by simp));have j:=(cell_of_row _ _ 1 _ _ _ f).trans (Ar _ 1 (by simp));have k:=(cell_of_row _ _ 2 _ _ _ f).trans (Ar _ 2 (by simp));have l:=(cell_of_row _ _ 3 _ _ _ f).trans (Ar _ 3 (by simp));have m:=(cell_of_row _ _ 4 _ _ _ f).trans (Ar _ 4 (by simp));simp only[mq,mL]at h j k l m;have g:Hid (val [a,b,c,d,e]=a+67108864*b+4503599627370496*c+302231454903657293676544*d+20282409603651670423947251286016*e):=Dp a b c d e;generalize Ai [a,b,c,d,e]=arr at h j k l m ⊢;generalize val [a,b,c,d,e]=V at g ⊢;clear o f;obtain rfl|rfl|rfl|rfl|rfl|rfl|rfl|rfl|rfl|rfl|rfl|rfl|rfl|rfl|rfl|rfl:i=0\/i=1\/i=2\/i=3\/i=4\/i=5\/i=6\/i=7\/i=8\/i=9\/i=10\/i=11\/i=12\/i=13\/i=14\/i=15:=by omega
 all_goals
  go_enter func169,ntmps169
  go_wp2
  go_ret;refine⟨i5 ?_,(Below.refl _ _).alloc (A' _) _⟩;have p:=g.out;clear g h j k l m;unfold AI
  first
   | rw[SC _ _ 2 4 rfl (by omega) (by omega) (by omega) (by omega)]
   | rw[SC _ _ 4 16 rfl (by omega) (by omega) (by omega) (by omega)]
   | rw[SC _ _ 6 64 rfl (by omega) (by omega) (by omega) (by omega)]
   | skip
  subst p;simp only[Int.reducePow];omega
theorem MU{d:Nat}{K:Act->World->Prop}{a:Act}(R:World->Prop){A:Act}(c:∀ K':Act->World->Prop,Hid (∀ W2,R W2->K' A W2)->(Code.region d ops true).wp P (Exit.then K' Q) a w)(b:∀ W2,R W2->K A W2):(Code.region d ops true).wp P (Exit.then K Q) a w:=c K b
theorem Pi(nl:List Int)(v:Value)(s:List Int)(w:World)(h:Sl w v s)(Z:s.length=16)(hn:Lim 67108864 nl) :
  Calls prog 140 #[.agg (Ai nl),v] w λe w'=>∃ v',e=.returned v'/\Sl w' v' (leB 16 (val nl+leN s))/\Bw w w':=by
 obtain⟨⟨a,a3,rfl,hc,a1,O⟩,a0,r⟩:=h;rcases O with rfl|⟨B,off,rfl,hB,hcell⟩
 .simp at Z
 have HC:Hid (∀ i,i<16->w.cell? ⟨B,off+i,none⟩=some (.int .u8 (s.getD i 0))):=λi hi=>hcell i (by omega);have n:Hid (∀ x∈s,0<=x/\x<256):=r;have o:Hid (s.length=16):=Z;rw[Z]at hc ⊢
 clear hcell r a1 a0;obtain⟨J,K,L,M,N,rfl,_⟩:=hn.split;obtain⟨V,X⟩:∃ V,val [J,K,L,M,N]=V:=⟨_,rfl⟩;have HV:Hid (val [J,K,L,M,N]=V):=X;rw[X];clear X;obtain⟨i0,z,A,C,D⟩:=info_parts Av;go_enter func140,ntmps140
 go_wp2_with (at_make;refine wpList_make_row _ rfl _ _ 26 rfl 5 i0 (.int .u8 0) underlying26 z A C rfl _ _ 16 rfl rfl (by rw[D];omega) (by omega) ?_)
 clear z A C D
 go_loopw [6,11] (λcv i wr=>∃ (k:Nat),k<=16/\i=.int .i64 k/\cv=.int .i64 (Id (λj=>AI V j+s.getD j 0) k)/\wr.heap[w.heap.size]?=some (.cells (Ai [J,K,L,M,N]) 221 (0,0))/\wr.heap[w.heap.size+1]?=some (.cells (byA (IE (V+leN s) k)) 5 (0,0))/\Bw w wr) (λ_ i _=>16-(intOf i).toNat)
 case atStart =>
  refine⟨0,by omega,rfl,by rw[Nj],?_,?_,?_⟩
  .exact heap_alloc2_old _ _ _
  .have e:madeCells #[Value.int .u8 0] 16=byA (IE (V+leN s) 0):=by rw[WB];kernel_rfl
   rw[e];exact heap_alloc2_new _ _ _
  .exact((Below.refl _ _).alloc (A' _) _).alloc (by simp) _
 case round =>
  obtain⟨k,hk,rfl,rfl,f,g,P⟩:=hrel;by_cases b:k<16
  .have hki:(k:Int)<16:=by omega
   have E:=(cell_of_row _ _ 0 _ _ _ f).trans (Ar _ 0 (by simp));have F:=(cell_of_row _ _ 1 _ _ _ f).trans (Ar _ 1 (by simp));have G:=(cell_of_row _ _ 2 _ _ _ f).trans (Ar _ 2 (by simp));have H:=(cell_of_row _ _ 3 _ _ _ f).trans (Ar _ 3 (by simp));have I:=(cell_of_row _ _ 4 _ _ _ f).trans (Ar _ 4 (by simp));simp only[mq,mL]at E F G H I;have a2:w.heap.size+1<wr.heap.size:=(Q'.1 g).1;have U:B<wr.heap.size:=by omega
   have ch:=(P.cell (p:=⟨B,off+k,none⟩) hB).trans (HC.out k b);have t:∀ j,0<=AI V j+s.getD j 0/\AI V j+s.getD j 0<1000:=λj=>by
    have R:=FT V j;have S:=Ak n.out j;omega
   have u:=Rx (λj=>AI V j+s.getD j 0) t k;have d:Hid (Id (λj=>AI V j+s.getD j 0) (k+1)=(Id (λj=>AI V j+s.getD j 0) k+(AI V k+s.getD k 0))/256):=Ni _ k;have c:Hid ((Id (λj=>AI V j+s.getD j 0) k+(AI V k+s.getD k 0))%256=AI (V+leN s) k):=Xm V s k b (by rw[o.out];omega);have R:=FT V k;have S:=Ak n.out k;have l:=Rw [J,K,L,M,N] k;rw[HV.out]at l
   have m:Hid (∀ W,Calls prog 169 #[.agg (Ai [J,K,L,M,N]),.int .i64 k] W λe w'=>e=.returned (.int .u8 (AI V k))/\Bw W w'):=λW=>l W hn b;have HT:Hid _:=g;have HR:Hid _:=f;have HB:Hid _:=P;clear l t g f P;have a5:=QT (V+leN s) k;have Q:Hid ((IE (V+leN s) k).set k (AI (V+leN s) k)=IE (V+leN s) (k+1)):=W9 _ k b;generalize Id (λj=>AI V j+s.getD j 0) k=cy at d c u;generalize AI V k=x at d c R m;generalize s.getD k 0=y at d c S ch;obtain⟨x1,x2⟩:=R;obtain⟨y1,y2⟩:=S;obtain⟨z1,z2⟩:=u;go_wp2_with fail
   apply MU (λW=>Bw wr W)
   .intro K2 HK2
    go_region_with (go_at_call 169;refine(m.out _).mono ?_;rintro e w2 ⟨rfl,q⟩;have a4:=(q.cell (p:=⟨B,off+k,none⟩) U).trans ch)
    all_goals exact HK2.out _ ((Below.refl _ _).drew.trans q)
   intro W Y;have g:=(Y.block _ a2).trans HT.out;have f:=(Y.block _ (by omega)).trans HR.out;have ct:=(cell_of_row _ _ k _ _ _ g).trans (Ic _ k (by omega));have ft:=frozen_of_row _ _ k _ _ g;have T:Bw w W:=HB.out.trans (Y.mono HB.out.size);clear E F G H I ch;generalize (IE (V+leN s) k).getD k 0=c0 at ct;go_wp2
   go_roundw
   case rel =>
    refine⟨k+1,by omega,by go_num,?_,?_,?_,?_⟩
    .rw[d.out]
    .exact(heap_setCell_other _ _ _ _ (by simp)).trans f
    .have O:=G7 g k (AI (V+leN s) k);rw[Q.out,<- c.out]at O
     exact O
    .exact T.setCell (p:=⟨w.heap.size+1,k,none⟩) (by simp) _
   case measure=>simp[intOf];omega
  .have hki:¬ (k:Int)<16:=by omega
   have HK:Hid (k=16):=by unfold Hid;omega
   go_wp2
   go_ret;have hK:=HK.out;subst hK;rw[ZV]at g
   exact⟨_,rfl,Sl.rowOf g (Dw _ _) (by rw[Dw];omega) (Is _ _),P⟩
def W7(key data:List Int):List Int:=leB 16 (fI (leN (DK (key.take 16))) data+leN (key.drop 16))
theorem QR(key a:List Int):(W7 key a).length=16:=Dw _ _
theorem W8(key a:List Int):∀ x∈W7 key a,0<=x/\x<256:=Is _ _
theorem Sl.rP(h:Sl w v l):∃ a c,v=.slice a l.length c:=by
 obtain⟨⟨a,b,e,_⟩,_⟩:=h;exact⟨a,b,e⟩
theorem iJ(r q:Value)(key a:List Int)(w:World)(g:Sl w r key)(m:Sl w q a)(lk:key.length=32)(B:a.length<=4000) :
  Calls prog 106 #[r,q] w λe w'=>∃ v',e=.returned (.tuple #[v',.int .i64 0])/\Sl w' v' (W7 key a)/\Bw w w':=by
 obtain⟨k,l,rfl⟩:=g.rP;obtain⟨ad,K,rfl⟩:=m.rP;rw[lk]at g ⊢
 obtain⟨s,u,c,o⟩:=g.qo 16 (by omega);obtain⟨t,v,d,p⟩:=g.from 16 (by omega);have x:∀ W,(Instr.slice 26 (.slice k 32 l) none (some (.int .i64 16)) none).run prog W=.ok (.slice s 16 u) W:=c;have y:∀ W,(Instr.slice 26 (.slice k 32 l) (some (.int .i64 16)) none none).run prog W=.ok (.slice t 16 v) W:=d;clear c d;have lt:(key.take 16).length=16:=by rw[Z'];omega
 have n:(key.drop 16).length=16:=by rw[lZ];omega
 have C:¬ (4000:Int)<(a.length:Int):=by omega
 have h:Hid (W7 key a=leB 16 (fI (leN (DK (key.take 16))) a+leN (key.drop 16))):=rfl;generalize key.take 16=K1 at o lt h;generalize key.drop 16=K2 at p n h;clear g lk;have j:Hid (a.length<=4000):=B;go_enter func106,ntmps106
 go_wp2_with fail
 go_region_with (first
  | (go_at_call 142;refine(RQ _ K1 _ (o.af ((Below.refl _ _).drew)) lt).mono ?_;rintro e L ⟨E,rfl,z,G,b⟩)
  | (go_at_call 141;refine(O8 E (leN (DK K1)) _ a _ (m.af ((Below.refl _ _).drew.trans b)) j.out z G).mono ?_;rintro e J ⟨D,rfl,A,H,f⟩)
  | (go_at_call 140;refine(Pi D _ K2 _ (p.af (((Below.refl _ _).drew.trans b).trans (f.mono b.size))) n A).mono ?_;rintro e M ⟨I,rfl,F,i⟩))
 all_goals
  go_wp2
  go_ret2
  refine⟨I,rfl,?_,?_⟩
  .rw[h.out,<- H];exact F
  .have b3:Bw w J:=((Below.refl _ _).drew.trans b).trans (f.mono b.size);exact b3.trans (i.mono b3.size)
def gap(n:Nat):Nat:=(16-n%16)%16
def Eu(l:List Int):List Int:=l++List.replicate (gap l.length) 0
theorem E5(l:List Int):(Eu l).length=l.length+gap l.length:=by rw[Eu,H',nu]
theorem Hm(n:Nat):gap n<16:=by unfold gap;omega
theorem TX(n:Nat):(n+gap n)%16=0:=by unfold gap;omega
theorem Vw(n j:Nat)(h:j<gap n):¬ (n+j)%16=0:=by unfold gap at h;omega
theorem bY(n m:Nat)(h:n%16=0):gap (n+m)=gap m:=by unfold gap;omega
theorem NO(h:∀ x∈l,0<=x/\x<256):∀ x∈Eu l,0<=x/\x<256:=by
 intro x a;rcases U'.1 a with h1|h1
 .exact h x h1
 .rw[(oL.1 h1).2];omega
theorem Za(a s:List Int):Eu (Eu a++s)=Eu a++Eu s:=by
 have h:(Eu a).length%16=0:=by rw[E5];exact TX _
 rw[Eu,H',bY _ _ h,lY];rfl
theorem Y2(k:Nat)(v:Int):leB (k+1) v=leB k v++[AI v k]:=by
 simp[leB,List.range_succ]
def Gc(a s:List Int):List Int:=Eu a++Eu s++leB 8 (a.length:Int)++leB 8 (s.length:Int)
theorem Ir(a s:List Int):(Gc a s).length=a.length+gap a.length+(s.length+gap s.length)+8+8:=by
 simp only[Gc,H',E5,Dw]
theorem Sm{s:List Int}(b:∀ x∈a,0<=x/\x<256)(c:∀ x∈s,0<=x/\x<256):∀ x∈Gc a s,0<=x/\x<256:=by
 intro x hx;rcases U'.1 hx with hx|hx
 .rcases U'.1 hx with hx|hx
  .rcases U'.1 hx with hx|hx
   .exact NO b x hx
   .exact NO c x hx
  .exact Is _ _ x hx
 .exact Is _ _ x hx
def DR(key nonce a s:List Int):List Int:=W7 ((CA (BU key (BitVec.ofNat 32 0) nonce)).take 32) (Gc a s)
theorem IA(key b a s:List Int):(DR key b a s).length=16:=QR _ _
theorem Ma(key b a s:List Int):∀ x∈DR key b a s,0<=x/\x<256:=W8 _ _
def Dt(key nonce p:List Int):List Int:=Kr (BU key (BitVec.ofNat 32 1) nonce) p
theorem Cw(key a p:List Int):(Dt key a p).length=p.length:=CY _ _
def Ds(key nonce a p:List Int):List Int:=Dt key nonce p++DR key nonce a (Dt key nonce p)
theorem F7(key b a p:List Int):(Ds key b a p).length=p.length+16:=by
 rw[Ds,H',Cw,IA]
theorem Kb(v:Value)(l:List Int)(B:Nat)(w:World)(p:w.ownsRow B 5 1 v l.length (l.map (Value.int .u8)))(E:B<=w.heap.size)(J:l.length<=100000) :
  Calls prog 143 #[v] w λe w'=>∃ v',e=.returned v'/\w'.ownsRow B 5 1 v' (Eu l).length ((Eu l).map (Value.int .u8))/\Below B w w':=by
 have r:Hid (Eu l=l++List.replicate (gap l.length) 0):=rfl;have F:=Hm l.length;have s:Hid (∀ j,j<gap l.length->¬ (l.length+j)%16=0):=λj x=>Vw _ _ x;have q:Hid ((l.length+gap l.length)%16=0):=TX _;obtain⟨a0,A,rfl⟩:=E4 p;generalize gap l.length=G at r F s q;go_enter func143,ntmps143
 go_wp2_with fail
 go_loopw [0] (λv wr=>∃ (j:Nat) (a:Option Addr) (f:Nat),j<=G/\v=.slice a (l.length+j) f/\wr.ownsRow B 5 1 v (l++List.replicate j 0).length ((l++List.replicate j 0).map (Value.int .u8))/\Below B w wr) (λv _=>l.length+G-Y6 v)
 case atStart=>exact⟨0,a0,A,by omega,rfl,by simpa using p,Below.refl _ _⟩
 case round =>
  clear p;obtain⟨j,a,f,x,rfl,b,d⟩:=hrel;have h:=b.lt;by_cases o:j<G
  .have t:=s.out j o;have u:¬ ((l.length:Int)+j)%16=0:=by omega
   go_wp2_with (at_builtin;refine Aa _ rfl _ _ 26 rfl B 5 underlying26 Av _ _ rfl rfl (l++List.replicate j 0) [0] (b.alloc _) (Sl.one _ _ _ rfl (by omega)) (by simp;omega) (by have:=d.size;simp;omega) ?_)
   intro I y i g;have c:y.ownsRow B 5 1 I (l++List.replicate (j+1) 0).length ((l++List.replicate (j+1) 0).map (Value.int .u8)):=by rw[<- LV];simpa using i
   have n:Below B w y:=(d.alloc (lS E d.size) _).grown g (by have:=d.size;simp;omega) (λk H=>(h k H).1);obtain⟨z,C,m⟩:=E4 c;rw[H',nu]at m
   subst m;clear i g b h d t u;go_wp2
   go_roundw
   case rel=>exact⟨j+1,z,C,by omega,rfl,c,n⟩
   case measure=>simp[Y6];omega
  .have HJ:Hid (G=j):=by unfold Hid;omega
   have D:=q.out;have t:((l.length:Int)+j)%16=0:=by have:=HJ.out;omega
   have u:(((l.length:Int)+j)%16 != 0)=false:=by simp;omega
   clear D;go_wp2
   go_ret;refine⟨_,rfl,?_,d⟩;rw[r.out,HJ.out];exact b
theorem G0(v:Value)(l:List Int)(n:Nat)(B:Nat)(w:World)(r:w.ownsRow B 5 1 v l.length (l.map (Value.int .u8)))(A:B<=w.heap.size)(G:l.length<=100000)(H:n<=100000) :
  Calls prog 144 #[v,.int .i64 n] w λe w'=>∃ v',e=.returned v'/\w'.ownsRow B 5 1 v' (l++leB 8 (n:Int)).length ((l++leB 8 (n:Int)).map (Value.int .u8))/\Below B w w':=by
 go_enter func144,ntmps144
 go_wp2_with fail
 go_loopw [0,1,5] (λv s i wr=>∃ k:Nat,k<=8/\i=.int .i64 k/\s=.int .i64 ((n:Int)/256^k)/\wr.ownsRow B 5 1 v (l++leB k (n:Int)).length ((l++leB k (n:Int)).map (Value.int .u8))/\Below B w wr) (λ_ _ i _=>8-(intOf i).toNat)
 case atStart=>exact⟨0,by omega,rfl,by simp,by simpa[leB]using r,Below.refl _ _⟩
 case round =>
  clear r;obtain⟨k,q,rfl,rfl,a,c⟩:=hrel;have h:=a.lt;by_cases C:k<8
  .have hki:(k:Int)<8:=by omega
   obtain⟨x,d⟩:∃ x:Int,(n:Int)/256^k=x:=⟨_,rfl⟩;have t:(0:Int)<256^k:=LJ k;have D:0<=x:=by rw[<- d];exact Int.ediv_nonneg (by omega) (by omega)
   have E:x<=100000:=by rw[<- d];have:=Int.ediv_le_self (256^k) (show(0:Int)<=n by omega);omega
   have z:Hid ((n:Int)/256^(k+1)=x/256):=by unfold Hid;rw[pj,<- oT (oI t),d]
   have b:Hid (x%256=AI n k):=by unfold Hid AI;rw[d]
   have g:=Dw k (n:Int);have o:Hid (leB (k+1) (n:Int)=leB k n++[AI n k]):=Y2 k _;rw[d];clear d t;generalize leB k (n:Int)=pre at a o g;generalize AI (n:Int) k=y at b o;go_wp2_with (at_builtin;refine Aa _ rfl _ _ 26 rfl B 5 underlying26 Av _ _ rfl rfl (l++pre) [y] (a.alloc _) (Sl.sq _ _ _ _ rfl ?_ ?_) (by simp;omega) (by have:=c.size;simp;omega) ?_)
   .have:=b.out;omega
   .have:=b.out;omega
   intro F u j f;have m:u.ownsRow B 5 1 F (l++(pre++[y])).length ((l++(pre++[y])).map (Value.int .u8)):=by rw[<- lY];simpa[g]using j
   have p:Below B w u:=(c.alloc (lS A c.size) _).grown f (by have:=c.size;simp;omega) (λk q=>(h k q).1);clear j f a h c;go_wp2
   go_roundw
   case rel=>exact⟨k+1,by omega,by go_num,by rw[z.out],by rw[o.out];exact m,p⟩
   case measure=>simp[intOf];omega
  .obtain rfl:k=8:=by omega
   go_wp2
   go_ret;exact⟨_,rfl,a,c⟩
theorem Yz(O P:Value)(a s:List Int)(w:World)(z:Sl w O a)(B:Sl w P s)(U:a.length<=10000)(V:s.length<=10000) :
  Calls prog 107 #[O,P] w λe w'=>∃ v',e=.returned v'/\Sl w' v' (Gc a s)/\Bw w w':=by
 have f:Hid (Gc a s=Eu (Eu a++s)++leB 8 (a.length:Int)++leB 8 (s.length:Int)):=by unfold Hid;rw[Za];rfl
 have R:Hid (∀ x∈Gc a s,0<=x/\x<256):=Sm z.byte B.byte;have Q:Hid ((Gc a s).length<=30000):=by unfold Hid;rw[Ir];have:=Hm a.length;have:=Hm s.length;omega
 have H:(Eu a).length<=11000:=by rw[E5];have:=Hm a.length;omega
 have i:(Eu (Eu a++s)).length<=30000:=by rw[E5,H'];have:=Hm ((Eu a).length+s.length);omega
 obtain⟨aa,ca,rfl⟩:=z.shape;obtain⟨S,cs,rfl⟩:=B.shape;generalize L:a.length=n at U f z ⊢;generalize K:s.length=m at V f B ⊢;have l:Hid (a.length=n):=L;have j:Hid (s.length=m):=K;clear L K;go_enter func107,ntmps107
 go_wp2_with (at_builtin;refine Aa _ rfl _ _ 26 rfl w.heap.size 5 underlying26 Av _ _ rfl rfl [] a (World.ownsRow_nil _ _ _ _) z (by have:=l.out;simp;omega) (A' _) ?_)
 intro M I c p;have C:Bw w I:=(Below.refl _ _).grown p (A' _) (by simp[Value.ownBlock]);replace c:I.ownsRow w.heap.size 5 1 M a.length (a.map (Value.int .u8)):=by simpa using c
 clear p;go_wp2_with fail
 refine(Kb M a w.heap.size I c C.size (by have:=l.out;omega)).mono ?_;rintro e w2 ⟨v2,rfl,d,g⟩;replace g:=C.trans g;clear c C;have v:=B.af g;have r:=d.lt;generalize Eu a=A at f H i d;go_wp2_with (at_builtin;refine Aa _ rfl _ _ 26 rfl w.heap.size 5 underlying26 Av _ _ rfl rfl A s d v (by have:=j.out;omega) g.size ?_)
 intro N J b q;have D:Bw w J:=g.grown q g.size (λk T=>(r k T).1);clear q r d g v;replace b:J.ownsRow w.heap.size 5 1 N (A++s).length ((A++s).map (Value.int .u8)):=by simpa using b
 have F:(A++s).length<=21000:=by rw[H'];have:=j.out;omega
 generalize A++s=AS at f i b F;go_wp2_with fail
 refine(Kb N AS w.heap.size J b D.size (by omega)).mono ?_;rintro e Z ⟨W,rfl,h,o⟩;replace o:=D.trans o;clear b D;generalize Eu AS=X at f i h;go_wp2_with fail
 refine(G0 W X n w.heap.size Z h o.size (by omega) (by omega)).mono ?_;rintro e w5 ⟨Y,rfl,t,y⟩;replace y:=o.trans y;have G:(X++leB 8 (n:Int)).length<=30008:=by rw[H',Dw];omega
 clear h o;generalize X++leB 8 (n:Int)=X5 at f G t;go_wp2_with fail
 refine(G0 Y X5 m w.heap.size w5 t y.size (by omega) (by omega)).mono ?_;rintro e w6 ⟨v6,rfl,u,E⟩;replace E:=y.trans E;rw[<- f.out]at u
 go_wp2
 go_ret;exact⟨_,rfl,Sl.qi u (by have:=Q.out;omega) R.out,E⟩
def Fo(key nonce a:List Int):Bool:=decide (key.length=32)&&decide (nonce.length=12)&&decide (a.length<=256)
theorem GD(h i g:Value)(key b a:List Int)(w:World)(d:Sl w h key)(f:Sl w i b)(c:Sl w g a) :
  Calls prog 64 #[h,i,g] w λe w'=>e=.returned (.bool (Fo key b a))/\w'=w:=by
 have j:=d.len;have k:=f.len;have l:=c.len;obtain⟨n,r,rfl⟩:=d.shape;obtain⟨o,s,rfl⟩:=f.shape;obtain⟨m,q,rfl⟩:=c.shape;unfold Fo;generalize key.length=n1 at j d ⊢;generalize b.length=n2 at k f ⊢;generalize a.length=n3 at l c ⊢;clear d f c;by_cases p:(n1:Int)=32
 .by_cases c2:(n2:Int)=12
  .by_cases c3:(n3:Int)<=256
   .go_enter func64,ntmps64
    go_wp2
    go_ret;refine⟨Aw ?_,rfl⟩;simp;omega
   .go_enter func64,ntmps64
    go_wp2
    go_ret;refine⟨Aw ?_,rfl⟩;simp;omega
  .go_enter func64,ntmps64
   go_wp2
   go_ret;refine⟨Aw ?_,rfl⟩;simp;omega
 .go_enter func64,ntmps64
  go_wp2
  go_ret;refine⟨Aw ?_,rfl⟩;simp;omega
theorem Xj(b d:Value)(key a:List Int)(x:Int)(c:Nat)(j:x=(c:Int))(w:World)(g:Sl w b key)(h:Sl w d a)(lk:key.length=32)(k:a.length=12)(f:c<=1073741824)(i:Df w) :
  Calls prog 105 #[b,.int .i64 x,d] w λe w'=>∃ v',e=.returned (.tuple #[v',.int .i64 0])/\Got w w' v' (CA (BU key (BitVec.ofNat 32 c) a)):=by
 subst j;exact Xk b d key a c w g h lk k f i
theorem Pd(u v D E:Value)(key b a s:List Int)(w:World)(y:Sl w u key)(z:Sl w v b)(x:Sl w D a)(A:Sl w E s)(lk:key.length=32)(B:b.length=12)(M:a.length<=256)(N:s.length<=2000)(L:Df w) :
  Calls prog 66 #[u,v,D,E] w λe w'=>∃ v',e=.returned (.tuple #[v',.int .i64 0])/\Sl w' v' (DR key b a s)/\Bw w w':=by
 have o:Hid (DR key b a s=W7 ((CA (BU key (BitVec.ofNat 32 0) b)).take 32) (Gc a s)):=rfl;have g:(Gc a s).length<=4000:=by rw[Ir];have:=Hm a.length;have:=Hm s.length;omega
 go_enter func66,ntmps66
 go_wp2_with fail
 refine(Xj u v key b 0 0 rfl w y z lk B (by omega) L).mono ?_;rintro e T ⟨S,rfl,p⟩;have j:=p.sl;have k:=p.sa;clear p;have d:=EA (BU key (BitVec.ofNat 32 0) b);generalize CA (BU key (BitVec.ofNat 32 0) b)=bs at o j d;obtain⟨G,I,rfl⟩:=j.shape;rw[d]at j ⊢
 obtain⟨F,H,c,C⟩:=j.qo 32 (by omega);have J:∀ W,(Instr.slice 26 (.slice G 64 I) none (some (.int .i64 32)) none).run prog W=.ok (.slice F 32 H) W:=c;have lt:(bs.take 32).length=32:=by rw[Z'];omega
 generalize bs.take 32=K at o C lt;have q:=x.af k;have t:=A.af k;clear c j d;have h:a.length<=10000:=by omega
 have i:s.length<=10000:=by omega
 have l:Hid (a.length<=10000):=h;have n:Hid (s.length<=10000):=i;have m:Hid ((Gc a s).length<=4000):=g;clear M N h i g y z x A lk B;go_wp2_with fail
 go_region_with (first
  | (go_at_call 107;refine(Yz _ _ a s _ (q.af ((Below.refl _ _).drew)) (t.af ((Below.refl _ _).drew)) l.out n.out).mono ?_;rintro e Q ⟨R,rfl,O,f⟩)
  | (go_at_call 106;refine(iJ _ _ K _ _ (C.af ((Below.refl _ _).drew.trans f)) O lt m.out).mono ?_;rintro e U ⟨P,rfl,s3,r⟩))
 all_goals
  go_wp2
  go_ret2
  refine⟨P,rfl,?_,?_⟩
  .rw[o.out];exact s3
  .have b2:Bw w Q:=k.trans (((Below.refl _ _).drew.trans f).mono k.size);exact b2.trans (r.mono b2.size)
theorem Qh(c f b:Value)(key a d:List Int)(w:World)(h:Sl w c key)(i:Sl w f a)(g:Sl w b d)(lk:key.length=32)(l:a.length=12)(k:d.length<=2000)(j:Df w) :
  Calls prog 65 #[c,.int .i64 1,f,b] w λe w'=>∃ v',e=.returned (.tuple #[v',.int .i64 0])/\w'.ownsRow w.heap.size 5 1 v' (Dt key a d).length ((Dt key a d).map (Value.int .u8))/\Bw w w' :=
 cS c f b key a d 1 w h i g lk l (by omega) k j
def NwV(B:Nat)(v:Value):Prop:=∀ a n c,v=.slice (some a) n c->B<=a.block
theorem NwV.own{B k:Nat}(h:w.ownsRow B e k v n xs):NwV B v:=λa m c e=>(h.lt a.block (by rw[e];rfl)).1
theorem SG(h:w.ownsRow base e 1 v n xs)(a:Bw w w'):w'.ownsRow base e 1 v n xs :=
 ES h λk b=>a.block k (h.lt k b).2
theorem Jf(h:Fo key nonce a=true):key.length=32/\nonce.length=12/\a.length<=256:=by
 unfold Fo at h;simp at h;omega
theorem Zv(o q v K:Value)(key b a p:List Int)(w:World)(i:Sl w o key)(s:Sl w q b)(A:Sl w v a)(t:Sl w K p)(E:Fo key b a=true)(U:p.length<=2000)(D:Df w) :
  Calls prog 40 #[o,q,v,K] w λe w'=>∃ v',e=.returned (.tuple #[v',.int .i64 0])/\Sl w' v' (Ds key b a p)/\NwV w.heap.size v'/\Bw w w':=by
 obtain⟨lk,F,S⟩:=Jf E;have j:=D.pos;have y:Hid (Ds key b a p=Dt key b p++DR key b a (Dt key b p)):=rfl;have n:=Cw key b p;have g:∀ x∈Dt key b p,0<=x/\x<256:=Jk _ t.byte;have Q:¬ (2000:Int)<(p.length:Int):=by omega
 obtain⟨ap,W,rfl⟩:=t.shape;go_enter func40,ntmps40
 go_wp2_with fail
 refine(GD o q v key b a w i s A).mono ?_;rintro e r ⟨rfl,rfl⟩;rw[E];go_wp2_with fail
 refine(Qh o q _ key b p r i s t lk F U D).mono ?_;rintro e M ⟨L,rfl,u,d⟩;generalize Dt key b p=X at y n g u;have H:Sl M L X:=Sl.qi u (by omega) g;go_wp2_with fail
 refine(Pd o q v L key b a X M (i.af d) (s.af d) (A.af d) H lk F S (by omega) (D.af j d)).mono ?_;rintro e V ⟨Y,rfl,I,z⟩;have G:=SG u z;have C:=G.lt;have f:Bw r V:=d.trans (z.mono d.size);have m:=IA key b a X;have l:=Ma key b a X;generalize DR key b a X=T at y I m l;have P:X.length<=2000:=by omega
 clear n u H d z i s A t;go_wp2_with (at_builtin;refine Aa _ rfl _ _ 26 rfl r.heap.size 5 underlying26 Av _ _ rfl rfl X T G I (by omega) f.size ?_)
 intro J N c B;replace c:N.ownsRow r.heap.size 5 1 J (X++T).length ((X++T).map (Value.int .u8)):=by simpa[m]using c
 have O:Bw r N:=f.grown B f.size (λk i=>(C k i).1);go_wp2
 go_ret2
 refine⟨J,rfl,?_,.own c,O⟩;rw[y.out];refine Sl.qi c (by rw[H'];omega) ?_;intro x R;rcases U'.1 R with h|h
 .exact g x h
 .exact l x h
def dif(la lb:List Int):Nat->Int
 | 0=>0
 | k+1=>bits .or .u8 (dif la lb k) (bits .xor .u8 (la.getD k 0) (lb.getD k 0))
theorem kU{a b:Nat}:a ||| b=0↔a=0/\b=0:=by
 constructor
 .intro h;have c:∀ i,(a ||| b).testBit i=false:=by intro i;rw[h];simp
  constructor
  .apply pu;intro i;have:=c i;rw[Nat.testBit_or]at this;simp at this;simp[this.1]
  .apply pu;intro i;have:=c i;rw[Nat.testBit_or]at this;simp at this;simp[this.2]
 .rintro⟨rfl,rfl⟩;rfl
theorem kM{a b:Nat}:a ^^^ b=0↔a=b:=by
 constructor
 .intro h;have c:∀ i,(a ^^^ b).testBit i=false:=by intro i;rw[h];simp
  apply pu;intro i;have:=c i;rw[Nat.testBit_xor]at this;simpa using this
 .rintro rfl;simp
theorem XA(q:∀ x∈la,0<=x/\x<256)(r:∀ x∈lb,0<=x/\x<256)(k:Nat) :
  0<=dif la lb k/\dif la lb k<256/\(dif la lb k=0↔∀ i,i<k->la.getD i 0=lb.getD i 0):=by
 induction k with
 | zero=>simp[dif]
 | succ k ih =>
  obtain⟨l,m,o⟩:=ih;have d:=Ak q k;have e:=Ak r k;have f:=u8_xor _ _ d.1 d.2 e.1 e.2;have b:(la.getD k 0).toNat ^^^ (lb.getD k 0).toNat<256:=oM (n:=8) (by omega) (by omega);have g:=u8_or (dif la lb k) (((la.getD k 0).toNat ^^^ (lb.getD k 0).toNat:Nat):Int) l m (by omega) (by omega);have a:dif la lb (k+1)=(((dif la lb k).toNat ||| ((la.getD k 0).toNat ^^^ (lb.getD k 0).toNat):Nat):Int):=by
   show bits .or .u8 (dif la lb k) (bits .xor .u8 (la.getD k 0) (lb.getD k 0))=_;rw[f,g];simp
  have c:(dif la lb k).toNat ||| ((la.getD k 0).toNat ^^^ (lb.getD k 0).toNat)<256:=Nat.or_lt_two_pow (n:=8) (by omega) b;refine⟨by rw[a];omega,by rw[a];omega,?_⟩;have j:dif la lb (k+1)=0↔dif la lb k=0/\la.getD k 0=lb.getD k 0:=by
   rw[a];have:=@kU (dif la lb k).toNat ((la.getD k 0).toNat ^^^ (lb.getD k 0).toNat);have p:=@kM (la.getD k 0).toNat (lb.getD k 0).toNat;rw[p]at this
   constructor
   .intro h;have:=this.1 (by omega);omega
   .intro h;have:=this.2 (by omega);omega
  rw[j,o];constructor
  .intro h i s;rcases mN i k with h'|h'
   .exact h.1 i h'
   .obtain rfl:i=k:=by omega
    exact h.2
  .intro h;exact⟨λi s=>h i (by omega),h k (by omega)⟩
theorem bC(c:∀ x∈la,0<=x/\x<256)(d:∀ x∈lb,0<=x/\x<256)(e:la.length=lb.length):(dif la lb lb.length==0)=decide (la=lb):=by
 rw[Bool.eq_iff_iff,decide_eq_true_iff,beq_iff_eq,(XA c d _).2.2];constructor
 .intro h;apply ol e;intro i b a;have:=h i a
  rwa [AK b,AK a]at this
 .rintro rfl _ _;rfl
theorem I7(r s:Value)(f c:List Int)(w:World)(v:Sl w r f)(x:Sl w s c) :
  Calls prog 181 #[r,s] w λe w'=>e=.returned (.bool (decide (f=c)))/\∃ n,w'=w.drewN n:=by
 obtain⟨⟨a,t,rfl,C,E,u⟩,z,g⟩:=v;obtain⟨⟨b,q,rfl,y,B,m⟩,A,h⟩:=x;by_cases l:f.length=c.length
 .rcases u with rfl|⟨ba,oa,rfl,_,hca⟩
  .obtain rfl:c=[]:=Y' (by simpa using l.symm);go_enter func181,ntmps181
   go_wp2
   refine wp_loop_rounds 1 ?_;rw[rounds_succ];go_wp2
   go_ret;exact⟨rfl,0,rfl⟩
  .rcases m with rfl|⟨bb,ob,rfl,_,hcb⟩
   .obtain rfl:f=[]:=Y' (by simpa using l);go_enter func181,ntmps181
    go_wp2
    refine wp_loop_rounds 1 ?_;rw[rounds_succ];go_wp2
    go_ret;exact⟨rfl,0,rfl⟩
   .have HD:Hid ((dif f c c.length==0)=decide (f=c)):=bC g h l;go_enter func181,ntmps181
    go_wp2
    go_loopw [5,14] (λd i wr=>∃ k n:Nat,k<=c.length/\i=.int .i64 k/\d=.int .u8 (dif f c k)/\wr=w.drewN n) (λ_ i _=>c.length-(intOf i).toNat)
    case atStart=>exact⟨0,0,mA _,rfl,rfl,rfl⟩
    case round =>
     obtain⟨k,n,D,rfl,rfl,rfl⟩:=hrel;by_cases j:k<c.length
     .have hx:=hca k (by omega);have F:=hcb k j;clear hca hcb g h;have p:k<f.length:=by omega
      go_wp2
      go_quiet (fail)
      go_wp2
      go_roundw
      case rel=>exact⟨k+1,_,by omega,by go_num,by simp only[dif,AK p,AK j],rfl⟩
      case measure=>simp[intOf];omega
     .obtain rfl:k=c.length:=by omega
      clear hca hcb;go_wp2
      go_ret;exact⟨Aw HD.out,n,rfl⟩
 .have hne:((f.length:Int)==(c.length:Int))=false:=by simp;omega
  have o:decide (f=c)=false:=E' (λe=>l (by rw[e]));go_enter func181,ntmps181
  go_wp2
  go_ret;exact⟨Aw o.symm,0,rfl⟩
def DO(key nonce a d:List Int):Int :=
 if Fo key nonce a=true/\d.length<=2016 then(if d.length<16 then 13 else if DR key nonce a (d.take (d.length-16))=d.drop (d.length-16)then 0 else 6)else 1
def LH(key nonce a d:List Int):List Int:=if DO key nonce a d=0 then Dt key nonce (d.take (d.length-16))else[]
theorem dg(g i f o:Value)(key b a d:List Int)(w:World)(m:Sl w g key)(n:Sl w i b)(k:Sl w f a)(l:Sl w o d)(j:Fo key b a=false\/2016<d.length) :
  Calls prog 203 #[g,i,f,o] w λe w'=>e=.returned (.tuple #[.slice none 0 0,.int .i64 1])/\w'=w:=by
 have r:=l.len;obtain⟨ap,q,rfl⟩:=l.shape;by_cases c:Fo key b a=true
 .have hpl:(2016:Int)<(d.length:Int):=by
   rcases j with h|h
   .rw[c]at h;cases h
   .omega
  go_enter func203,ntmps203
  go_wp2_with fail
  refine(GD g i f key b a w m n k).mono ?_;rintro e p ⟨rfl,rfl⟩;rw[c];go_wp2
  go_ret2
  exact⟨rfl,rfl⟩
 .rw[Bool.not_eq_true]at c
  go_enter func203,ntmps203
  go_wp2_with fail
  refine(GD g i f key b a w m n k).mono ?_;rintro e p ⟨rfl,rfl⟩;rw[c];go_wp2
  go_ret2
  exact⟨rfl,rfl⟩
theorem SA(f g c h:Value)(key b a d:List Int)(w:World)(l:Sl w f key)(m:Sl w g b)(i:Sl w c a)(j:Sl w h d)(k:Fo key b a=true)(p:d.length<16) :
  Calls prog 203 #[f,g,c,h] w λe w'=>e=.returned (.tuple #[.slice none 0 0,.int .i64 13])/\w'=w:=by
 obtain⟨ap,o,rfl⟩:=j.shape;have n:(d.length:Int)<16:=by omega
 go_enter func203,ntmps203
 go_wp2_with fail
 refine(GD f g c key b a w l m i).mono ?_;rintro e q ⟨rfl,rfl⟩;rw[k];go_wp2
 go_ret2
 exact⟨rfl,rfl⟩
theorem YW(r s q H:Value)(key b a d:List Int)(w:World)(l:Sl w r key)(n:Sl w s b)(k:Sl w q a)(f:Sl w H d)(E:Fo key b a=true)(m:Nat)(F:d.length=m+16)(W:m<=2000)(o:Df w)(G:DR key b a (d.take m)≠d.drop m) :
  Calls prog 203 #[r,s,q,H] w λe w'=>e=.returned (.tuple #[.slice none 0 0,.int .i64 6])/\Bw w w':=by
 obtain⟨lk,N,M⟩:=Jf E;have h:=o.pos;have i:=f.byte;obtain⟨ad,V,rfl⟩:=f.shape;rw[F]at f ⊢
 obtain⟨R,T,A,p⟩:=f.qo m (by omega);obtain⟨S,U,g,j⟩:=f.from m (by omega);rw[Nat.add_sub_cancel_left]at g j
 have B:(d.take m).length=m:=by rw[Z'];omega
 have Q:∀ x∈d.take m,0<=x/\x<256:=λx K=>i x (mh K);have y:Hid (DR key b a (d.take m)≠d.drop m):=G;clear G;generalize d.take m=D at p B Q y ⊢;generalize d.drop m=L at j y;have v:Hid (D.length=m):=B;clear f F i B;go_enter func203,ntmps203
 go_wp2_with fail
 refine(GD r s q key b a w l n k).mono ?_;rintro e t ⟨rfl,rfl⟩;rw[E];go_wp2_with fail
 go_quiet (fail)
 have c:Bw t (t.drewN nq):=Ap (Below.refl _ _) nq;generalize t.drewN nq=w1 at c ⊢;replace l:=l.af c;replace n:=n.af c;replace k:=k.af c;replace p:=p.af c;replace j:=j.af c;replace o:=o.af h c;clear A g;go_wp2_with fail
 refine(Pd r s q _ key b a D w1 l n k p lk N M (by have:=v.out;omega) o).mono ?_;rintro e u ⟨P,rfl,O,z⟩;go_wp2_with fail
 refine(I7 P _ (DR key b a D) L u O (j.af z)).mono ?_;rintro e X ⟨rfl,C,rfl⟩;have I:Bw u (u.drewN C):=Ap (Below.refl _ _) C;have J:Bw t (u.drewN C):=c.trans ((z.trans (I.mono z.size)).mono c.size);rw[E' y.out];go_wp2
 go_ret2
 exact⟨rfl,J⟩
theorem dh(B C F S:Value)(key b a d:List Int)(w:World)(g:Sl w B key)(h:Sl w C b)(u:Sl w F a)(p:Sl w S d)(N:Fo key b a=true)(m:Nat)(O:d.length=m+16)(hl:m<=2000)(j:Df w)(P:DR key b a (d.take m)=d.drop m) :
  Calls prog 203 #[B,C,F,S] w λe w'=>∃ v',e=.returned (.tuple #[v',.int .i64 0])/\Sl w' v' (Dt key b (d.take m))/\NwV w.heap.size v'/\Bw w w':=by
 obtain⟨lk,Q,la⟩:=Jf N;have i:=j.pos;have z:=p.byte;obtain⟨ad,cd,rfl⟩:=p.shape;rw[O]at p ⊢
 obtain⟨a1,c1,I,k⟩:=p.qo m (by omega);obtain⟨a2,c2,v,q⟩:=p.from m (by omega);rw[Nat.add_sub_cancel_left]at v q
 have J:(d.take m).length=m:=by rw[Z'];omega
 have V:∀ x∈d.take m,0<=x/\x<256:=λx Y=>z x (mh Y);have G:Hid (DR key b a (d.take m)=d.drop m):=P;clear P;generalize d.take m=D at k J V G ⊢;generalize d.drop m=L at q G;have l:Hid (D.length=m):=J;clear p O z J;go_enter func203,ntmps203
 go_wp2_with fail
 refine(GD B C F key b a w g h u).mono ?_;rintro e r ⟨rfl,rfl⟩;rw[N];go_wp2_with fail
 go_quiet (fail)
 have f:Bw r (r.drewN nq):=Ap (Below.refl _ _) nq;generalize r.drewN nq=w1 at f ⊢;replace g:=g.af f;replace h:=h.af f;replace u:=u.af f;replace k:=k.af f;replace q:=q.af f;replace j:=j.af i f;clear I v;go_wp2_with fail
 refine(Pd B C F _ key b a D w1 g h u k lk Q la (by have:=l.out;omega) j).mono ?_;rintro e s ⟨vt,rfl,R,o⟩;go_wp2_with fail
 refine(I7 vt _ (DR key b a D) L s R (q.af o)).mono ?_;rintro e T ⟨rfl,A,rfl⟩;have H:Bw s (s.drewN A):=Ap (Below.refl _ _) A;have E:Bw r (s.drewN A):=f.trans ((o.trans (H.mono o.size)).mono f.size);rw[O' G.out];have t:Bw w1 (s.drewN A):=o.trans (H.mono o.size);replace g:=g.af t;replace h:=h.af t;replace k:=k.af t;replace j:=j.af (j' i f.size) t;have Z:=Cw key b D;have y:∀ x∈Dt key b D,0<=x/\x<256:=Jk _ V;clear q R u H o;generalize s.drewN A=T at g h k j E t ⊢;go_wp2_with fail
 refine(Qh B C _ key b D T g h k lk Q (by have:=l.out;omega) j).mono ?_;rintro e U ⟨M,rfl,K,W⟩;have s4:Sl U M (Dt key b D):=Sl.qi K (by have:=l.out;omega) y;have X:Bw r U:=E.trans (W.mono E.size);have n4:NwV r.heap.size M:=λa n c e=>lS E.size (NwV.own K a n c e);clear K y;go_wp2
 go_ret2
 exact⟨M,rfl,s4,n4,X⟩
theorem VS(i j f g:Value)(key c a d:List Int)(w:World)(m:Sl w i key)(n:Sl w j c)(k:Sl w f a)(l:Sl w g d)(o:Df w) :
  Calls prog 203 #[i,j,f,g] w λe w'=>∃ v',e=.returned (.tuple #[v',.int .i64 (DO key c a d)])/\Sl w' v' (LH key c a d)/\NwV w.heap.size v'/\Bw w w':=by
 unfold LH;by_cases h:Fo key c a=true/\d.length<=2016
 .by_cases h16:d.length<16
  .have hE:DO key c a d=13:=by unfold DO;rw[if_pos h,if_pos h16]
   rw[hE,if_neg (by omega)];refine(SA i j f g key c a d w m n k l h.1 h16).mono ?_;rintro e p ⟨rfl,rfl⟩;exact⟨_,rfl,Sl.nil _ _,λ_ _ _ e=>(by cases e),Below.refl _ _⟩
  .by_cases hq:DR key c a (d.take (d.length-16))=d.drop (d.length-16)
   .have hE:DO key c a d=0:=by unfold DO;rw[if_pos h,if_neg h16,if_pos hq]
    rw[hE,if_pos rfl];exact dh i j f g key c a d w m n k l h.1 (d.length-16) (by omega) (by omega) o hq
   .have hE:DO key c a d=6:=by unfold DO;rw[if_pos h,if_neg h16,if_neg hq]
    rw[hE,if_neg (by omega)];refine(YW i j f g key c a d w m n k l h.1 (d.length-16) (by omega) (by omega) o hq).mono ?_;rintro e p ⟨rfl,b⟩;exact⟨_,rfl,Sl.nil _ _,λ_ _ _ e=>(by cases e),b⟩
 .have hE:DO key c a d=1:=by unfold DO;rw[if_neg h]
  rw[hE,if_neg (by omega)];refine(dg i j f g key c a d w m n k l ?_).mono ?_
  .by_cases hf:Fo key c a=true
   .exact .inr (by have:¬ d.length<=2016:=λq=>h ⟨hf,q⟩;omega)
   .exact .inl (by simpa using hf)
  .rintro e p ⟨rfl,rfl⟩;exact⟨_,rfl,Sl.nil _ _,λ_ _ _ e=>(by cases e),Below.refl _ _⟩
theorem LY(key b a p:List Int):(Ds key b a p).take p.length=Dt key b p:=by
 rw[Ds,mn (by rw[Cw];omega),mc (by rw[Cw];omega)]
theorem Td(key b a p:List Int):(Ds key b a p).drop p.length=DR key b a (Dt key b p):=by
 have h:=Cw key b p;rw[Ds,<- h,List.drop_left]
theorem Tj(key a:List Int){p:List Int}(b:∀ x∈p,0<=x/\x<256):Dt key a (Dt key a p)=p:=VI _ b
theorem Ti(key a:List Int){p:List Int}(b:∀ x∈p,0<=x/\x<256):∀ x∈Dt key a p,0<=x/\x<256:=Jk _ b
theorem Tc(key b a:List Int){p:List Int}(c:∀ x∈p,0<=x/\x<256):∀ x∈Ds key b a p,0<=x/\x<256:=by
 intro x d;rcases U'.1 d with h|h
 .exact Ti key b c x h
 .exact Ma _ _ _ _ x h
theorem TS(lk:key.length=32)(c:nonce.length=12)(b:a.length<=256):Fo key nonce a=true:=by
 unfold Fo;simp;omega
theorem JQ(b:Fo key nonce a=true)(c:p.length<=2000):DO key nonce a (Ds key nonce a p)=0:=by
 have h:=F7 key nonce a p;unfold DO;rw[if_pos ⟨b,by omega⟩,if_neg (by omega),if_pos];rw[h,Nat.add_sub_cancel,LY,Td]
theorem S9(b:Fo key nonce a=true)(d:p.length<=2000)(c:∀ x∈p,0<=x/\x<256):LH key nonce a (Ds key nonce a p)=p:=by
 have h:=F7 key nonce a p;unfold LH;rw[if_pos (JQ b d),h,Nat.add_sub_cancel,LY,Tj key nonce c]
end
end
section
def FK(key:List Int)(n:Int)(p:List Int):List Int:=Ad n++Ds key (BX (Ad n)) (Ad n) p
theorem Dd(key:List Int)(n:Int)(p:List Int):(FK key n p).length=p.length+20:=by
 rw[FK,H',B3,F7];omega
theorem Jr(key:List Int)(n:Int)(p:List Int):(FK key n p).take 4=Ad n:=rfl
theorem NU(key:List Int)(n:Int)(p:List Int):(FK key n p).drop 4=Ds key (BX (Ad n)) (Ad n) p:=rfl
theorem Wf(key:List Int)(n:Int){p:List Int}(a:∀ x∈p,0<=x/\x<256):∀ x∈FK key n p,0<=x/\x<256:=by
 intro x b;rcases U'.1 b with h|h
 .exact AN n x h
 .exact Tc _ _ _ a x h
def Gq(key:List Int)(s t:Int)(l:List Bool)(r:List Int):Int :=
 if ¬ OkC key s t l then 5 else if 2020<r.length then 1 else if r.length<20 then 13 else if 1073741824<=Ix (r.take 4)then 2 else if YR t l (Ix (r.take 4))=true then 7
 else DO key (BX (r.take 4)) (r.take 4) (r.drop 4)
def IG(key:List Int)(r:List Int):List Int:=LH key (BX (r.take 4)) (r.take 4) (r.drop 4)
end
end Go.Proofs.YteimjcbgceckdaaGreatDoor
