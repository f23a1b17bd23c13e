/- Part 6 of the walk. -/
import Derived.StillTailTactics
import Derived.Test.YthkjeoamjgnpoaaGreatDoorZ4
import Derived.Test.YthkjeoamjgnpoaaGreatDoorZ5
set_option maxRecDepth 100000
set_option maxHeartbeats 4000000
open Go.Proofs.Tryz
set_option linter.unusedVariables false
namespace Go.Proofs.YthkjeoamjgnpoaaGreatDoor
section
open Go.RowKit
section
structure Bt(w:World)(g:Nat)(c r u:Int):Prop where
 lt:g<w.heap.size
 row:w.heap[g]?=some (.cells (tkA c r u) 32)
theorem Bt.made(w:World)(c r u:Int):Bt (w.alloc (.cells (tkA c r u) 32)) w.heap.size c r u:=⟨by simp,heap_alloc_new _ _⟩
variable{base e g n:Nat}{c k r s u v:Int}{key:List Int}{ty:TypeId}{w w':World}{xs:List Value}
theorem Bt.af(h:Bt w g c r u)(a:Bw w w'):Bt w' g c r u :=
 ⟨X' h.lt a.size,(a.block g h.lt).trans h.row⟩
theorem Jm(c r u:Int):(prog.info? 32).map (·.size)=some (tkA c r u).size:=by show _=some 3;kernel_rfl
theorem JV{a:Nat × Nat}(h:w.heap[g]?=some (.cells (tkA c r u) ty a)) :
  w.cell? ⟨g,0,none⟩=some (.int .i64 c)/\w.cell? ⟨g,1,none⟩=some (.int .i64 r)/\w.cell? ⟨g,2,none⟩=some (.int .i64 u) :=
 ⟨cell_of_row _ _ 0 _ _ _ h,cell_of_row _ _ 1 _ _ _ h,cell_of_row _ _ 2 _ _ _ h⟩
theorem J8(c r u:Int)(w:World) :
  Calls prog 23 #[.agg (tkA c r u)] w λe w'=>e=.returned (.bool (decide (Du c r u)))/\Bw w w':=by
 have b:Bw w (w.alloc (.cells (tkA c r u) 32)):=(Below.refl _ _).alloc (A' _) _;have i:=Bt.made w c r u;generalize k:w.alloc (.cells (tkA c r u) 32)=W at b i;obtain⟨l,m,n⟩:=JV i.row;clear i;go_enter func23,ntmps23
 go_wp2_with fail
 clear k;refine(Fx c 7 _).mono ?_;rintro e j ⟨rfl,rfl⟩;by_cases d:0<=c/\c<=7
 .rw[O' d];go_wp2_with fail
  refine(Fx r 7 _).mono ?_;rintro e j ⟨rfl,rfl⟩;by_cases f:0<=r/\r<=7
  .rw[O' f];go_wp2_with fail
   refine(Fx u 1048576 _).mono ?_;rintro e j ⟨rfl,rfl⟩;by_cases h:0<=u/\u<=1048576
   .rw[O' h];have a:Hid (true=decide (Du c r u)):=(O' ⟨d,f,h⟩).symm;go_wp2
    go_ret;exact⟨Ay a.out,b⟩
   .rw[H' h];have a:Hid (false=decide (Du c r u)):=(H' (λg=>h g.2.2)).symm;go_wp2
    go_ret;exact⟨Ay a.out,b⟩
  .rw[H' f];have a:Hid (false=decide (Du c r u)):=(H' (λg=>f g.2.1)).symm;go_wp2
   go_ret;exact⟨Ay a.out,b⟩
 .rw[H' d];have a:Hid (false=decide (Du c r u)):=(H' (λg=>d g.1)).symm;go_wp2
  go_ret;exact⟨Ay a.out,b⟩
theorem Cy{B:Nat}{a:World}(h:Below B a w){g:Nat}(c:B<=g)(b:Array Value):Below B a (w.setRow g b) :=
 h.trans ⟨rfl,rfl,rfl,by simp,λk d=>setRow_other w g k b (by omega)⟩
def ptA(g:Nat):Array Value:=#[.pointer (some ⟨g,0,none⟩),.pointer (some ⟨g,1,none⟩),.pointer (some ⟨g,2,none⟩),.pointer (some ⟨g,3,none⟩),.pointer (some ⟨g,4,none⟩)]
theorem eG(g:Nat):(ptA g).all (·.oneCell')=true:=by simp[ptA,Value.oneCell']
def Tk:Array Value:=#[.pointer none,.pointer none,.pointer none,.pointer none,.pointer none]
theorem jc(g:Nat):(prog.info? 83).map (·.size)=some (ptA g).size:=by show _=some 5;kernel_rfl
theorem Rh(g:Nat)(j:Nat)(a:j<5):∀ W,(Instr.index 83 (.agg (ptA g)) (.int .i64 (j:Int))).run prog W=.ok (.pointer (some ⟨g,j,none⟩)) W:=by
 intro W;rcases(by omega:j=0\/j=1\/j=2\/j=3\/j=4)with rfl|rfl|rfl|rfl|rfl
 all_goals kernel_rfl
theorem Hx(g:Nat)(w:World) :
  Calls prog 28 #[.pointer (some ⟨g,0,none⟩)] w λe w'=>e=.returned (.agg (ptA g))/\Bw w w':=by
 have d:Bw w (w.alloc (.cells Tk 83)):=(Below.refl _ _).alloc (A' _) _;have i:=heap_alloc_new w (.cells Tk 83);have c:=jc g;go_enter func28,ntmps28
 go_wp2_with fail
 refine Av 16 (by kernel_rfl) (by kernel_rfl) ?_;simp only[oB,oI,oL,pm]
 repeat (go_big_quiet_step (fail))
 refine wpQuiet_nil ?_;have a:(w.alloc (.cells Tk 83)).drew.heap[w.heap.size]?=some (.cells Tk 83):=i;have b:Bw w (w.alloc (.cells Tk 83)).drew:=d.drew;have f:Tk=#[.pointer none,.pointer none,.pointer none,.pointer none,.pointer none]:=rfl;rw[<- f];generalize (w.alloc (.cells Tk 83)).drew=W at a b;go_wp2_with (refine wpList_store_row rfl 83 (.tmp 2) (.tmp 18) rfl w.heap.size (ptA g) rfl rfl 83 _ a c rfl (eG g) ?_)
 have h:=setRow_heap W w.heap.size _ (ptA g) 83 _ a;exact bodyPost_ret (v:=.agg (ptA g)) (results_cell_row rfl _ _ w.heap.size 83 _ (0,0) _ rfl h underlying83 rfl c) rfl ⟨rfl,Cy b (A' _) _⟩
theorem Sl.te(w:World)(b a:Int)(e:TypeId){g:Nat}(f:g=w.heap.size)(c:0<=b/\b<256)(d:a=b):Sl (w.alloc (.cells #[.int .u8 a] e)) (.slice (some ⟨g,0,none⟩) 1 1) [b]:=by
 subst d;exact Sl.one w a e f c
theorem eI(l:List Int)(n:Int)(j:Nat)(a:l.length<=100000):(l++(Ab n).take j).length+1<=140737488355328:=by
 have:((Ab n).take j).length<=4:=by rw[j'];exact Nat.min_le_right _ _
 rw[G'];omega
theorem Hy(v:Value)(l:List Int)(n:Int)(B:Nat)(w:World)(x:w.ownsRow B 5 1 v l.length (l.map (Value.int .u8)))(z:B<=w.heap.size)(t:l.length<=100000)(D:0<=n)(E:n<2147483648) :
  Calls prog 29 #[v,.int .i64 n] w λe w'=>∃ v',e=.returned v'/\w'.ownsRow B 5 1 v' (l++Ab n).length ((l++Ab n).map (Value.int .u8))/\Below B w w':=by
 have s:Hid (w.ownsRow B 5 1 v (l++(Ab n).take 0).length ((l++(Ab n).take 0).map (Value.int .u8))):=by unfold Hid;simpa using x
 clear x;go_enter func29,ntmps29
 go_wp2_with fail
 go_loopw [0,5] (λv iv wr=>∃ j:Nat,j<=4/\iv=.int .i64 (3-(j:Int))/\wr.ownsRow B 5 1 v (l++(Ab n).take j).length ((l++(Ab n).take j).map (Value.int .u8))/\Below B w wr) (λ_ iv _=>(intOf iv+1).toNat)
 case atStart=>exact⟨0,by omega,rfl,s.out,Below.refl _ _⟩
 case round =>
  obtain⟨j,C,rfl,a,b⟩:=hrel;clear s;have g:=a.lt;have u:B<=wr.heap.size:=mS z b.size;have p:=eI l n;by_cases A:j<4
  .rcases(by omega:j=0\/j=1\/j=2\/j=3)with rfl|rfl|rfl|rfl
   .rw[show(3:Int)-((0:Nat):Int)=3 from rfl];have m:Hid (l++(Ab n).take 1=l++(Ab n).take 0++[n/16777216%256]):=by unfold Hid;rw[mY];rfl
    have c:=p 0 t;clear p;generalize l++(Ab n).take 0=L at a m c;go_wp2_with (at_builtin;refine Aa _ rfl _ _ 27 rfl B 5 underlying27 Ax _ _ rfl rfl L [n/16777216%256] (a.alloc _) (Sl.te _ (n/16777216%256) _ _ rfl (by omega) (by omega)) c (by simp;omega) ?_)
    intro r o f d;have i:Below B w o:=(b.alloc u _).grown d (by simp;omega) (λk q=>(g k q).1);have h:Hid (o.ownsRow B 5 1 r (l++(Ab n).take 1).length ((l++(Ab n).take 1).map (Value.int .u8))):=by
     unfold Hid;rw[m.out];simpa using f
    clear f d a g b c m;go_wp2
    go_roundw
    case rel=>exact⟨1,by omega,rfl,h.out,i⟩
    case measure=>simp[intOf]
   .rw[show(3:Int)-((1:Nat):Int)=2 from rfl];have m:Hid (l++(Ab n).take 2=l++(Ab n).take 1++[n/65536%256]):=by unfold Hid;rw[mY];rfl
    have c:=p 1 t;clear p;generalize l++(Ab n).take 1=L at a m c;go_wp2_with (at_builtin;refine Aa _ rfl _ _ 27 rfl B 5 underlying27 Ax _ _ rfl rfl L [n/65536%256] (a.alloc _) (Sl.te _ (n/65536%256) _ _ rfl (by omega) (by omega)) c (by simp;omega) ?_)
    intro r o f d;have i:Below B w o:=(b.alloc u _).grown d (by simp;omega) (λk q=>(g k q).1);have h:Hid (o.ownsRow B 5 1 r (l++(Ab n).take 2).length ((l++(Ab n).take 2).map (Value.int .u8))):=by
     unfold Hid;rw[m.out];simpa using f
    clear f d a g b c m;go_wp2
    go_roundw
    case rel=>exact⟨2,by omega,rfl,h.out,i⟩
    case measure=>simp[intOf]
   .rw[show(3:Int)-((2:Nat):Int)=1 from rfl];have m:Hid (l++(Ab n).take 3=l++(Ab n).take 2++[n/256%256]):=by unfold Hid;rw[mY];rfl
    have c:=p 2 t;clear p;generalize l++(Ab n).take 2=L at a m c;go_wp2_with (at_builtin;refine Aa _ rfl _ _ 27 rfl B 5 underlying27 Ax _ _ rfl rfl L [n/256%256] (a.alloc _) (Sl.te _ (n/256%256) _ _ rfl (by omega) (by omega)) c (by simp;omega) ?_)
    intro r o f d;have i:Below B w o:=(b.alloc u _).grown d (by simp;omega) (λk q=>(g k q).1);have h:Hid (o.ownsRow B 5 1 r (l++(Ab n).take 3).length ((l++(Ab n).take 3).map (Value.int .u8))):=by
     unfold Hid;rw[m.out];simpa using f
    clear f d a g b c m;go_wp2
    go_roundw
    case rel=>exact⟨3,by omega,rfl,h.out,i⟩
    case measure=>simp[intOf]
   .rw[show(3:Int)-((3:Nat):Int)=0 from rfl];have m:Hid (l++(Ab n).take 4=l++(Ab n).take 3++[n%256]):=by unfold Hid;rw[mY];rfl
    have c:=p 3 t;clear p;generalize l++(Ab n).take 3=L at a m c;go_wp2_with (at_builtin;refine Aa _ rfl _ _ 27 rfl B 5 underlying27 Ax _ _ rfl rfl L [n%256] (a.alloc _) (Sl.te _ (n%256) _ _ rfl (by omega) (by omega)) c (by simp;omega) ?_)
    intro r o f d;have i:Below B w o:=(b.alloc u _).grown d (by simp;omega) (λk q=>(g k q).1);have h:Hid (o.ownsRow B 5 1 r (l++(Ab n).take 4).length ((l++(Ab n).take 4).map (Value.int .u8))):=by
     unfold Hid;rw[m.out];simpa using f
    clear f d a g b c m;go_wp2
    go_roundw
    case rel=>exact⟨4,by omega,rfl,h.out,i⟩
    case measure=>simp[intOf]
  .obtain rfl:j=4:=by omega
   rw[show(3:Int)-((4:Nat):Int)=-1 from rfl];have y:Hid _:=a;clear a g p;go_wp2
   go_ret;exact⟨_,rfl,y.out,b⟩
theorem Sl.sP{a:Option Addr}{c:Nat}{l:List Int}(h:Sl w (.slice a n c) l)(k:Nat)(f:k<l.length):∃ bd od,a=some ⟨bd,od,none⟩/\bd<w.heap.size/\w.cell? ⟨bd,od+k,none⟩=some (.int .u8 (l.getD k 0)):=by
 obtain⟨⟨m,d,e,o,p,g⟩,j,i⟩:=h;simp only[Value.slice.injEq]at e;obtain⟨rfl,rfl,rfl⟩:=e;rcases g with rfl|⟨b,off,rfl,hb,hcell⟩
 .simp at f
 .exact⟨b,off,rfl,hb,hcell k f⟩
def J0(l:List Int)(j:Nat):List Int:=(l.take j).flatMap Ab
theorem VR(l:List Int)(j:Nat)(h:j<l.length):J0 l (j+1)=J0 l j++Ab (l.getD j 0):=by
 unfold J0;rw[nu h,List.flatMap_append,AQ h];simp
theorem Qs(l:List Int)(j:Nat):(J0 l j).length<=4*j:=by
 unfold J0;induction l generalizing j with
 | nil=>simp
 | cons x l ih =>
  cases j with
  | zero=>simp
  | succ j =>
   have:=ih j;rw[oB,pz,G',BF];omega
theorem VQ(k c s n v:Int):J0 [k,c,s,n,v] 5=CO k c s n v:=rfl
def VS(k c s n v:Int):List Int:=if Bi k c s n v=0 then CO k c s n v else[]
theorem Pj{n:Int}(h:Bi k c s n v=0):VS k c s n v=CO k c s n v:=if_pos h
theorem df{n:Int}(h:¬ Bi k c s n v=0):VS k c s n v=[]:=if_neg h
def OV:Array Value:=(List.replicate 20 (Value.int .u8 0)).toArray
theorem iI(w:World):(Instr.makeSlice 27 (.int .i64 0) (.int .i64 20)).run prog w=.ok (.slice (some ⟨w.heap.size,0,none⟩) 0 20) (w.alloc (.cells OV 5)):=by
 obtain⟨i,c,d,a,b⟩:=info_parts Ax;rw[run_makeSlice (P:=prog) w 27 5 i (.int .u8 0) underlying27 c d .i64 .i64 0 20 (by omega) (by omega) (by rw[a];decide) (by rw[b];decide) (by omega),a];have e:madeCells (Value.int .u8 0).cells ((20:Int).toNat*1)=OV:=by kernel_rfl
 rw[e];rfl
theorem Bc.num{n:Int}(h:Bc w g k c s n v)(j:Nat)(i:j<5):w.cell? ⟨g,j,none⟩=some (.int .i64 ([k,c,s,n,v].getD j 0)):=by
 obtain⟨a,b,d,e,f⟩:=Fi h.row;rcases(by omega:j=0\/j=1\/j=2\/j=3\/j=4)with rfl|rfl|rfl|rfl|rfl
 .exact a
 .exact b
 .exact d
 .exact e
 .exact f
theorem Tx{v:Value}(h:w.ownsRow base e 1 v n xs)(a:∀ k,v.ownBlock=some k->w'.heap[k]?=w.heap[k]?):w'.ownsRow base e 1 v n xs:=by
 refine⟨h.1,?_⟩;rcases h.2 with h2|⟨g,cap,cur,hv,hb,hg,hr⟩
 .exact .inl h2
 .exact .inr ⟨g,cap,cur,hv,hb,(a g (by rw[hv];rfl)).trans hg,hr⟩
theorem Ko{v:Value}(h:w.ownsRow base e 1 v n xs)(a:Bw w w'):w'.ownsRow base e 1 v n xs :=
 Tx h λk b=>a.block k (h.lt k b).2
theorem LE(k c s n v:Int)(w:World)(S:NTab w) :
  Calls prog 15 #[.agg (cmA k c s n v)] w λe w'=>∃ v',e=.returned (.tuple #[v',.int .i64 (Bi k c s n v)])/\w'.ownsRow w.heap.size 5 1 v' (VS k c s n v).length ((VS k c s n v).map (Value.int .u8))/\Bw w w':=by
 have q:Bw w (w.alloc (.cells (cmA k c s n v) 24)):=(Below.refl _ _).alloc (A' _) _;have i:=Bc.made w k c s n v;have J:=S.af q;have hi:=GZ k c s n v;generalize hW:w.alloc (.cells (cmA k c s n v) 24)=W at q i J;clear S;go_enter func15,ntmps15
 go_wp2_with (refine wpList_load_row rfl 24 _ rfl w.heap.size rfl 24 _ (0,0) _ i.row underlying24 rfl hi ?_)
 clear hW;refine(EB k c s n v W J).mono ?_;rintro e a ⟨rfl,F⟩;have H:Bw w a:=q.trans (F.mono q.size);replace i:=i.af F;clear F q J;by_cases p:Bi k c s n v=0
 .have HE:Hid (VS k c s n v=J0 [k,c,s,n,v] 5):=(Pj p).trans (VQ k c s n v).symm;have A:=Dg p;have P:Hid (∀ j,j<5->0<=[k,c,s,n,v].getD j 0/\[k,c,s,n,v].getD j 0<2147483648):=by
   unfold Hid;obtain⟨hk,hc⟩:=A;unfold InC at hc;intro j M;rcases(by omega:j=0\/j=1\/j=2\/j=3\/j=4)with rfl|rfl|rfl|rfl|rfl
   .show 0<=k/\k<2147483648;omega
   .show 0<=c/\c<2147483648;omega
   .show 0<=s/\s<2147483648;omega
   .show 0<=n/\n<2147483648;omega
   .show 0<=v/\v<2147483648;omega
  have O:Hid ([k,c,s,n,v].length=5):=rfl;have Y:Hid (Bi k c s n v=0):=p;rw[p];clear A p;have u:=iI a;have z:Below a.heap.size a (a.alloc (.cells OV 5)):=(Below.refl _ _).alloc (A' _) _;have x:(a.alloc (.cells OV 5)).ownsRow a.heap.size 5 1 (.slice (some ⟨a.heap.size,0,none⟩) 0 20) ([]:List Int).length (([]:List Int).map (Value.int .u8)) :=
   ⟨rfl,.inr ⟨a.heap.size,20,OV,rfl,A' _,heap_alloc_new _ _,by decide,by simp[maxLen],rfl,rfl⟩⟩
  have h:Hid _:=x;clear x;generalize a.alloc (.cells OV 5)=W2 at u z h;go_wp2_with fail
  refine(Hx w.heap.size W2).mono ?_;rintro e U ⟨rfl,G⟩;have f:Hid (U.ownsRow a.heap.size 5 1 (.slice (some ⟨a.heap.size,0,none⟩) 0 20) ([]:List Int).length (([]:List Int).map (Value.int .u8))):=Ko h.out G;have I:Below a.heap.size a U:=z.trans (G.mono z.size);have z3:=I.size;clear h z G u;have N:=i.lt;have R:∀ wr,Below a.heap.size a wr->∀ j,j<5->wr.cell? ⟨w.heap.size,j,none⟩=some (.int .i64 ([k,c,s,n,v].getD j 0)):=λwr hb j M=>(i.af hb).num j M;have D:Hid _:=R;clear i R;generalize [k,c,s,n,v]=L at HE P D O;have r:a.heap.size<=a.heap.size:=A' _;have o:w.heap.size<=a.heap.size:=H.size;generalize hB:a.heap.size=B at I z3 f D N o;replace r:B<=a.heap.size:=by omega
  clear hB;have l:=Rh w.heap.size;go_wp2_with fail
  go_loopw [5,15] (λv iv wr=>∃ j:Nat,j<=5/\iv=.int .i64 (j:Int)/\wr.ownsRow B 5 1 v (J0 L j).length ((J0 L j).map (Value.int .u8))/\Below B a wr) (λ_ iv _=>(5-intOf iv).toNat)
  case atStart=>exact⟨0,by omega,rfl,f.out,I⟩
  case round =>
   obtain⟨j,M,rfl,d,b⟩:=hrel;by_cases m:j<5
   .have hji:(j:Int)<5:=by omega
    have K:=l j m;have t:=D.out _ b j m;have g:=P.out j m;have C:Hid (J0 L (j+1)=J0 L j++Ab (L.getD j 0)):=VR L j (by rw[O.out];omega);have V:=Qs L j;have y:Hid _:=d;have A:B<=wr.heap.size:=mS r b.size;clear d l f;generalize L.getD j 0=X at t g C;go_wp2_with fail
    refine(Hy _ _ X B wr y.out A (by omega) g.1 g.2).mono ?_;rintro e w5 ⟨v5,rfl,T,Q⟩;have E:Hid (w5.ownsRow B 5 1 v5 (J0 L (j+1)).length ((J0 L (j+1)).map (Value.int .u8))):=by unfold Hid;rw[C.out];exact T
    have Z:=b.trans Q;clear T Q y C V t K g;go_wp2
    go_roundw
    case rel=>exact⟨j+1,by omega,by go_num,E.out,Z⟩
    case measure=>simp[intOf];omega
   .obtain rfl:j=5:=by omega
    rw[show((5:Nat):Int)=5 from rfl];have y:Hid _:=d;clear d l f;go_wp2
    go_ret2
    rw[HE.out,Y.out];exact⟨_,rfl,BL y.out o,H.trans (b.mono o)⟩
 .have HE:Hid (VS k c s n v=[]):=df p;go_wp2
  go_ret2
  rw[HE.out];exact⟨_,rfl,World.ownsRow_nil _ _ _ _,H⟩
theorem Kk{P:Program}{f:Func}{p u:Tmp}{c:TypeId}(h:f.results=#[.cell p c,.tmp u])(a:Array Value)(w:World)(g:Nat)(t:TypeId)(b:Array Value)(i:Nat × Nat)(d:TypeDesc)(m:a.getD p undef=.pointer (some ⟨g,0,none⟩))(k:w.heap[g]?=some (.cells b t i))(n:P.underlying c=some d)(j:(match d with|.struct _|.array _ _=>true|_=>false)=true)(l:(P.info? c).map (·.size)=some b.size) :
  (results f a).run P w=.ok (.tuple #[.agg b,a.getD u undef]) w:=by
 have e:a[p]?.getD undef=.pointer (some ⟨g,0,none⟩):=by simpa using m
 simp[results,h,e,asAddr,run_loadVar_row w g t c b i d k n j l]
theorem Uv(k c s n v:Int):(cmA k c s n v).all (·.oneCell')=true:=by simp[cmA,Value.oneCell']
def EL(key:List Int)(c r u:Int):List Int:=Iq c r u++(EA key (Iq c r u)).take 16
theorem NL(key b:List Int):((EA key b).take 16).length=16:=by rw[j',DU];rfl
theorem BH(key:List Int)(c r u:Int):(EL key c r u).length=22:=by unfold EL;rw[G',NL,Cb]
theorem RC(key b:List Int):∀ x∈(EA key b).take 16,0<=x/\x<256:=λx a=>Oy key b x (nm a)
theorem ON(key:List Int){c r u:Int}(h:Du c r u):∀ x∈EL key c r u,0<=x/\x<256:=by
 intro x hx;rcases P'.1 hx with hx|hx
 .exact OM h x hx
 .exact RC _ _ x hx
def Nv(key:List Int)(c r u:Int):Int:=if key.length≠32 then 1 else NN c r u
def Q8(key:List Int)(c r u:Int):List Int:=if Nv key c r u=0 then EL key c r u else[]
theorem Wa(h:¬ key.length=32):Nv key c r u=1:=if_pos h
theorem Q7(h:key.length=32):Nv key c r u=NN c r u:=if_neg (λg=>g h)
theorem dB(h:Nv key c r u=0):Q8 key c r u=EL key c r u:=if_pos h
theorem UH(h:¬ Nv key c r u=0):Q8 key c r u=[]:=if_neg h
theorem SN(c r u:Int)(w:World)(h:Du c r u) :
  Calls prog 24 #[.agg (tkA c r u)] w λe w'=>∃ v',e=.returned v'/\w'.ownsRow w.heap.size 5 1 v' (Iq c r u).length ((Iq c r u).map (Value.int .u8))/\Bw w w':=by
 have d:Bw w (w.alloc (.cells (tkA c r u) 32)):=(Below.refl _ _).alloc (A' _) _;have f:=Bt.made w c r u;generalize o:w.alloc (.cells (tkA c r u) 32)=W at d f;obtain⟨B,C,m⟩:=JV f.row;have lt:=f.lt;clear f;obtain⟨⟨q,s⟩,⟨t,v⟩,i,x⟩:=h;have E:c%256=c:=by omega
 have F:r%256=r:=by omega
 have A:Hid (Iq c r u=[c,r]++Ab u):=rfl;have b:Bw W (W.alloc (.cells #[.int .u8 c,.int .u8 r] 5)):=(Below.refl _ _).alloc (A' _) _;have k:(W.alloc (.cells #[.int .u8 c,.int .u8 r] 5)).ownsRow W.heap.size 5 1 (.slice (some ⟨W.heap.size,0,none⟩) 2 2) ([c,r]:List Int).length (([c,r]:List Int).map (Value.int .u8)) :=
  ⟨rfl,.inr ⟨W.heap.size,2,#[.int .u8 c,.int .u8 r],rfl,A' _,heap_alloc_new _ _,by simp,by simp[maxLen],rfl,rfl⟩⟩
 have j:Hid ((W.alloc (.cells #[.int .u8 c,.int .u8 r] 5)).ownsRow W.heap.size 5 1 (.slice (some ⟨W.heap.size,0,none⟩) 2 2) ([c,r]:List Int).length (([c,r]:List Int).map (Value.int .u8))):=k;clear k;generalize g:W.alloc (.cells #[.int .u8 c,.int .u8 r] 5)=W1 at b j;have D:W1.cell? ⟨w.heap.size,2,none⟩=some (.int .i64 u):=(b.cell (p:=⟨w.heap.size,2,none⟩) lt).trans m;have n:=d.trans (b.mono d.size);have y:=b.size;go_enter func24,ntmps24
 go_wp2_with fail
 clear o g;refine(Hy _ [c,r] u W.heap.size W1 j.out y (by simp) i (by omega)).mono ?_;rintro e H ⟨G,rfl,z,l⟩;have a:=d.size;go_wp2
 go_ret;exact⟨_,rfl,BL z a,n.trans (l.mono a)⟩
theorem RA(d c:Value)(key b:List Int)(w:World)(n:Sl w d key)(m:Sl w c b)(lk:key.length<=256)(p:b.length<=2000)(o:AD w) :
  Calls prog 25 #[d,c] w λe w'=>∃ v',e=.returned (.tuple #[v',.int .i64 0])/\Sl w' v' ((EA key b).take 16)/\Bw w w':=by
 go_enter func25,ntmps25
 go_wp2_with fail
 refine(gD d c key b w n m lk p o).mono ?_;rintro e t ⟨s,rfl,l⟩;obtain⟨f,i,g,k,rfl,_,_⟩:=l;obtain⟨h,j,a,q⟩:=f.sa 16 (by rw[DU];omega);rw[DU]at a ⊢
 have r:∀ W,(Instr.slice 27 (.slice (some ⟨g,0,none⟩) 32 k) none (some (.int .i64 16)) none).run prog W=.ok (.slice h 16 j) W:=a;clear a f;go_wp2
 go_ret2
 exact⟨_,rfl,q,i⟩
theorem Wb(E:Value)(key:List Int)(c r u:Int)(w:World)(f:Sl w E key)(N:AD w) :
  Calls prog 13 #[E,.agg (tkA c r u)] w λe w'=>∃ v',e=.returned (.tuple #[v',.int .i64 (Nv key c r u)])/\w'.ownsRow w.heap.size 5 1 v' (Q8 key c r u).length ((Q8 key c r u).map (Value.int .u8))/\Bw w w':=by
 have i:Bw w (w.alloc (.cells (tkA c r u) 32)):=(Below.refl _ _).alloc (A' _) _;have j:=Bt.made w c r u;have A:=Jm c r u;have m:=f.len;obtain⟨S,T,rfl⟩:=f.shape;generalize M:w.alloc (.cells (tkA c r u) 32)=W at i j;by_cases l:key.length=32
 .have HE:=Q7 (key:=key) (c:=c) (r:=r) (u:=u) l;have J:Hid (key.length=32):=l;rw[l]at f ⊢
  clear l m;go_enter func13,ntmps13
  go_wp2_with (refine wpList_load_row rfl 32 _ rfl w.heap.size rfl 32 _ (0,0) _ j.row underlying32 rfl A ?_)
  clear M;refine(J8 c r u W).mono ?_;rintro e g ⟨rfl,p⟩;have b:=i.trans (p.mono i.size);replace j:=j.af p;clear p i;by_cases d:Du c r u
  .have a:Hid (Nv key c r u=0):=HE.trans (Jl d);have h:Hid (Q8 key c r u=EL key c r u):=dB a.out;rw[O' d];clear HE;go_wp2_with (refine wpList_load_row rfl 32 _ rfl w.heap.size rfl 32 _ (0,0) _ j.row underlying32 rfl A ?_)
   refine(SN c r u g d).mono ?_;rintro e R ⟨P,rfl,x,q⟩;have s:=b.trans (q.mono b.size);have D:=Sl.ov x (by rw[Cb];omega) (OM d);have H:=q.size;go_wp2_with fail
   refine(RA _ P key (Iq c r u) R (f.af s) D (by rw[J.out];omega) (by rw[Cb];omega) (N.af s)).mono ?_;rintro e F ⟨U,rfl,s3,n⟩;have y:=Ko x n;have t:Bw g F:=q.trans (n.mono H);have I:g.heap.size<=F.heap.size:=mS H n.size;have v:=y.lt;have O:=s3.len;have o:Hid (EL key c r u=Iq c r u++(EA key (Iq c r u)).take 16):=rfl;have B:=Cb c r u;clear x n s D;generalize (EA key (Iq c r u)).take 16=Y at s3 o O;generalize Iq c r u=X at y o B;go_wp2_with (at_builtin;refine Aa _ rfl _ _ 27 rfl g.heap.size 5 underlying27 Ax _ _ rfl rfl X Y y s3 (by omega) I ?_)
   intro Q G C z;have L:Bw g G:=t.grown z I (λk f=>(v k f).1);have K:Hid (G.ownsRow g.heap.size 5 1 Q (EL key c r u).length ((EL key c r u).map (Value.int .u8))):=by unfold Hid;rw[o.out];simpa[B]using C
   clear C z;go_wp2
   go_ret2
   rw[h.out,a.out];exact⟨_,rfl,BL K.out b.size,b.trans (L.mono b.size)⟩
  .have a:Hid (Nv key c r u=2):=HE.trans (Vm d);have h:Hid (Q8 key c r u=[]):=UH (by rw[a.out];omega);rw[H' d];go_wp2
   go_ret2
   rw[h.out,a.out];exact⟨_,rfl,World.ownsRow_nil _ _ _ _,b⟩
 .have h1':¬ (key.length:Int)=32:=by omega
  have a:Hid (Nv key c r u=1):=Wa l;have h:Hid (Q8 key c r u=[]):=UH (by rw[a.out];omega);go_enter func13,ntmps13
  go_wp2
  go_ret2
  rw[h.out,a.out];exact⟨_,rfl,World.ownsRow_nil _ _ _ _,i⟩
end
end
section
section
def paE(n tc tr tu k c s m v:Int):Int:=if ¬ (0<=n/\n<1073741824)then 2 else if NN tc tr tu≠0 then NN tc tr tu else Bi k c s m v
def paP(tc tr tu k c s m v:Int):List Int:=EL Fo tc tr tu++CO k c s m v
def paL(n tc tr tu k c s m v:Int):List Int:=if paE n tc tr tu k c s m v=0 then c::Gf (IB c) n (paP tc tr tu k c s m v)else[]
variable{c k m n s tc tr tu v:Int}
theorem IN(h:paE n tc tr tu k c s m v=0):(0<=n/\n<1073741824)/\Du tc tr tu/\Bi k c s m v=0:=by
 unfold paE at h;split at h
 .cases h
 .rename_i g1
  split at h
  .rename_i g;exact absurd h g
  .rename_i g2
   refine⟨mX.1 g1,?_,h⟩;have a:=mX.1 g2;unfold NN at a;split at a
   .assumption
   .cases a
theorem iV(a:0<=n/\n<1073741824)(b:NN tc tr tu=0):paE n tc tr tu k c s m v=Bi k c s m v:=by
 unfold paE;rw[if_neg (λg=>g a),if_neg (λg=>g b)]
theorem Pz(h:paE n tc tr tu k c s m v=0):paL n tc tr tu k c s m v=c::Gf (IB c) n (paP tc tr tu k c s m v):=if_pos h
theorem DE(a b d k c s m v:Int):(paP a b d k c s m v).length=42:=by unfold paP;rw[G',BH,BE]
theorem QZ(h:Du tc tr tu):∀ x∈paP tc tr tu k c s m v,0<=x/\x<256:=by
 intro x hx;rcases P'.1 hx with hx|hx
 .exact ON _ h x hx
 .exact Fj _ _ _ _ _ x hx
end
end
section
open Go.RowKit
section
variable{key l:List Int}
theorem Sl.tj{w:World}{a:Option Addr}{n c:Nat}(h:Sl w (.slice a n c) l)(b:Nat)(d:b+4<=l.length)(m k:Int)(g:m=(b:Int))(f:k=(b:Int)+4) :
  ∃ a' c',(∀ W,(Instr.slice 27 (.slice a n c) (some (.int .i64 m)) (some (.int .i64 k)) none).run prog W=.ok (.slice a' 4 c') W)/\Sl w (.slice a' 4 c') ((l.take (b+4)).drop b):=by
 subst g;subst f;have i:=h.sE b (b+4) (by omega) d;obtain⟨⟨a',j,e,s,t,r⟩,q,p⟩:=h;simp only[Value.slice.injEq]at e;obtain⟨rfl,rfl,rfl⟩:=e;have o:b+4-b=4:=by omega
 unfold sliced at i;rw[o]at i
 refine⟨_,_,λW=>?_,i⟩;rw[run_slice_lh (P:=prog) W 27 a _ c underlying27 .i64 .i64 _ _ (by omega) (by omega) (by omega)];have e:prog.elem 27=5:=by kernel_rfl
 rw[e,GI,show((b:Int)+4).toNat=b+4 by omega,nE];simp[Result.andThen,sliced]
theorem QX(x b:Int)(f:0<=x/\x<36028797018963968)(d:0<=b/\b<256):bits .or .i64 (x*256) b=x*256+b:=by
 obtain⟨x,rfl⟩:=nI f.1;obtain⟨y,rfl⟩:=nI d.1;have e:(x:Int)*256=((x*256:Nat):Int):=by omega
 have key:(BitVec.ofInt 64 ((x*256:Nat):Int) ||| BitVec.ofInt 64 (y:Int)).toNat=x*256+y:=by
  rw[rT,qm,qm];have a:((y:Int)%((2^64:Nat):Int)).toNat=y:=by omega
  have c:(((x*256:Nat):Int)%((2^64:Nat):Int)).toNat=2^8*x:=by omega
  rw[a,c,<- pP (by omega:y<2^8)];omega
 rw[e];show IntKind.i64.wrap ((BitVec.ofInt 64 ((x*256:Nat):Int) ||| BitVec.ofInt 64 (y:Int)).toNat:Nat)=_;rw[key,IntKind.wrap_i64];omega
def Dk(h:List Int):Nat->Int
 | 0=>0
 | k+1=>Dk h k*256+h.getD k 0
theorem Kj{h:List Int}(a:∀ x∈h,0<=x/\x<256)(k:Nat):0<=Dk h k/\Dk h k<256^k:=by
 induction k with
 | zero=>simp[Dk]
 | succ k ih =>
  have:=Ak a k;rw[Dk,qL];omega
theorem Mg(l:List Int)(a:Nat)(h:a+4<=l.length):Dk ((l.take (a+4)).drop a) 4=Ad l a:=by
 show(((0*256+((l.take (a+4)).drop a).getD 0 0)*256+((l.take (a+4)).drop a).getD 1 0)*256+((l.take (a+4)).drop a).getD 2 0)*256+((l.take (a+4)).drop a).getD 3 0=_;rw[Dw,Dw,Dw,Dw,B3 _ _ _ (by omega),B3 _ _ _ (by omega),B3 _ _ _ (by omega),B3 _ _ _ (by omega)];unfold Ad;rw[pC];omega
theorem IM(v:Value)(l:List Int)(b:Nat)(w:World)(h:Sl w v l)(o:b+4<=l.length)(f:Int)(g:f=(b:Int)) :
  Calls prog 192 #[v,.int .i64 f] w λe w'=>e=.returned (.int .i64 (Ad l b))/\w'=w:=by
 have s:Hid (Dk ((l.take (b+4)).drop b) 4=Ad l b):=Mg l b o;have d:=h.len;have H:0<=f:=by omega
 have I:f<=140737488351232:=by omega
 obtain⟨a,c,rfl⟩:=h.shape;obtain⟨D,F,y,k⟩:=h.tj b o f (f+4) g (by omega);have m:Hid (∀ x∈(l.take (b+4)).drop b,0<=x/\x<256):=k.byte;have t:Hid (((l.take (b+4)).drop b).length=4):=by unfold Hid;rw[nc,j'];omega
 generalize (l.take (b+4)).drop b=L at s k m t;generalize l.length=N at y d ⊢;clear h o g d;go_enter func192,ntmps192
 go_wp2_with fail
 go_loopw [5,14] (λv iv wr=>∃ j:Nat,j<=4/\iv=.int .i64 (j:Int)/\v=.int .i64 (Dk L j)/\wr=w) (λ_ iv _=>(4-intOf iv).toNat)
 case atStart=>exact⟨0,by omega,rfl,rfl,rfl⟩
 case round =>
  obtain⟨j,G,rfl,rfl,rfl⟩:=hrel;by_cases C:j<4
  .have hii:(j:Int)<4:=by omega
   have p:=Kj m.out j;have r:Dk L j<16777216:=by
    have:(256:Int)^j<=256^3:=by
     rcases(by omega:j=0\/j=1\/j=2\/j=3)with rfl|rfl|rfl|rfl<;>decide
    omega
   have u:=Ak m.out j;obtain⟨E,od,rfl,z,A⟩:=k.sP j (by have:=t.out;omega);have i:=QX (Dk L j) (L.getD j 0) ⟨p.1,by omega⟩ u;have n:Hid (Dk L j*256+L.getD j 0=Dk L (j+1)):=rfl;have q:=p.1;clear p k y;generalize Dk L j=X at q r i n;generalize L.getD j 0=B at u A i n;go_wp2
   go_roundw
   case rel=>exact⟨j+1,by omega,by go_num,by rw[<- n.out],trivial⟩
   case measure=>simp[intOf];omega
  .obtain rfl:j=4:=by omega
   rw[show((4:Nat):Int)=4 from rfl,s.out];go_wp2
   go_ret;exact⟨rfl,rfl⟩
def Sw(l:List Int)(j:Nat):List Int:=(List.range 5).map λi=>if i<j then Ad l (4*i)else 0
def rowOf(m:List Int):Array Value:=(m.map (Value.int .i64)).toArray
theorem Yj(l:List Int)(j:Nat)(a:j<5):(rowOf (Sw l j)).setIfInBounds j (.int .i64 (Ad l (4*j)))=rowOf (Sw l (j+1)):=by
 rcases(by omega:j=0\/j=1\/j=2\/j=3\/j=4)with rfl|rfl|rfl|rfl|rfl
 all_goals rfl
theorem LB(v:Value)(l:List Int)(w:World)(h:Sl w v l)(ht:NTab w) :
  Calls prog 162 #[v] w λe w'=>e=.returned (.tuple #[.agg (I3 l),.int .i64 (Cl l)])/\Bw w w':=by
 have G:=h.len;obtain⟨a,cp,rfl⟩:=h.shape;by_cases E:l.length=20
 .have i:Hid (Cl l=Bi (Ad l 0) (Ad l 4) (Ad l 8) (Ad l 12) (Ad l 16)):=if_neg (λg=>g E);have Z:=h;have HL:Hid (l.length=20):=E;rw[E]at Z ⊢
  clear h E G;have b0:Bw w (w.alloc (.cells (cmA 0 0 0 0 0) 24)):=(Below.refl _ _).alloc (A' _) _;have z0:(w.alloc (.cells (cmA 0 0 0 0 0) 24)).heap.size=w.heap.size+1:=by simp
  have B:=heap_alloc_new w (.cells (cmA 0 0 0 0 0) 24);have N:Below (w.heap.size+1) (w.alloc (.cells (cmA 0 0 0 0 0) 24)) ((w.alloc (.cells (cmA 0 0 0 0 0) 24)).alloc (.cells (cmA 0 0 0 0 0) 24)):=(Below.refl _ _).alloc (by omega) _;have C:=heap_alloc_new (w.alloc (.cells (cmA 0 0 0 0 0) 24)) (.cells (cmA 0 0 0 0 0) 24);rw[z0]at C
  replace B:=(N.block w.heap.size (by omega)).trans B;have J:=b0.trans (N.mono (nX _));have z1:((w.alloc (.cells (cmA 0 0 0 0 0) 24)).alloc (.cells (cmA 0 0 0 0 0) 24)).heap.size=w.heap.size+1+1:=by simp
  have Y:(w.alloc (.cells zV5 24)).alloc (.cells zV5 24)=(w.alloc (.cells (cmA 0 0 0 0 0) 24)).alloc (.cells (cmA 0 0 0 0 0) 24):=rfl;clear b0 N z0;generalize (w.alloc (.cells (cmA 0 0 0 0 0) 24)).alloc (.cells (cmA 0 0 0 0 0) 24)=W at B C J z1 Y;go_enter func162,ntmps162
  go_wp2_with fail
  clear Y;refine(Hx (w.heap.size+1) W).mono ?_;rintro e w2 ⟨rfl,H⟩;replace B:=(H.block w.heap.size (by omega)).trans B;replace C:=(H.block (w.heap.size+1) (by omega)).trans C;have d2:=J.trans (H.mono J.size);have o:Hid _:=B;have q:Hid (w2.heap[w.heap.size+1]?=some (.cells (rowOf (Sw l 0)) 24)):=C;clear B C H J z1;have y:=Rh (w.heap.size+1);go_wp2_with fail
  go_loopw [13] (λiv wr=>∃ j:Nat,j<=5/\iv=.int .i64 (j:Int)/\wr.heap[w.heap.size]?=some (.cells (cmA 0 0 0 0 0) 24)/\wr.heap[w.heap.size+1]?=some (.cells (rowOf (Sw l j)) 24)/\Bw w wr) (λiv _=>(5-intOf iv).toNat)
  case atStart=>exact⟨0,by omega,rfl,o.out,q.out,d2⟩
  case round =>
   obtain⟨j,hj,rfl,r,m,d⟩:=hrel;clear o q;by_cases z:j<5
   .have hji:(j:Int)<5:=by omega
    have a1:=y j z;have u:∃ x,wr.cell? ⟨w.heap.size+1,j,none⟩=some (.int .i64 x):=⟨(Sw l j).getD j 0,(cell_of_row _ _ j _ _ _ m).trans (by simp[rowOf,Sw,z])⟩;obtain⟨x,hx⟩:=u;have a0:=frozen_of_row wr _ j _ _ m;have o:Hid _:=r;have q:Hid _:=m;have R:=Yj l j z;clear y r m;go_wp2_with fail
    refine(IM (.slice a 20 cp) l (4*j) wr (Z.af d) (by rw[HL.out];omega) _ (by omega)).mono ?_;rintro e Q ⟨rfl,rfl⟩;have A:(Q.setCell ⟨w.heap.size+1,j,none⟩ (.int .i64 (Ad l (4*j)))).heap[w.heap.size]?=some (.cells (cmA 0 0 0 0 0) 24):=(heap_setCell_other _ _ _ _ (by simp)).trans o.out;have M:(Q.setCell ⟨w.heap.size+1,j,none⟩ (.int .i64 (Ad l (4*j)))).heap[w.heap.size+1]?=some (.cells (rowOf (Sw l (j+1))) 24):=by
     rw[heap_setCell_same _ _ _ _ _ _ q.out,R]
    have q2:Bw w (Q.setCell ⟨w.heap.size+1,j,none⟩ (.int .i64 (Ad l (4*j)))):=d.setCell (p:=⟨w.heap.size+1,j,none⟩) (nX _) _;have S:Hid _:=A;have T:Hid _:=M;clear R A M o q;generalize Ad l (4*j)=X at S T q2 ⊢;go_wp2
    go_roundw
    case rel=>exact⟨j+1,by omega,by go_num,S.out,T.out,q2⟩
    case measure=>simp[intOf];omega
   .obtain rfl:j=5:=by omega
    rw[show((5:Nat):Int)=5 from rfl];have b:wr.heap[w.heap.size+1]?=some (.cells (cmA (Ad l 0) (Ad l 4) (Ad l 8) (Ad l 12) (Ad l 16)) 24):=m;clear m y;have f:Hid (Cl l=0->I3 l=cmA (Ad l 0) (Ad l 4) (Ad l 8) (Ad l 12) (Ad l 16)):=λh=>if_pos h;have t:Hid (¬ Cl l=0->I3 l=cmA 0 0 0 0 0):=λh=>if_neg h;have V:=ht.af d;generalize Ad l 0=k at i f b;generalize Ad l 4=c at i f b;generalize Ad l 8=s at i f b;generalize Ad l 12=n at i f b;generalize Ad l 16=v at i f b;have L:=GZ k c s n v;have F:=GZ 0 0 0 0 0;have O:=(U'.1 b).1;go_wp2_with (refine wpList_load_row rfl 24 _ rfl (w.heap.size+1) rfl 24 _ (0,0) _ b underlying24 rfl L ?_)
    refine(EB k c s n v wr V).mono ?_;rintro e w6 ⟨rfl,I⟩;have U:=d.trans (I.mono d.size);have A:=(I.block w.heap.size (by omega)).trans r;have M:=(I.block (w.heap.size+1) O).trans b;clear r b I V d;by_cases K:Bi k c s n v=0
    .have HZ:Hid (Cl l=0):=i.out.trans K;have D:Hid (I3 l=cmA k c s n v):=f.out HZ.out;rw[K];clear K i f t;go_wp2_with (first|(refine wpList_load_row rfl 24 _ rfl (w.heap.size+1) rfl 24 _ (0,0) _ M underlying24 rfl L ?_)|(refine wpList_store_row rfl 24 (.tmp 2) (.tmp 30) rfl w.heap.size (cmA k c s n v) rfl rfl 24 _ A L rfl (Uv k c s n v) ?_))
     have P:=setRow_heap w6 w.heap.size _ (cmA k c s n v) 24 _ A;refine bodyPost_ret (Kk rfl _ _ w.heap.size 24 _ (0,0) _ rfl P underlying24 rfl L) rfl ?_;rw[HZ.out,D.out];exact⟨rfl,Cy U (A' _) _⟩
    .have HZ:Hid (Cl l=Bi k c s n v):=i.out;have D:Hid (I3 l=cmA 0 0 0 0 0):=t.out (by rw[i.out];exact K);clear i f t;go_wp2_with (refine wpList_store_row rfl 24 (.tmp 2) (.tmp 28) rfl w.heap.size (cmA 0 0 0 0 0) rfl rfl 24 _ A F rfl (Uv 0 0 0 0 0) ?_)
     have P:=setRow_heap w6 w.heap.size _ (cmA 0 0 0 0 0) 24 _ A;refine bodyPost_ret (Kk rfl _ _ w.heap.size 24 _ (0,0) _ rfl P underlying24 rfl F) rfl ?_;rw[HZ.out,D.out];exact⟨rfl,Cy U (A' _) _⟩
 .have h1':¬ (l.length:Int)=20:=by omega
  have i:Hid (Cl l=1):=if_pos E;have D:Hid (I3 l=cmA 0 0 0 0 0):=if_neg (by rw[i.out];omega);have bb:Bw w (w.alloc (.cells (cmA 0 0 0 0 0) 24)):=(Below.refl _ _).alloc (A' _) _;have bc:=Bc.made w 0 0 0 0 0;go_enter func162,ntmps162
  go_wp2
  refine bodyPost_ret (Kk rfl _ _ w.heap.size 24 _ (0,0) _ rfl (heap_alloc_new _ _) underlying24 rfl (GZ 0 0 0 0 0)) rfl ?_;rw[i.out,D.out];exact⟨rfl,bb⟩
theorem Jk(c r u:Int):(tkA c r u).all (·.oneCell')=true:=by simp[tkA,Value.oneCell']
theorem RG(v:Value)(l:List Int)(w:World)(h:Sl w v l)(x:6<=l.length) :
  Calls prog 191 #[v] w λe w'=>e=.returned (.agg (tkA (l.getD 0 0) (l.getD 1 0) (Ad l 2)))/\Bw w w':=by
 have d:=h.len;obtain⟨a,t,rfl⟩:=h.shape;have i:Bw w (w.alloc (.cells (tkA 0 0 0) 32)):=(Below.refl _ _).alloc (A' _) _;have j:=heap_alloc_new w (.cells (tkA 0 0 0) 32);have f:=h.af i;have o:w.alloc (.cells #[.int .i64 0,.int .i64 0,.int .i64 0] 32)=w.alloc (.cells (tkA 0 0 0) 32):=rfl;generalize w.alloc (.cells (tkA 0 0 0) 32)=W0 at i j f o;obtain⟨r,od,rfl,u,k⟩:=f.sP 0 (by omega);obtain⟨s,A,m,_,q⟩:=f.sP 1 (by omega);simp only[Z',Addr.mk.injEq,and_true]at m;obtain⟨rfl,rfl⟩:=m;rw[pC]at k
 have C:=Ak h.byte 0;have D:=Ak h.byte 1;have y:(0:Int)<(l.length:Int):=by omega
 have z:(1:Int)<(l.length:Int):=by omega
 have n:Calls prog 192 #[.slice (some ⟨r,od,none⟩) l.length t,.int .i64 2] W0.drew λe w'=>e=.returned (.int .i64 (Ad l 2))/\w'=W0.drew :=
  IM _ l 2 _ (f.af (Below.refl _ _).drew) (by omega) 2 rfl
 have g:Hid _:=n;clear n;generalize l.getD 0 0=b0 at k C;generalize l.getD 1 0=b1 at q D;generalize Ad l 2=b2 at g;generalize l.length=N at d x y z g ⊢;clear h f;have p:=Jm b0 b1 b2;go_enter func191,ntmps191
 go_wp2_with fail
 refine Av 11 (by kernel_rfl) (by kernel_rfl) ?_;simp only[oB,oI,oL,pm]
 repeat (go_big_quiet_step (fail))
 go_big_quiet_want
 go_big_quiet_op
 refine⟨_,g.out,?_⟩
 go_big_quiet_on
 repeat (go_big_quiet_step (fail))
 refine wpQuiet_nil ?_;clear o;have b:W0.drew.heap[w.heap.size]?=some (.cells (tkA 0 0 0) 32):=j;have c:Bw w W0.drew:=i.drew;clear j i k q g;generalize W0.drew=W at b c ⊢;go_wp2_with (refine wpList_store_row rfl 32 (.tmp 2) (.tmp 13) rfl w.heap.size (tkA b0 b1 b2) rfl rfl 32 _ b p rfl (Jk b0 b1 b2) ?_)
 have B:=setRow_heap W w.heap.size _ (tkA b0 b1 b2) 32 _ b;exact bodyPost_ret (v:=.agg (tkA b0 b1 b2)) (results_cell_row rfl _ _ w.heap.size 32 _ (0,0) _ rfl B underlying32 rfl p) rfl ⟨rfl,Cy c (A' _) _⟩
def Er(key l:List Int):Int :=
 if key.length≠32\/l.length≠22 then 1
 else if(EA key (l.take 6)).take 16≠l.drop 6 then 6
 else NN (l.getD 0 0) (l.getD 1 0) (Ad l 2)
def Mq(key l:List Int):Array Value:=if Er key l=0 then tkA (l.getD 0 0) (l.getD 1 0) (Ad l 2)else tkA 0 0 0
theorem O6(h:key.length≠32\/l.length≠22):Er key l=1:=if_pos h
theorem ZY(a:key.length=32)(b:l.length=22)(h:¬ (EA key (l.take 6)).take 16=l.drop 6):Er key l=6:=by
 unfold Er;rw[if_neg (by omega),if_pos h]
theorem Rg(a:key.length=32)(b:l.length=22)(h:(EA key (l.take 6)).take 16=l.drop 6):Er key l=NN (l.getD 0 0) (l.getD 1 0) (Ad l 2):=by
 unfold Er;rw[if_neg (by omega),if_neg (λg=>g h)]
theorem P5(h:Er key l=0):Mq key l=tkA (l.getD 0 0) (l.getD 1 0) (Ad l 2):=if_pos h
theorem IR(h:¬ Er key l=0):Mq key l=tkA 0 0 0:=if_neg h
theorem Tl(l:List Int):Ad (l.take 6) 2=Ad l 2:=by
 unfold Ad;rw[B3 _ _ _ (by omega),B3 _ _ _ (by omega),B3 _ _ _ (by omega),B3 _ _ _ (by omega)]
theorem WM(vk vb:Value)(key l:List Int)(w:World)(z:Sl w vk key)(x:Sl w vb l)(ht:AD w) :
  Calls prog 161 #[vk,vb] w λe w'=>e=.returned (.tuple #[.agg (Mq key l),.int .i64 (Er key l)])/\Bw w w':=by
 have lk:=z.len;have ll:=x.len;obtain⟨ak,ck,rfl⟩:=z.shape;obtain⟨U,Y,rfl⟩:=x.shape;have i:Bw w (w.alloc (.cells (tkA 0 0 0) 32)):=(Below.refl _ _).alloc (A' _) _;have L:=heap_alloc_new w (.cells (tkA 0 0 0) 32);have d:=Jm 0 0 0;by_cases o:key.length=32
 .by_cases h2:l.length=22
  .have H1:Hid (key.length=32):=o;have t:Hid (l.length=22):=h2;rw[o]at z ⊢
   rw[h2]at x ⊢
   clear lk ll o h2;have v:w.alloc (.cells #[.int .i64 0,.int .i64 0,.int .i64 0] 32)=w.alloc (.cells (tkA 0 0 0) 32):=rfl;generalize w.alloc (.cells (tkA 0 0 0) 32)=W at i L v;obtain⟨S,V,C,s6⟩:=x.sa 6 (by have:=t.out;omega);have r6:∀ W,(Instr.slice 27 (.slice U 22 Y) none (some (.int .i64 6)) none).run prog W=.ok (.slice S 6 V) W:=C;obtain⟨T,X,D,s7⟩:=x.from 6 (by have:=t.out;omega);have r7:∀ W,(Instr.slice 27 (.slice U 22 Y) (some (.int .i64 6)) none none).run prog W=.ok (.slice T 16 X) W:=D;clear C D;have R:Hid ((l.take 6).length=6):=by unfold Hid;rw[j',t.out];rfl
   go_enter func161,ntmps161
   go_wp2_with fail
   clear v;refine(RA _ _ key (l.take 6) W (z.af i) (s6.af i) (by rw[H1.out];omega) (by rw[R.out];omega) (ht.af i)).mono ?_;rintro e M ⟨v1,rfl,s1,N⟩;have P:=i.trans (N.mono i.size);have q1:=(N.block w.heap.size (U'.1 L).1).trans L;have E:=s7.af P;clear N i L;go_wp2_with fail
   refine(IY v1 (.slice T 16 X) _ _ M s1 E).mono ?_;rintro e w2 ⟨rfl,m,rfl⟩;have n:Bw w (M.drewN m):=Ar P m;have s:(M.drewN m).heap[w.heap.size]?=some (.cells (tkA 0 0 0) 32):=q1;clear q1 P s1 E;generalize M.drewN m=W2 at n s ⊢;by_cases p:(EA key (l.take 6)).take 16=l.drop 6
   .have HE:=Rg H1.out t.out p;have b:Hid (Er key l=0->Mq key l=tkA (l.getD 0 0) (l.getD 1 0) (Ad l 2)):=P5;have j:Hid (¬ Er key l=0->Mq key l=tkA 0 0 0):=IR;have F:Hid ((l.take 6).getD 0 0=l.getD 0 0/\(l.take 6).getD 1 0=l.getD 1 0/\Ad (l.take 6) 2=Ad l 2):=⟨B3 _ _ _ (by omega),B3 _ _ _ (by omega),Tl l⟩;rw[O' p];clear p;go_wp2_with fail
    refine(RG (.slice S 6 V) (l.take 6) W2 (s6.af n) (by rw[R.out];omega)).mono ?_;rintro e g ⟨rfl,O⟩;rw[F.out.1,F.out.2.1,F.out.2.2];have Q:=n.trans (O.mono n.size);have f:=(O.block w.heap.size (U'.1 s).1).trans s;clear O s n F;generalize l.getD 0 0=c at HE b ⊢;generalize l.getD 1 0=r at HE b ⊢;generalize Ad l 2=u at HE b ⊢;have y:=Jm c r u;have H:Bw g (g.alloc (.cells (tkA 0 0 0) 32)):=(Below.refl _ _).alloc (A' _) _;have K:=heap_alloc_new g (.cells (tkA 0 0 0) 32);have v:g.alloc (.cells #[.int .i64 0,.int .i64 0,.int .i64 0] 32)=g.alloc (.cells (tkA 0 0 0) 32):=rfl;generalize g.alloc (.cells (tkA 0 0 0) 32)=W4 at H K v;have A:w.heap.size<g.heap.size:=(U'.1 f).1
    go_upto_region 10 with(refine wpList_store_row rfl 32 (.tmp 9) (.tmp 38) rfl g.heap.size (tkA c r u) rfl rfl 32 _ K y rfl (Jk c r u) ?_)
    clear v;have k:=setRow_heap W4 g.heap.size _ (tkA c r u) 32 _ K;replace f:=((H.block w.heap.size A).trans f);replace f:=(setRow_other W4 g.heap.size w.heap.size (tkA c r u) (by omega)).trans f;have J:=Cy (Q.trans (H.mono Q.size)) (show w.heap.size<=g.heap.size by omega) (tkA c r u);generalize W4.setRow g.heap.size (tkA c r u)=W5 at f k J ⊢;clear K H Q;generalize g.heap.size=G at k A ⊢;go_wp2_with (refine wpList_load_row rfl 32 _ rfl G rfl 32 _ (0,0) _ k underlying32 rfl y ?_)
    refine(J8 c r u W5).mono ?_;rintro e w6 ⟨rfl,I⟩;have Z:=J.trans (I.mono J.size);replace f:=(I.block w.heap.size (U'.1 f).1).trans f;replace k:=(I.block G (U'.1 k).1).trans k;clear I J;by_cases q:Du c r u
    .have a:Hid (Er key l=0):=HE.trans (Jl q);have h:Hid (Mq key l=tkA c r u):=b.out a.out;rw[O' q];clear HE b j q;go_wp2_with (first|(refine wpList_load_row rfl 32 _ rfl G rfl 32 _ (0,0) _ k underlying32 rfl y ?_)|(refine wpList_store_row rfl 32 (.tmp 4) (.tmp 43) rfl w.heap.size (tkA c r u) rfl rfl 32 _ f y rfl (Jk c r u) ?_))
     have B:=setRow_heap w6 w.heap.size _ (tkA c r u) 32 _ f;refine bodyPost_ret (Kk rfl _ _ w.heap.size 32 _ (0,0) _ rfl B underlying32 rfl y) rfl ?_;rw[a.out,h.out];exact⟨rfl,Cy Z (A' _) _⟩
    .have a:Hid (Er key l=2):=HE.trans (Vm q);have h:Hid (Mq key l=tkA 0 0 0):=j.out (by rw[a.out];omega);rw[H' q];clear HE b j q;go_wp2_with (refine wpList_store_row rfl 32 (.tmp 4) (.tmp 42) rfl w.heap.size (tkA 0 0 0) rfl rfl 32 _ f d rfl (Jk 0 0 0) ?_)
     have B:=setRow_heap w6 w.heap.size _ (tkA 0 0 0) 32 _ f;refine bodyPost_ret (Kk rfl _ _ w.heap.size 32 _ (0,0) _ rfl B underlying32 rfl d) rfl ?_;rw[a.out,h.out];exact⟨rfl,Cy Z (A' _) _⟩
   .have a:Hid (Er key l=6):=ZY H1.out t.out p;have h:Hid (Mq key l=tkA 0 0 0):=IR (by rw[a.out];omega);rw[H' p];clear p;go_wp2_with (refine wpList_store_row rfl 32 (.tmp 4) (.tmp 36) rfl w.heap.size (tkA 0 0 0) rfl rfl 32 _ s d rfl (Jk 0 0 0) ?_)
    have B:=setRow_heap W2 w.heap.size _ (tkA 0 0 0) 32 _ s;refine bodyPost_ret (Kk rfl _ _ w.heap.size 32 _ (0,0) _ rfl B underlying32 rfl d) rfl ?_;rw[a.out,h.out];exact⟨rfl,Cy n (A' _) _⟩
  .have h2':¬ (l.length:Int)=22:=by omega
   have a:Hid (Er key l=1):=O6 (.inr h2);have h:Hid (Mq key l=tkA 0 0 0):=IR (by rw[a.out];omega);rw[o]at z ⊢
   clear o;go_enter func161,ntmps161
   go_wp2
   refine bodyPost_ret (Kk rfl _ _ w.heap.size 32 _ (0,0) _ rfl (heap_alloc_new _ _) underlying32 rfl d) rfl ?_;rw[a.out,h.out];exact⟨rfl,i⟩
 .have h1':¬ (key.length:Int)=32:=by omega
  have a:Hid (Er key l=1):=O6 (.inl o);have h:Hid (Mq key l=tkA 0 0 0):=IR (by rw[a.out];omega);go_enter func161,ntmps161
  go_wp2
  refine bodyPost_ret (Kk rfl _ _ w.heap.size 32 _ (0,0) _ rfl (heap_alloc_new _ _) underlying32 rfl d) rfl ?_;rw[a.out,h.out];exact⟨rfl,i⟩
end
end
section
section
def KK(l:List Int):Int:=if l=[]then 13 else if 7<l.getD 0 0 then 2 else GM (IB (l.getD 0 0)) 0 0 noB (l.drop 1)
def Px(l:List Int):List Int:=if KK l=0 then Jh (IB (l.getD 0 0)) (l.drop 1)else[]
def unT(l:List Int):List Int:=(Px l).take 22
def unQ(l:List Int):List Int:=(Px l).drop 22
def unB(l:List Int):Prop:=KK l=0/\(Px l).length=42/\Er Fo (unT l)=0
instance (l:List Int):Decidable (unB l):=by unfold unB;exact inferInstance
def unE(l:List Int):Int:=if KK l≠0 then KK l else if(Px l).length≠42 then 3 else if Er Fo (unT l)≠0 then Er Fo (unT l)else Cl (unQ l)
variable{l:List Int}{now:Int}
theorem RH(h:unE l=0):unB l/\Cl (unQ l)=0:=by
 unfold unE at h;split at h
 .rename_i g;exact absurd h g
 .rename_i g1
  split at h
  .cases h
  .rename_i g2
   split at h
   .rename_i g;exact absurd h g
   .rename_i g3
    exact⟨⟨mX.1 g1,mX.1 g2,mX.1 g3⟩,h⟩
theorem mf(h:unE l=0):0<l.length:=by
 obtain⟨⟨a,_⟩,_⟩:=RH h;cases l with
 | nil=>cases a
 | cons x r=>simp
def opE(l:List Int)(now:Int):Int :=
 if unE l≠0 then unE l
 else if Ad (unQ l) 0≠0/\Ad (unQ l) 4≠l.getD 0 0 then 11
 else EM ((unT l).getD 0 0) ((unT l).getD 1 0) (Ad (unT l) 2) (Ad (unQ l) 0) (Ad (unQ l) 4) (Ad (unQ l) 8) (Ad (unQ l) 12) (Ad (unQ l) 16) now
def opA(l:List Int)(now:Int):Array Value:=if opE l now=0 then cmA (Ad (unQ l) 0) (Ad (unQ l) 4) (Ad (unQ l) 8) (Ad (unQ l) 12) (Ad (unQ l) 16)else cmA 0 0 0 0 0
theorem iS(h:opE l now≠0):opA l now=cmA 0 0 0 0 0:=if_neg h
theorem iT(h:opE l now=0):opA l now=cmA (Ad (unQ l) 0) (Ad (unQ l) 4) (Ad (unQ l) 8) (Ad (unQ l) 12) (Ad (unQ l) 16):=if_pos h
def pick(n many:Int):Int:=if n<0 then(-(n+1))%many else n%many
theorem Cj(n a:Int)(b:0<a):0<=pick n a/\pick n a<a:=by
 unfold pick;split
 .exact⟨rU _ (by omega),rA _ b⟩
 .exact⟨rU _ (by omega),rA _ b⟩
def wK(a:Int):Int:=1+pick a 5/2
def wV(a e:Int):Int:=if wK a=1 then pick e 1000 else 0
theorem bY(a e:Int):0<=wV a e/\wV a e<=1000:=by
 have:=Cj e 1000 (by omega);unfold wV;split<;>omega
def acN(k:Int)(n:Int):Lac:=⟨k,n,0,0,[]⟩
def Az:List Lac:=(List.range 5).map λn:Nat=>acN 9 (n:Int)
def An:List Lac:=(List.range 5).map (λn:Nat=>acN 3 (n:Int))++[acN 7 0]
def Al:Nat->List Lac
 | 0=>[]
 | m+1=>Al m++An
def Dr(m:Nat):List Lac:=Az++Al m
def hvy(x:Lac):Bool:=decide (x.k=1\/x.k=2\/x.k=6\/x.k=8)
def Fq(l:List Lac):Nat:=100+20*(l.filter hvy).length
def Cv(m:Nat)(i:Int):List Lac:=Dr 0++[acN 2 i]++Dr m
def DX(l:List Lac)(i:Int):List Lac:=Cv (Fq l) i++Cv (Fq l) i
end
end
section
open Go.RowKit
theorem btr{w c d:World}(a:Bw w c)(b:Bw c d):Bw w d:=a.trans (b.mono a.size)
def lB(L:List Sh):List Nat:=L.filterMap λx=>match x.t with|.l=>some x.g|_=>none
def gK(L:List Sh):Gh:=⟨λb=>if(lB L).elem b then .l else .z,λ_=>0⟩
def zl(L:List Sh):Bool:=L.all λx=>match x.t with|.n _ _=>false|_=>true
theorem LZ{L:List Sh}{b:Nat}:b∈lB L↔∃ x∈L,x.t=.l/\x.g=b:=by
 unfold lB;rw[List.mem_filterMap];constructor
 .rintro⟨x,hx,h⟩;cases ht:x.t<;>rw[ht]at h<;>simp at h;exact⟨x,hx,ht,h⟩
 .rintro⟨x,hx,ht,rfl⟩;exact⟨x,hx,by rw[ht]⟩
section
variable{P:Program}{fn:Func}{R:Ending->World->Prop}{B:Nat}{T:List Tg}{g:Gh}{w:World}
section
variable{L L':List Sh}{f:FuncId}{s:Xs}{w':World}
theorem Kn.re(h:Kn B g w L)(q:zl L=true):Kn B (gK L) w L:=by
 refine⟨λx d=>?_,h.sU,λb s=>⟨?_,rfl⟩,h.base⟩
 .have h1:=h.row x d;refine⟨h1.1,?_,h1.2.2.1,λ_=>rfl⟩;show(if(lB L).elem x.g then Tg.l else Tg.z)=x.t;cases ht:x.t with
  | l=>rw[if_pos (by rw[pX];exact O' (LZ.2 ⟨x,d,ht,rfl⟩))]
  | n r i=>have:=oK.1 q x d;rw[ht]at this;cases this
  | z =>
   rw[if_neg];rw[pX];intro f;obtain⟨y,m,c,a⟩:=LZ.1 (nL f);have k:x≠y:=λe=>by rw[e,c]at ht;cases ht
   have:(x.g=y.g->(x.t=.z/\x.w=false)/\y.t=.z/\y.w=false)\/(y.g=x.g->(y.t=.z/\y.w=false)/\x.t=.z/\x.w=false):=by
    obtain⟨i,o,rfl⟩:=pG d;obtain⟨j,p,rfl⟩:=pG m;rcases qy i j with h1|h1|h1
    .exact .inl (nZ.1 h.sU i j o p h1)
    .subst h1;exact absurd rfl k
    .exact .inr (nZ.1 h.sU j i p o h1)
   rcases this with h2|h2
   .have:=(h2 a.symm).2.1;rw[c]at this;cases this
   .have:=(h2 a).1.1;rw[c]at this;cases this
 .show(if(lB L).elem b then Tg.l else Tg.z)=.z;rw[if_neg];rw[pX];intro f;obtain⟨y,m,_,a⟩:=LZ.1 (nL f);have:=(U'.1 (h.row y m).1).1;omega
def GK(P:Program)(fn:Func)(R:Ending->World->Prop)(B:Nat)(s:Xs)(w:World):Prop:=GG P fn R B [] s (gK s.L) w
theorem kIn{a:Array Value}(d:P.funcs[f]?=some fn)(h:GK P fn R w.heap.size ⟨[.c (PZ fn)],⟨fn.ntmps,OY 0 a.toList,λ_=>undef⟩,[]⟩ w)(b:fn.body.isSome=true:=by kernel_rfl)(e:Nat.ble a.size fn.ntmps=true:=by kernel_rfl):Calls P f a w R:=gIn [] (gK []) d b e (λ_ _=>⟨rfl,rfl⟩) h
theorem du{d:Gh}(c:Cg B [] (gK s.L) w d w')(j:Kn B g w s.L)(a:Kn B d w' L')(p:(L'.take s.L.length).map (λx=>(x.g,x.o))=s.L.map (λx=>(x.g,x.o))):Bw w w':=by
 refine⟨c.os,c.tape,c.output,c.size,λb k=>?_⟩;by_cases e:b∈lB s.L
 .obtain⟨x,hx,_,rfl⟩:=LZ.1 e;have f:(x.g,x.o)∈(L'.take s.L.length).map (λx=>(x.g,x.o)):=by rw[p];exact nw.2 ⟨x,hx,rfl⟩
  obtain⟨y,q,m⟩:=nw.1 f;injection m with e1 e2
  have i:=(a.row y (nm q)).1;rw[<- e1,i,e2,e1];exact(j.row x hx).1.symm
 .refine c.same b k Q' (λh=>?_);have:(if(lB s.L).elem b then Tg.l else Tg.z)=.l:=h;rw[if_neg (by rw[pX];simpa using e)]at this
  cases this
theorem kR(m:Nat)(h:List Nat)(e:∀ gs w',Bw w w'->GK P fn R B (rn0 P [] gs m s h).s w')(b:∀ gs,(rn0 P [] gs m s h).o.map Ob.l'=(rn0 P [] gs m s h).o.map Ob.r':=by intro _;kernel_rfl)(i:∀ gs,zl (rn0 P [] gs m s h).s.L=true:=by intro _;kernel_rfl)(f:∀ gs,((rn0 P [] gs m s h).s.L.take s.L.length).map (λx=>(x.g,x.o))=s.L.map (λx=>(x.g,x.o)):=by intro _;kernel_rfl):GK P fn R B s w :=
 Af λd=>dw [] m h b λgs j w' c=>⟨λa=>(e gs w' (du c d a (f gs))).ex (a.re (i gs))⟩
structure Kept(L:List Sh)(w w':World):Prop where
 size:w.heap.size<=w'.heap.size
 rows:AR L w
 same:∀ b,b<w.heap.size->b∉lB L->w'.heap[b]?=w.heap[b]?
theorem kF(m:Nat)(h:List Nat)(i:∀ gs w',Below B w w'->Kept s.L w w'->GK P fn R B (rn0 P [] gs m s h).s w')(e:∀ gs,(rn0 P [] gs m s h).o.map Ob.l'=(rn0 P [] gs m s h).o.map Ob.r':=by intro _;kernel_rfl)(k:∀ gs,zl (rn0 P [] gs m s h).s.L=true:=by intro _;kernel_rfl):GK P fn R B s w :=
 Af λg=>dw [] m h e λgs p w' c=>⟨λd=>(i gs w' ⟨c.os,c.tape,c.output,c.size,λb a=>c.same b (X' a g.base) Q' (λ_=>a)⟩ ⟨c.size,g.rows,λb a j=>c.same b a Q' λh=>by
  have f:(if(lB s.L).elem b then Tg.l else Tg.z)=.l:=h;rw[if_neg (by rw[pX];simpa using j)]at f
  cases f⟩).ex (d.re (k gs))⟩
def noU(L:List Sh):Bool:=L.all λx=>match x.t,x.o with|.l,.cells c _ _=>c.all (λv=>match v with|.int .u8 _=>false|_=>true)|.l,_=>false|_,_=>true
theorem Sl.kept{x:Value}{l:List Int}(h:Sl w x l)(k:Kept L w w')(p:noU L=true:=by kernel_rfl):Sl w' x l:=by
 obtain⟨⟨a,g,B,v,A,j⟩,t,u⟩:=h;refine⟨⟨a,g,B,v,A,?_⟩,t,u⟩;rcases j with j|⟨b,off,ha,hbs,hcell⟩
 .exact .inl j
 .by_cases hl:l=[]
  .exact .inl hl
  .refine .inr ⟨b,off,ha,X' hbs k.size,λi z=>?_⟩;have m:b∉lB L:=by
    intro m;obtain⟨y,s,q,rfl⟩:=LZ.1 m;have r:=k.rows y s;have f:=oK.1 p y s;have n:0<l.length:=List.length_pos_iff.2 hl;have d:=hcell 0 n;rw[q]at f
    cases ho:y.o with
    | cells c e fr =>
     rw[ho]at f r
     rw[cell_of_row _ _ _ _ _ _ r]at d
     have:=Array.all_eq_true.1 f (off+0) (U'.1 d).1;rw[(U'.1 d).2]at this
     cases this
    | _=>rw[ho]at f;cases f
   rw[World.cell?_of_block (w:=w) (k.same b hbs m)];exact hcell i z
theorem gf(s:Xs)(i:Nat)(v:Value)(a:(nxt s i undef s.L).o.map Ob.l'=(nxt s i undef s.L).o.map Ob.r'):(nxt s i v s.L).s.L=s.L:=by
 obtain⟨K,f,L⟩:=s;unfold nxt;cases K with
 | nil=>rfl
 | cons t K=>cases t<;>first|rfl|(simp only;repeat' split)<;>rfl
theorem GK.of{a:Xs}(h:GK P fn R B a w)(e:a.L=s.L):GG P fn R B [] a (gK s.L) w:=by rw[<- e];exact h
theorem kV(i:Nat)(v:Value){S:Sem Value}(c:S.run P w=.ok v w)(b:GK P fn R B (nxt s i v s.L).s w)(d:Ds s i=some (S>>=λv=>pure (.value v)):=by kernel_rfl)(a:(nxt s i undef s.L).o.map Ob.l'=(nxt s i undef s.L).o.map Ob.r':=by kernel_rfl):GK P fn R B s w:=qV i v c (b.of (gf s i v a)) d a
theorem cW(s:Xs)(t:Bool):(L5 s t).L=s.L:=by unfold L5;split<;>rfl
theorem kI(b t:Bool)(a:b=t)(h:GK P fn R B (L5 s t) w)(c:Ql s=.bool b:=by kernel_rfl):GK P fn R B s w:=qI b t a (h.of (cW s t)) c
theorem kC(i:Nat){f:FuncId}{b:Array Value}{C:Ending->World->Prop}(c:Calls P f b w C)(g:∀ e w',C e w'->∃ v,e=.returned v/\Bw w w'/\GK P fn R B (nxt s i v s.L).s w')(j:∀ W,Df P s i W=some (.ok (.enter f b) W):=by intro _;kernel_rfl)(d:KC s i=true:=by kernel_rfl)(a:(nxt s i undef s.L).o.map Ob.l'=(nxt s i undef s.L).o.map Ob.r':=by kernel_rfl):GK P fn R B s w:=qC i c (λe w' h=>let ⟨v,h1,h2,h3⟩:=g e w' h;⟨v,h1,h2,h3.of (gf s i v a)⟩) j d a
theorem kE(v:Value)(h:R (.returned v) w)(a:Kn B (gK s.L) w s.L->(results fn s.f.act.tmps).run P w=.ok v w:=by intro _;kernel_rfl)(b:LF s.K=true:=by kernel_rfl):GK P fn R B s w:=qE v (λ_=>h) a b
theorem kA(n:Nat)(a:World->List (Nat × Value)->List Sh->Prop)(d:∀ J:Act->World->Prop,(∀ w' e z L,a w' e L->Kn B (gK L) w' L->J (⟨n,e,z⟩:Fm).act w')->GK P fn R B (Yg s J) w)(g:∀ w' e z L,a w' e L->GK P fn R B ⟨s.K.tail,⟨n,e,z⟩,L⟩ w')(j:s.K.isEmpty=false:=by kernel_rfl):GK P fn R B s w:=by
 refine Ea n (λc w' e L=>a w' e L/\c=gK L) j (λJ h=>?_) ?_
 .have:=d J λw' e z L b i=>h (gK L) w' e z L ⟨b,rfl⟩ i;exact this.of (by obtain⟨K,f,L⟩:=s;unfold Yg;cases K<;>rfl)
 .rintro c w' e z L ⟨b,rfl⟩;exact g w' e z L b
theorem kB{J:Act->World->Prop}{n:Nat}{e:List (Nat × Value)}(m:List Bool){a:List Sh}(h:∀ z,Kn B (gK a) w a->J (⟨n,e,z⟩:Fm).act w)(g:isJ s.K=true:=by kernel_rfl)(b:jK s.K=J:=by kernel_rfl)(i:s.f.n=n:=by kernel_rfl)(d:e.map (λp=>lk s.f.z s.f.e p.1)=e.map (·.2):=by kernel_rfl)(c:BN (AK m s.L)=a:=by kernel_rfl)(j:zl a=true:=by kernel_rfl):GK P fn R B s w:=qB m (λz _ K=>h z (K.re j)) g b i d c
theorem kG(i j:Nat)(a:GK P fn R B (JY s i) w)(b:GK P fn R B (JY s j) w)(c:fD s i j=true:=by kernel_rfl):GK P fn R B s w :=
 have e:∀ i,(JY s i).L=s.L:=λi=>by unfold JY;split<;>rfl
 DT i j c (a.of (e i)) (b.of (e j))
end
end
section
def TO:List Tg:=[.n 50 0,.n 51 0,.n 52 0]
variable{c:Cmd}{g:Gh}{i k nb ob:Nat}{l:Let}{ls:List Let}{p:Nod}{ts:List Tol}{w:World}{x:S3}
theorem aI{x:NX}{lt t:S3}(C:NodeAt g w i nb ob x p)(s:OutAt g w ob lt t ls ts)(D:Jr g w)(Q:ls.length<100000000)(l:Let)(m o:S3)(E:FSv g w m l.mv)(F:Rc g w o l.gC)(to:Nat) :
  Calls prog 123 #[pt nb 0,iv (to:Int),.agg (FF l m o)] w λe w'=>∃ g' lt',e=.returned (.tuple #[])/\OutAt g' w' ob lt' t (ls++[{ l with src:=i,dst:=to }]) ts/\Cg w.heap.size TO g w g' w'/\Jr g' w':=by
 obtain⟨B,u,j⟩:=s.br;have k:lt.n=ls.length:=by have:=u.len;have:=j.len;simp at *;omega
 refine gI (fn:=f123) TO g func123 D (qN C (qO s (qR [] 29 [0,0,0,2,0,2,0,15,0,2,4,6,0,8,10,12,14,0,16,18,20,1,23,0,0] λd N S a=>KD 12 (x:=lt) 111 111 184 1 8 (.pointer none) ⟨(d 1),0,none⟩ 1 1 [pt (d 0) 0] (u.ch a) (by kernel_rfl) (by kernel_rfl) (by kernel_rfl) underlying111 (by kernel_rfl) (by kernel_rfl) (by decide) (by decide) rfl (by simp[Value.oneCell']) (λK=>Dz K 3 (d 1) [pt (d 0) 0] 184 .z true (by kernel_rfl)) (by rw[k];unfold maxLen;omega) (by rw[k];omega) ?_)));intro y O T A R q M;have h:=q w.heap.size [.n 51 0] (D'.2 rfl);refine qR [.n 50 0] 4 [26,28,31,1,1] λs3 P U b=>qE (.tuple #[]) λK=>?_;obtain⟨G,H,I⟩:=K.sJ 1 ob (.cells #[S3.v y,S3.v t] 113) 50 0 (by kernel_rfl);obtain⟨J,L⟩:=K.sI 2 (d 0) (.cells (FF { l with src:=i,dst:=to } m o) 183) false (by kernel_rfl);have c:∀ r,Tg.z∉[Tg.n r 0]:=λr=>by simp
 refine⟨_,y,rfl,⟨G,H,I,⟨B++[(d 0)],?_,?_⟩,(((s.ed.ch a).ch h).ch b)⟩,(((a.nil TO).trans (h.mono (by simp[TO]))).trans (b.mono (by simp[TO]))),K.new⟩
 .rw[nG];exact A.ch b
 .refine(((j.ch a).ch h (c _)).ch b (c _)).snoc ⟨m,o,⟨J,L⟩,(((E.ch a).ch h (c _)).ch b (c _)),(((F.ch a).ch h (c _)).ch b (c _))⟩
theorem AY(h:NS i nb ob g w p ls ts)(L:p.bu.length<100000000)(e:Fn)(d:Array Value)(q:Pend)(C:Lk g w nb (.func e #[] d) q) :
  Calls prog 93 #[pt nb 0,.func e #[] d] w (NP i nb ob g w (.tuple #[]) (p.wait q) ls ts):=by
 obtain⟨x,lt,D,b,t,B⟩:=h;obtain⟨E,u,j⟩:=b.bu;have v:x.synced.n=p.bu.length:=by have:=u.len;have:=j.len;simp at *;omega
 refine gI (fn:=f93) (TN i) g func93 B (qN b (qO t (qR [] 9 [0,0,0] λy H N k=>KD 8 (x:=x.synced) 125 125 1 1 8 (.nilFunc) ⟨(y 0),0,none⟩ 1 1 [.func e #[] d] (u.ch k) (by kernel_rfl) (by kernel_rfl) (by kernel_rfl) underlying125 (by kernel_rfl) (by kernel_rfl) (by decide) (by decide) rfl (by simp[Value.oneCell']) (λK=>Dz K 2 (y 0) [.func e #[] d] 1 .z true (by kernel_rfl)) (by rw[v];unfold maxLen;omega) (by rw[v];omega) ?_)));intro F I O A M r G;have s:=r w.heap.size [.n 1 i] (D'.2 rfl);refine qR [.n 0 i] 5 [0,1] λs3 J P o=>qE (.tuple #[]) λK=>?_;have a:=((k.nil ([.n 1 i,.n 0 i]:List Tg)).m s).m o;have c:Tg.z∉([.n 1 i,.n 0 i]:List Tg):=by simp
 exact⟨_,rfl,⟨{ x with synced:=F },lt,D,K.nd 0 (b.tape.ch a c) (b.mv.ch a c) (B9 b.an a c) ⟨E++[.func e #[] d],A.ch o,(j.ch a c).snoc (C.ch a c)⟩ (b.fa.ch a) (b.ae.ch a) (b.av.ch a) (b.bN.ch a) b.sS,t.ch a c (by simp<;>omega),K.new⟩,(((k.nil (TN i)).trans (s.mono (by simp[TN]))).trans (o.mono (by simp[TN])))⟩
theorem RE(h:NS i nb ob g w p ls ts)(I:ts.length<100000000)(c:Cmd)(b a:Int) :
  Calls prog 90 #[pt nb 0,.agg (cmC c),.agg #[iv b,iv a]] w (NP i nb ob g w (.tuple #[]) p ls (ts++[⟨i,c.c,c.s,b,a⟩])):=by
 obtain⟨x,lt,v,r,d,C⟩:=h;have t:v.n=ts.length:=by have B:=d.ed.len;rw[GN]at B;omega
 refine gI (fn:=f90) (TN i) g func90 C (qN r (qO d (qR [] 28 [0,0,0,0,25,0,2,4,6,0,8,10,12,14,0,16,18,20,1,22,24,26,28,0,30,32,2,34,36,2,38,3,40,43,0,0] λu F L e=>KD 22 (x:=v) 39 39 142 5 40 (.agg #[iv 0,iv 0,iv 0,iv 0,iv 0]) ⟨(u 2),0,none⟩ 1 1 [iv (i:Int),iv c.c,iv c.s,iv b,iv a] (d.ed.ch e) (by kernel_rfl) (by kernel_rfl) (by kernel_rfl) underlying39 (by kernel_rfl) (by kernel_rfl) (by decide) (by decide) rfl (by simp[Value.oneCell']) (λK=>Dz K 4 (u 2) [iv (i:Int),iv c.c,iv c.s,iv b,iv a] 142 .z true (by kernel_rfl)) (by rw[t];unfold maxLen;omega) (by rw[t];omega) ?_)));intro D G M A J k E;have q:=k w.heap.size [.n 52 0] (D'.2 rfl);refine qR [.n 50 0] 4 [46,48,51,1,1] λs3 H N j=>qE (.tuple #[]) λK=>?_;have o:=((e.nil ([.n 52 0,.n 50 0]:List Tg)).m q).m j;have y:Tg.z∉([.n 52 0,.n 50 0]:List Tg):=by simp
 exact⟨_,rfl,⟨x,lt,D,K.ud 0 r o,K.od 1 (Ep d.br o y (by simp)) (by rw[List.flatMap_append];exact A.ch j),K.new⟩,(((e.nil (TN i)).trans (q.mono (by simp[TN]))).trans (j.mono (by simp[TN])))⟩
theorem KQ(h:NS i nb ob g w p ls ts)(b:Nat)(l:Let)(o:CP g w b l) :
  Calls prog 83 #[pt nb 0,pt b 0] w (NP i nb ob g w (.tuple #[]) { p with cF:=max p.cF l.hU.r } ls ts):=by
 obtain⟨x,lt,t,j,k,m⟩:=h;refine gI (fn:=f83) (TN i) g func83 m (qN j (qO k ?_));obtain⟨B,E,a,q,s⟩:=o;refine Cq ⟨b,_,.z,false⟩ (λ_=>⟨a.r,a.z,λh=>(by cases h),λh=>absurd rfl h⟩) (by kernel_rfl) ?_;refine qR [] 12 [15,0,2,4,6,8,10,0,12,14,16,18,20,2] λy u C d=>qT 11 (iv (max p.cF l.hU.r)) (λ_=>(l9 #[3,3] 3 p.cF l.hU.r)) (qR [.n 0 i] 5 [24,26,28,31,0,1] λA v D e=>qE (.tuple #[]) λK=>?_);have c:=(d.nil ([.n 0 i]:List Tg)).trans (e);exact⟨_,rfl,⟨x,lt,t,K.ud 0 j c,k.ch c (hn:=by simp<;>omega),K.new⟩,((d.nil (TN i)).trans (e.mono (by simp[TN])))⟩
theorem FS(h:NS i nb ob g w p ls ts)(o:ls.length<100000000)(l:Let)(b c:S3)(s:FSv g w b l.mv)(t:Rc g w c l.gC)(to:Nat) :
  Calls prog 123 #[pt nb 0,iv (to:Int),.agg (FF l b c)] w (NP i nb ob g w (.tuple #[]) p (ls++[{ l with src:=i,dst:=to }]) ts):=by
 obtain⟨x,lt,u,f,n,q⟩:=h;refine(aI f n q o l b c s t to).mono ?_;rintro e y ⟨j,a,rfl,k,d,m⟩;exact⟨j,rfl,⟨x,a,u,f.ch d (by simp[TO]) (λr v=>by simp[TO];omega),k,m⟩,d.mono (by simp[TO,TN])⟩
def BV(i:Nat)(l:Let)(k:Nat):List Let:=((List.range k).filter λj=>decide (j≠i)).map λto=>{ l with src:=i,dst:=to }
theorem aL(h:k≠i):BV i l (k+1)=BV i l k++[{ l with src:=i,dst:=k }]:=by unfold BV;rw[pg,oY,nG];simp[h]
theorem aJ(h:k=i):BV i l (k+1)=BV i l k:=by unfold BV;rw[pg,oY,nG];simp[h]
theorem aK(i:Nat)(l:Let)(k:Nat):(BV i l k).length<=k:=by unfold BV;rw[nA];exact mS (pQ _ _) (by simp)
theorem EF(h:NS i nb ob g w p ls ts)(hb:ls.length<90000000)(l:Let)(D E:S3)(hv:FSv g w D l.mv)(hw:Rc g w E l.gC) :
  Calls prog 96 #[pt nb 0,.agg (FF l D E)] w (NP i nb ob g w (.tuple #[]) p (ls++BV i l 5) ts):=by
 obtain⟨x,lt,tl,V,W,hg⟩:=h;refine gI (fn:=f96) (TN i) g func96 hg (qN V (qO W (qR [] 9 [0,0] λG g1 w1 Q=>Cd 19 [(0,pt nb 0),(3,pt (G 0) 0),(5,iv 0)] [false,false,true] [⟨(G 0),.cells #[iv (l.kind:Int),iv (l.src:Int),iv (l.dst:Int),iv l.hU.r,iv l.hU.n,iv l.cl.bt,iv l.cl.b.r,iv l.cl.b.n,iv l.cl.w.k,iv l.cl.w.c,iv l.cl.w.s,iv l.cl.w.n,iv l.cl.w.v,S3.v D,iv (l.bt:Int),S3.v E] 183,.z,false⟩] (λk T X e L=>∃ j:Nat,k=5-j/\j<=5/\e=[(0,pt nb 0),(3,pt (G 0) 0),(5,iv (j:Int))]/\L=[⟨(G 0),.cells #[iv (l.kind:Int),iv (l.src:Int),iv (l.dst:Int),iv l.hU.r,iv l.hU.n,iv l.cl.bt,iv l.cl.b.r,iv l.cl.b.n,iv l.cl.w.k,iv l.cl.w.c,iv l.cl.w.s,iv l.cl.w.n,iv l.cl.w.v,S3.v D,iv (l.bt:Int),S3.v E] 183,.z,false⟩]/\NS i nb ob T X p (ls++BV i l j) ts/\Cg w.heap.size (TN i) g w T X) (by kernel_rfl) (by kernel_rfl) (by kernel_rfl) (by kernel_rfl) 5 (λK=>?_) ?_)))
 .have C2:=Q;refine⟨0,rfl,by omega,rfl,rfl,?_,Q.nil _⟩;rw[show BV i l 0=[]from rfl,nB];exact(nsC V W C2 K)
 .rintro k gr wr _ zr _ ⟨j,rfl,hj,rfl,rfl,hM,hC⟩ J hJ;have hs:=aK i l j;obtain⟨xr,a4,a9,a,d,a2⟩:=hM;refine qN a (qO d (qR [] 5 [] λs3 g3 w3 m=>?_));by_cases h1:j<5
  .refine qI (decide ((j:Int)<5)) true (O' (by omega)) (qR [] 17 [1] λs4 g4 w4 y=>?_);by_cases U:(j:Int)≠(i:Int)
   .refine qI (((j:Int) != (i:Int))) true (by simpa using U) (qR [] 4 [0] λs5 g5 w5 M=>?_);have P:=(((hC.n m).n y).n M);refine Af λK=>?_;have Y:NS i nb ob g5 w5 p (ls++BV i l j) ts:=(nsC a d ((m.n y).n M) K);refine qG 3 (TN i) [true,false,false] (FS Y (by simp;omega) l D E (hv.ch P (Bx i)) (hw.ch P (Bx i)) j) ?_;rintro e' w6 ⟨g6,rfl,I,F⟩;refine⟨_,g6,rfl,F,I.new,?_⟩;replace F:=F.ret (B:=w.heap.size);rw[mY,<- aL (by omega)]at I
    obtain⟨x6,a3,a8,A,C,a1⟩:=I;refine qN A (qO C (qR [] 3 [] λs8 g8 w8 R=>qV 0 (iv ((j:Int)+1)) (AX 5 (j:Int) underlying3 (by omega)) (qR [] 2 [] λs9 g9 w9 S=>qB [true,false,false] λz H K=>hJ (5-(j+1)) _ _ _ z _ (by omega) ⟨j+1,rfl,by omega,rfl,rfl,?_,((((((hC.n m).n y).n M).trans F).n R).n S)⟩ K)));have o:NS i nb ob g9 w9 p (ls++BV i l (j+1)) ts:=(nsC A C (R.n S) H);exact o
   .refine qI (((j:Int) != (i:Int))) false (by simpa using U) (qR [] 3 [] λa5 Z b0 q=>qV 0 (iv ((j:Int)+1)) (AX 5 (j:Int) underlying3 (by omega)) (qR [] 2 [] λa6 N O t=>qB [true,false,false] λz H K=>hJ (5-(j+1)) _ _ _ z _ (by omega) ⟨j+1,rfl,by omega,rfl,rfl,?_,((((hC.n m).n y).n q).n t)⟩ K));have o:NS i nb ob N O p (ls++BV i l j) ts:=(nsC a d (((m.n y).n q).n t) H);exact(by simpa[aJ (show j=i by omega)]using o)
  .refine qI (decide ((j:Int)<5)) false (H' (by omega)) (qR [] 1 [] λa7 a0 b1 u=>?_);obtain rfl:j=5:=by omega
   exact qF a d (m.n u) ((hC.n m).n u)
theorem Ou(h:NS i nb ob g w p ls ts) :
  Calls prog 125 #[pt nb 0] w λe w'=>e=.returned (.bool p.leads)/\Bw w w':=by
 obtain⟨x,lt,z,k,l,m⟩:=h;refine gI (fn:=f125) (TN i) g func125 m (qN k (qO l (qR [] 13 [24,0,2,4,6,8,10,0,12] λs n A b=>?_)));by_cases a:p.bn.hU=Bf
 .refine qT 7 (.bool false) (λ_=>(IT (x:=(.tmp 8)) (y:=(.tmp 9)) p.bn.hU Bf a)) (qR [] 17 [16,18,20,22,24,26,28,30,32,34,36,38,40,42,44,46] λt o B c=>qE (.bool false) λK=>⟨(by rw[show p.leads=false from H' (λh=>h.1 a)]),Cg.af (b.trans c) (λ_ _=>Q')⟩)
 .refine qT 7 (.bool true) (λ_=>(IU (x:=(.tmp 8)) (y:=(.tmp 9)) p.bn.hU Bf a)) (qR [] 13 [16,18,20,22,24,26,28,0,30,32,34,36,38,40,0] λu q C d=>qT 21 (.bool (decide (p.bn.hU=p.vo.p))) (λ_=>(mA (x:=(.tmp 17)) (y:=(.tmp 23)) p.bn.hU p.vo.p)) (qR [] 3 [44,46] λv r D j=>qE (.bool (decide (p.bn.hU=p.vo.p))) λK=>⟨(by rw[show p.leads=decide (p.bn.hU=p.vo.p)from ol.2 ⟨λh=>h.2,λh=>⟨a,h⟩⟩]),Cg.af ((b.trans d).trans j) (λ_ _=>Q')⟩))
theorem Mv(h:NS i nb ob g w p ls ts)(v:p.bu.length<100000000)(to:Nat)(e:Int) :
  Calls prog 121 #[pt nb 0,iv (to:Int),iv e] w (NP i nb ob g w (.tuple #[]) (p.ew to e) ls ts):=by
 obtain⟨x,lt,N,d,k,y⟩:=h;refine gI (fn:=f121) (TN i) g func121 y (qN d (qO k (qR [] 11 [0,0,0,0] λc I O a=>?_)));by_cases b:e=7
 .refine qI (e != 7) false (by simpa using b) (qR [] 15 [2,0,0,0,4,0,2] λq u B m=>Af λK=>?_);obtain⟨C,D⟩:=K.sI 2 (c 0) (.cells #[pt nb 0] 116) false (by kernel_rfl);obtain⟨E,F⟩:=K.sI 3 (c 1) (.cells #[iv (to:Int)] 3) false (by kernel_rfl);obtain⟨G,H⟩:=K.sI 4 (q 0) (.cells #[iv p.vo.p.r,iv p.vo.p.n] 121) true (by kernel_rfl);have s:NS i nb ob u B p ls ts:=(nsC d k (a.n m) K);refine qS0 2 [false,false,true,true,true] (AY s v _ _ (.ew to p.vo.p) ⟨(c 0),(c 1),(q 0),rfl,⟨C,D⟩,⟨E,F⟩,⟨G,H⟩⟩) λJ P R z A j l t=>qR [] 1 [] λM L Q o=>qE (.tuple #[]) λK=>?_;rw[show p.ew to e=p.wait (.ew to p.vo.p)from if_pos b];exact⟨_,rfl,(nsC j l o K),((((a.nil (TN i)).n m).trans (t)).n o)⟩
 .refine qI (e != 7) true (by simpa using b) (qE (.tuple #[]) λK=>?_);rw[show p.ew to e=p from if_neg b];exact⟨_,rfl,(nsC d k a K),(a.nil (TN i))⟩
def gh0:Gh:=⟨λ_=>.z,λ_=>0⟩
def QC(l:List Cmd)(c:Cmd):Int:=if c∈l then(l.idxOf c:Int)else -1
theorem QD:∀ {l:List Cmd} {j:Nat},l[j]?=some c->l.idxOf c<=j
 | [],j,h=>by cases h
 | d::l,0,h=>by simp only[oE,Z']at h;subst h;simp
 | d::l,j+1,h=>by
  have:=QD (l:=l) (j:=j) (by simpa using h);rw[List.idxOf_cons];cases d==c<;>simp<;>omega
theorem dG(l:List Cmd)(c:Cmd):decide (0<=QC l c)=decide (c∈l):=by
 unfold QC;by_cases a:c∈l
 .rw[if_pos a,O' a];exact O' (by omega)
 .rw[if_neg a,H' a];rfl
theorem YO{l:List Cmd}{j:Nat}(h:l[j]?=some c)(e:∀ i,i<j->l[i]?≠some c):QC l c=(j:Int):=by
 have b:c∈l:=np h;have f:j<l.length:=(V'.1 h).1;unfold QC;rw[if_pos b]
 congr 1
 have a:l.idxOf c<l.length:=List.idxOf_lt_length_iff.2 b;have d:l[l.idxOf c]?=some c:=by rw[E' a,List.getElem_idxOf a]
 rcases qy (l.idxOf c) j with h3|h3|h3
 .exact absurd d (e _ h3)
 .exact h3
 .have:=QD h;omega
theorem On{l:List Cmd}(h:RdC w x l)(Z:l.length<100000000)(c:Cmd) :
  Calls prog 136 #[x.v,.agg #[iv c.k,iv c.c,iv c.s,iv c.n,iv c.v]] w λe w'=>e=.returned (iv (QC l c))/\Bw w w':=by
 have hn:=h.len;refine gI (fn:=f136) [] gh0 func136 (λ_ _=>⟨rfl,rfl⟩) (qR [] 13 [0,0] λo S w1 C=>Cd 19 [(0,S3.v x),(3,pt (o 0) 0),(7,iv (x.n:Int)),(8,iv 0)] [true] [⟨(o 0),.cells #[iv c.k,iv c.c,iv c.s,iv c.n,iv c.v] 24,.z,false⟩] (λk G w' e L=>∃ j:Nat,k=l.length-j/\j<=l.length/\e=[(0,S3.v x),(3,pt (o 0) 0),(7,iv (x.n:Int)),(8,iv (j:Int))]/\L=[⟨(o 0),.cells #[iv c.k,iv c.c,iv c.s,iv c.n,iv c.v] 24,.z,false⟩]/\(∀ i,i<j->l[i]?≠some c)/\Cg w.heap.size [] gh0 w G w') (by kernel_rfl) (by kernel_rfl) (by kernel_rfl) (by kernel_rfl) l.length (λK=>?_) ?_)
 .exact⟨0,rfl,by omega,rfl,rfl,λi d=>absurd d (by omega),C⟩
 .rintro k gr wr _ zr _ ⟨j,rfl,hj,rfl,rfl,hI,hC⟩ J hJ;refine qR [] 5 [] λs2 T w2 g=>?_;by_cases B:j<l.length
  .refine qI ((decide ((j:Int)<(x.n:Int)))) true (O' (by omega)) ?_;obtain⟨a,b⟩:∃ a,l[j]?=some a:=⟨_,E' B⟩;rcases h.ex with h2|⟨bx,ox,hxa,hbx,hcell⟩
   .exact absurd B (by rw[h2];simp)
   refine qR [] 13 [6,0,0,2,4] λs3 U w3 r=>qT 3 (pt bx (ox+5*j)) (λ_=>(Ms hxa j (by omega))) ?_;have M:=Cg.af (hC.trans (g.trans r)) (λ_ _=>Q');refine qV 4 (.agg #[iv a.k,iv a.c,iv a.s,iv a.n,iv a.v]) (TG a λi u O=>(M.cell (p:=⟨bx,ox+5*j+i,none⟩) hbx).trans (by rw[oh];exact hcell _ u (Pd b O))) (qT 5 (.bool (decide (c=a))) (λ_=>(lh (x:=(.tmp 11)) (y:=(.tmp 15)) c a)) (qR [] 1 [] λs6 V w6 A=>?_));by_cases m:c=a
   .refine qI (decide (c=a)) true (O' m) (qR [] 5 [] λs7 W w7 D=>qE (iv (j:Int)) λK=>⟨by rw[YO (by rw[m];exact b) hI],Cg.af (hC.trans (((g.trans r).trans A).trans D)) (λ_ _=>Q')⟩)
   .refine qI (decide (c=a)) false (H' m) (qR [] 3 [] λs8 X w8 E=>qV 0 (iv ((j:Int)+1)) (AX 8 (j:Int) underlying3 (by omega)) (qR [] 2 [] λs9 Y w9 F=>qB [true] λz R K=>hJ (l.length-(j+1)) _ _ _ z _ (by omega) ⟨j+1,rfl,by omega,rfl,rfl,λi d=>?_,hC.trans ((((g.trans r).trans A).trans E).trans F)⟩ K));rcases nU i j with h4|h4
    .exact hI i h4
    .rw[show i=j by omega,b];intro I;exact m (by simpa using I.symm)
  .refine qI ((decide ((j:Int)<(x.n:Int)))) false (H' (by omega)) (qR [] 5 [] λP H Q q=>?_);have t:c∉l:=λN=>by obtain⟨i,d⟩:=oD.1 N;exact hI i (by have:=(V'.1 d).1;omega) d
   exact qE (iv (-1)) λK=>⟨by unfold QC;rw[if_neg t],Cg.af (hC.trans (g.trans q)) (λ_ _=>Q')⟩
theorem F8{l:List Cmd}(h:RdC w x l)(o:l.length<100000000)(c:Cmd) :
  Calls prog 89 #[x.v,.agg #[iv c.k,iv c.c,iv c.s,iv c.n,iv c.v]] w λe w'=>e=.returned (.bool (decide (c∈l)))/\Bw w w':=by
 refine gI (fn:=f89) [] gh0 func89 (λ_ _=>⟨rfl,rfl⟩) (qR [] 9 [0,0,0] λr m t d=>?_);have a:=Cg.af d (λ_ _=>Q');refine qC 2 (On (h.af a) o c) ?_;rintro p u ⟨rfl,b⟩;refine⟨_,rfl,b,?_⟩;have i:=Cg.eb (B:=w.heap.size) (T:=[]) (g:=m) b;refine qR [] 3 [] λs3 q y j=>qE (.bool (decide (0<=QC l c))) λK=>⟨by rw[dG],Cg.af ((d.trans i).trans j) (λ_ _=>Q')⟩
theorem UL(h:NS i nb ob g w p ls ts)(l:p.done<=p.ae.length) :
  Calls prog 64 #[pt nb 0] w λe w'=>∃ y:S3,e=.returned y.v/\RdC w' y (p.ae.take p.done)/\Bw w w':=by
 obtain⟨x,lt,t,a,k,m⟩:=h;have q:=a.ae.num;have c:=a.ae.rd;refine gI (fn:=f64) (TN i) g func64 m (qN a (qO k (qR [] 16 [12,0,2,4,6,8,0,10,12,14,16,18,0] λr n u d=>qT 10 (S3.v (x.ae.cut 0 p.done)) (λ_=>(lK x.ae p.done (by have:=c.cap;omega))) (qR [] 2 [22] λs o z j=>?_))));have b:=Cg.af (d.trans j) (λ_ _=>Q');exact qE (S3.v (x.ae.cut 0 p.done)) λK=>⟨_,rfl,(c.af b).take l,b⟩
theorem Jj(h:NS i nb ob g w p ls ts)(r:ls.length<100000000)(to bt:Nat)(t:bt<=p.ae.length) :
  Calls prog 133 #[pt nb 0,iv (to:Int),iv (bt:Int)] w (NP i nb ob g w (.tuple #[]) p (ls++[{ BC 5 with src:=i,dst:=to,bt:=bt,gC:=p.ae.drop bt }]) ts):=by
 obtain⟨x,lt,H,a,l,s⟩:=h;have D:=a.ae.num;refine gI (fn:=f133) (TN i) g func133 s (qN a (qO l (qR [] 10 [0] λE A I e=>qV 9 (S3.v (x.ae.cut bt x.ae.n)) (jl x.ae bt (by omega)) (qR [] 1 [] λF q z j=>Af λK=>?_))));have d:=e.n j;have m:NS i nb ob q z p ls ts:=(nsC a l d K);refine qS0 11 [false,false] (FS m r { BC 5 with bt:=bt,gC:=p.ae.drop bt } s30 (x.ae.cut bt x.ae.n) ⟨Sv.nil _,λh=>absurd rfl h⟩ ((a.ae.rc.drop t).ch d) to) λB J M u y b c o=>qR [] 1 [] λG C L k=>qF b c k ((((e.nil (TN i)).n j).trans (o)).n k)
theorem Ov(h:NS i nb ob g w p ls ts)(a:Nat)(b:List Cmd)(e:S3)(t:Rc g w e b)(hs:a<=p.ae.length)(Y:p.ae.length<100000000)(L:b.length<100000000) :
  Calls prog 124 #[pt nb 0,iv (a:Int),e.v] w (NP i nb ob g w (.tuple #[]) (p.lr a b) ls ts):=by
 obtain⟨x,lt,O,d,C,M⟩:=h;have N:=d.ae.num;have hm:=t.len;have D:=t.cap;refine gI (fn:=f124) (TN i) g func124 M (qN d (qO C (qR [] 9 [0] λs1 R w1 q=>qV 7 (iv ((x.ae.n-a:Nat):Int)) (lM (x:=(.tmp 12)) (y:=(.tmp 13)) x.ae.n a underlying3 (by omega) (by omega)) (qR [] 9 [] λs2 S w2 r=>?_))));by_cases X:x.ae.n-a<e.n
 .refine qI ((decide (((x.ae.n-a:Nat):Int)<(e.n:Int)))) true (O' (by omega)) ?_;obtain⟨k,Z⟩:∃ k,k=x.ae.n-a:=⟨_,rfl⟩;have E:k<b.length:=by omega
  obtain⟨G,ow,s⟩:=t.addr E;refine qR [] 9 [13,0,2,4,6,8,10,0,12,14] λs3 T w3 u=>qT 8 (.slice (some ⟨G,ow+5*(x.ae.n-a),none⟩) (e.n-(x.ae.n-a)) (e.c-(x.ae.n-a))) (λ_=>(lH s (x.ae.n-a) (by omega) D)) ?_;have F:=(q.n r).n u;refine KD 9 (x:=x.ae) 45 45 24 5 40 (.agg #[iv 0,iv 0,iv 0,iv 0,iv 0]) ⟨G,ow+5*(x.ae.n-a),none⟩ (e.n-(x.ae.n-a)) (e.c-(x.ae.n-a)) (cmL (b.drop (x.ae.n-a))) (d.ae.ch F) (by kernel_rfl) (by kernel_rfl) (by kernel_rfl) underlying45 (by kernel_rfl) (by kernel_rfl) (by decide) (by omega) (by rw[BJ,nc];omega) (Pe _) (λK=>kP s (t.ch F) _ (by omega)) (by unfold maxLen;omega) (by omega) ?_;intro P U w6 J n6 B Q;have H:=B w.heap.size [.n 3 i] (D'.2 rfl);refine qR [.n 0 i] 5 [20,22,24,27,0,1] λs7 V w7 A=>qE (.tuple #[]) λK=>?_;have j:=((((q.nil ([.n 3 i,.n 0 i]:List Tg)).n r).n u).m H).m A;have o:Tg.z∉([.n 3 i,.n 0 i]:List Tg):=by simp
  exact⟨_,rfl,⟨{ x with ae:=P },lt,O,K.nd 0 (d.tape.ch j o) (d.mv.ch j o) (B9 d.an j o) (Ci d.bu j o (by simp)) (d.fa.ch j) (by rw[show(p.lr a b).ae=p.ae++b.drop (x.ae.n-a)from by unfold Nod.lr;rw[N],Cu];exact J.ch A) (d.av.ch j) (d.bN.ch j) d.sS,C.ch j o (by simp<;>omega),K.new⟩,(((((q.nil (TN i)).n r).n u).trans (H.mono (by simp[TN]))).trans (A.mono (by simp[TN])))⟩
 .refine qI ((decide (((x.ae.n-a:Nat):Int)<(e.n:Int)))) false (H' (by omega)) (qR [] 1 [] λs9 W w9 I=>qE (.tuple #[]) λK=>?_);rw[show p.lr a b=p from by unfold Nod.lr;rw[oc (by omega),nB]];exact⟨_,rfl,(nsC d C ((q.n r).n I) K),(((q.nil (TN i)).n r).n I)⟩
theorem Ry(h:NS i nb ob g w p ls ts)(q:ls.length<90000000){a b2 b3:Nat}(j:Box g w a #[pt nb 0] 116) :
  Calls prog 107 #[pt a 0] w (NP i nb ob g w (.tuple #[]) p (ls++BV i (BC 6) 5) ts):=by
 obtain⟨x,lt,D,k,l,s⟩:=h;refine gI (fn:=f107) (TN i) g func107 s (qN k (qO l (Cq ⟨a,.cells #[pt nb 0] 116,.z,false⟩ (λ_=>⟨j.r,j.z,λh=>(by cases h),λh=>absurd rfl h⟩) (by kernel_rfl) ?_)));refine qR [] 3 [2] λB v E d=>qS 2 [false,false,true] k l d (λm=>EF m q (BC 6) s30 s30 ⟨Sv.nil _,λh=>absurd rfl h⟩ (Rc.nil _ _)) λy F H t u b c o=>qR [] 1 [] λC A G e=>qF b c e (((d.nil (TN i)).trans (o)).n e)
theorem PA{to:Nat}{b:Bal}(h:NS i nb ob g w p ls ts)(F:ls.length<90000000){a c d:Nat}(m:Box g w a #[pt nb 0] 116)(o:Box g w c #[iv (to:Int)] 3)(q:Box g w d #[iv b.r,iv b.n] 121)  :
  Calls prog 156 #[pt a 0,pt c 0,pt d 0] w (NP i nb ob g w (.tuple #[]) p (ls++[{ BC 2 with hU:=b,src:=i,dst:=to }]) ts):=by
 obtain⟨x,lt,I,s,t,y⟩:=h;refine gI (fn:=f156) (TN i) g func156 y (qN s (qO t (Cq ⟨a,.cells #[pt nb 0] 116,.z,false⟩ (λ_=>⟨m.r,m.z,λh=>(by cases h),λh=>absurd rfl h⟩) (by kernel_rfl) ?_)));refine Cq ⟨c,.cells #[iv (to:Int)] 3,.z,false⟩ (λ_=>⟨o.r,o.z,λh=>(by cases h),λh=>absurd rfl h⟩) (by kernel_rfl) ?_;refine Cq ⟨d,.cells #[iv b.r,iv b.n] 121,.z,false⟩ (λ_=>⟨q.r,q.z,λh=>(by cases h),λh=>absurd rfl h⟩) (by kernel_rfl) ?_;refine qR [] 5 [2,3,4] λG C J k=>qS 4 [false,false,true,true,true] s t k (λu=>FS u (by omega) { BC 2 with hU:=b } s30 s30 ⟨Sv.nil _,λh=>absurd rfl h⟩ (Rc.nil _ _) to) λD K M A B e j v=>qR [] 1 [] λH E L l=>qF e j l (((k.nil (TN i)).trans (v)).n l)
theorem Ip(h:NS i nb ob g w p ls ts)(K:ls.length<90000000){c d b3 b:Nat}{l:Let}(o:Box g w c #[pt nb 0] 116)(q:Box g w d #[pt b 0] 184)(A:CP g w b l) :
  Calls prog 128 #[pt c 0,pt d 0] w (NP i nb ob g w (.tuple #[]) p (ls++[{ BC 4 with cl:=l.cl,src:=i,dst:=l.src }]) ts):=by
 obtain⟨x,lt,N,s,t,y⟩:=h;refine gI (fn:=f128) (TN i) g func128 y (qN s (qO t (Cq ⟨c,.cells #[pt nb 0] 116,.z,false⟩ (λ_=>⟨o.r,o.z,λh=>(by cases h),λh=>absurd rfl h⟩) (by kernel_rfl) ?_)));refine Cq ⟨d,.cells #[pt b 0] 184,.z,false⟩ (λ_=>⟨q.r,q.z,λh=>(by cases h),λh=>absurd rfl h⟩) (by kernel_rfl) ?_;obtain⟨F,G,a,B,C⟩:=A;refine Cq ⟨b,.cells (FF l F G) 183,.z,false⟩ (λ_=>⟨a.r,a.z,λh=>(by cases h),λh=>absurd rfl h⟩) (by kernel_rfl) ?_;refine qR [] 11 [10,0,2,2,3,4,6,8,4,10,3,12,14,16,4,18] λL H O k=>qS 10 [false,false,true,true,true] s t k (λu=>FS u (by omega) { BC 4 with cl:=l.cl } s30 s30 ⟨Sv.nil _,λh=>absurd rfl h⟩ (Rc.nil _ _) l.src) λI P R D E e j v=>qR [] 1 [] λM J Q m=>qF e j m (((k.nil (TN i)).trans (v)).n m)
theorem MO(h:NS i nb ob g w p ls ts)(L:ls.length<90000000){c d b3 b:Nat}{l:Let}(q:Box g w c #[pt nb 0] 116)(s:Box g w d #[pt b 0] 184)(A:CP g w b l) :
  Calls prog 130 #[pt c 0,pt d 0] w (NP i nb ob g w (.tuple #[]) p (ls++[{ BC 6 with bt:=p.ae.length,src:=i,dst:=l.src }]) ts):=by
 obtain⟨x,lt,O,e,t,y⟩:=h;refine gI (fn:=f130) (TN i) g func130 y (qN e (qO t (Cq ⟨c,.cells #[pt nb 0] 116,.z,false⟩ (λ_=>⟨q.r,q.z,λh=>(by cases h),λh=>absurd rfl h⟩) (by kernel_rfl) ?_)));refine Cq ⟨d,.cells #[pt b 0] 184,.z,false⟩ (λ_=>⟨s.r,s.z,λh=>(by cases h),λh=>absurd rfl h⟩) (by kernel_rfl) ?_;obtain⟨G,H,a,B,C⟩:=A;refine Cq ⟨b,.cells (FF l G H) 183,.z,false⟩ (λ_=>⟨a.r,a.z,λh=>(by cases h),λh=>absurd rfl h⟩) (by kernel_rfl) ?_;have D:=e.ae.num;refine qR [] 13 [12,0,2,2,3,4,6,8,4,10,2,12,14,16,18,0,20,22] λM I P m=>qS 12 [false,false,true,true,true] e t m (λu=>(show{ BC 6 with bt:=x.ae.n,src:=i,dst:=l.src }=({ BC 6 with bt:=p.ae.length,src:=i,dst:=l.src }:Let)from by rw[D])▸FS u (by omega) { BC 6 with bt:=x.ae.n } s30 s30 ⟨Sv.nil _,λh=>absurd rfl h⟩ (Rc.nil _ _) l.src) λJ Q S E F j k v=>qR [] 1 [] λN K R o=>qF j k o (((m.nil (TN i)).trans (v)).n o)
theorem JR(h:NS i nb ob g w p ls ts)(L:ls.length<90000000){c d b3 b:Nat}{l:Let}(o:Box g w c #[pt nb 0] 116)(q:Box g w d #[pt b 0] 184)(A:CP g w b l)(D:l.bt<=p.ae.length) :
  Calls prog 132 #[pt c 0,pt d 0] w (NP i nb ob g w (.tuple #[]) p (ls++[{ BC 5 with src:=i,dst:=l.src,bt:=l.bt,gC:=p.ae.drop l.bt }]) ts):=by
 obtain⟨x,lt,O,s,t,y⟩:=h;refine gI (fn:=f132) (TN i) g func132 y (qN s (qO t (Cq ⟨c,.cells #[pt nb 0] 116,.z,false⟩ (λ_=>⟨o.r,o.z,λh=>(by cases h),λh=>absurd rfl h⟩) (by kernel_rfl) ?_)));refine Cq ⟨d,.cells #[pt b 0] 184,.z,false⟩ (λ_=>⟨q.r,q.z,λh=>(by cases h),λh=>absurd rfl h⟩) (by kernel_rfl) ?_;obtain⟨G,H,a,B,C⟩:=A;refine Cq ⟨b,.cells (FF l G H) 183,.z,false⟩ (λ_=>⟨a.r,a.z,λh=>(by cases h),λh=>absurd rfl h⟩) (by kernel_rfl) ?_;refine qR [] 10 [9,0,2,2,3,4,6,8,4,10,3,12,14,16,4] λM I P k=>qS 9 [false,false,true,true,true] s t k (λu=>Jj u (by omega) l.src l.bt D) λJ Q S E F e j v=>qR [] 1 [] λN K R m=>qF e j m (((k.nil (TN i)).trans (v)).n m)
theorem Hs{d:S3}{a:List Vt}(h:NS i nb ob g w p ls ts)(T:ls.length<90000000){j k m c:Nat}{l:Let}(y:Box g w j #[pt nb 0] 116)(A:Box g w k #[pt c 0] 184)(B:Box g w m #[S3.v d] 122)(H:CP g w c l)(L:FSv g w d a) :
  Calls prog 122 #[pt j 0,pt k 0,pt m 0] w (NP i nb ob g w (.tuple #[]) p (ls++[{ BC 1 with hU:=l.hU,mv:=a,gC:=p.ae,src:=i,dst:=l.src }]) ts):=by
 obtain⟨x,lt,W,o,C,G⟩:=h;refine gI (fn:=f122) (TN i) g func122 G (qN o (qO C (Cq ⟨j,.cells #[pt nb 0] 116,.z,false⟩ (λ_=>⟨y.r,y.z,λh=>(by cases h),λh=>absurd rfl h⟩) (by kernel_rfl) ?_)));refine Cq ⟨k,.cells #[pt c 0] 184,.z,false⟩ (λ_=>⟨A.r,A.z,λh=>(by cases h),λh=>absurd rfl h⟩) (by kernel_rfl) ?_;refine Cq ⟨m,.cells #[S3.v d] 122,.z,false⟩ (λ_=>⟨B.r,B.z,λh=>(by cases h),λh=>absurd rfl h⟩) (by kernel_rfl) ?_;obtain⟨O,Q,b,I,J⟩:=H;refine Cq ⟨c,.cells (FF l O Q) 183,.z,false⟩ (λ_=>⟨b.r,b.z,λh=>(by cases h),λh=>absurd rfl h⟩) (by kernel_rfl) ?_;refine qR [] 17 [16,0,2,2,3,4,6,8,5,10,3,12,14,16,5,18,4,20,2,22,24,26,28,0,30] λU F P t=>Af λK=>?_;have e:=t;have D:NS i nb ob F P p ls ts:=(nsC o C e K);refine qS0 16 [false,false,true,true,true,true] (FS D (by omega) { BC 1 with hU:=l.hU,mv:=a,gC:=p.ae } d x.ae (L.ch e) (o.ae.rc.ch e) l.src) λR X Z M N q s E=>qR [] 1 [] λV S Y u=>qF q s u (((t.nil (TN i)).trans (E)).n u)
end
end
end Go.Proofs.YthkjeoamjgnpoaaGreatDoor
