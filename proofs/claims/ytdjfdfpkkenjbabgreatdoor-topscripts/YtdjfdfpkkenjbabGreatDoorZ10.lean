/- Part 10 of the walk. -/
import Derived.Lib.Builder
import Derived.Lib.AppendStr
import Derived.Lib.UnsafeStr
import Derived.Lib.OthersKept
import Derived.Laws.Externs
import Derived.Shelf.RegionOpenPlain
import Derived.Test.YtdjfdfpkkenjbabGreatDoorShelfI
import Derived.Lib.AppendIntMem
import Derived.RangeFuncNested
import Derived.RangeFuncBound
import Derived.RangeFuncCalls
import Derived.RangeFuncLeaves
import Derived.Shelf.Abstract
import Derived.Shelf.RegionOpen
import Derived.Laws.Strings3
import Derived.OwnWalkIn
import Derived.TacticsInMore
import Derived.LoopNIn
import Derived.LoopIn
import Derived.RangeFuncBox
import Derived.Maps.AppendAt
import Derived.Test.YtdjfdfpkkenjbabGreatDoorZ7
import Derived.Test.YtdjfdfpkkenjbabGreatDoorZ9
set_option maxRecDepth 100000
set_option maxHeartbeats 4000000
open Go.Proofs.Tryz
set_option linter.unusedVariables false
namespace Go.Proofs.YtdjfdfpkkenjbabGreatDoor
section
open Go.RowKit
def GA(x:Lac)(j:Nat):Int:=if j=0 then x.n else if j=1 then x.a else x.p
theorem dP(x:Lac)(y:Value){j:Nat}(b:j<3):(laA x.k x.n x.a x.p y)[j+1]?=some (.int .i64 (GA x j)):=by
 rcases(by omega:j=0\/j=1\/j=2)with rfl|rfl|rfl
 all_goals rfl
end
section
structure ActV(k:Nat)(n a p:Int)(d:List Int):Prop where
 k1:1<=k
 k9:k<=9
 nb:∀ j,j<3->0<=GA ⟨(k:Int),n,a,p,d⟩ j/\GA ⟨(k:Int),n,a,p,d⟩ j<=Eu j
 no:∀ j,j<3->Cc j (k:Int)=false->GA ⟨(k:Int),n,a,p,d⟩ j=0
 dl:d.length<=2000
 dn:k≠1->d=[]
end
section
open Go.RowKit
section
theorem bS{k:Nat}{n a p:Int}{d:List Int}(h:ActV k n a p d):LacOk ⟨(k:Int),n,a,p,d⟩:=by
 have f:=h.k1;have i:=h.k9;have b0:=h.nb 0 (by omega);have b:=h.nb 1 (by omega);have c:=h.nb 2 (by omega);exact⟨⟨by show(1:Int)<=(k:Int);omega,by show(k:Int)<=9;omega⟩,λ_=>b0,λ_=>b,λ_=>c,h.dl,λe=>h.no 0 (by omega) e,λe=>h.no 1 (by omega) e,λe=>h.no 2 (by omega) e,λe=>h.dn λg=>e (by show(k:Int)=1;omega)⟩
theorem XH(k:Nat)(n a p:Int)(d:List Int)(c:ActV k n a p d)(a0:Option Addr)(b:Nat)(w:World)(g:LWTab w)(f:LBTab w) :
  Calls prog 18 #[.agg (laA (k:Int) n a p (.slice a0 d.length b))] w λe w'=>e=.returned (.int .i64 0)/\Bw w w' :=
 Ll (x:=⟨(k:Int),n,a,p,d⟩) (y:=⟨a0,d.length,b⟩) (bS c) rfl g f
theorem fN:(prog.info? 49).map (·.size)=some 2:=by kernel_rfl
theorem jP:liesAt prog prog.depth 51 (2/prog.cellsOf 51) 0 49 1=true:=by kernel_rfl
theorem fL:(prog.info? 5).map (λi=>(i.zero,i.size,i.bytes))=some (some (.int .u8 0),1,1):=by kernel_rfl
theorem gN:prog.cellsOf 5=1:=by kernel_rfl
def Pg(B b:Nat)(l:List Int)(w:World):Prop:=Lib.IsBuilder 51 5 B b (l.map (Value.int .u8)) w
theorem Pg.new(w:World):Pg w.heap.size w.heap.size [] (w.alloc (.cells #[.pointer none,.slice none 0 0] 51)) :=
 .inl ⟨A' _,.slice none 0 0,CD _ _,⟨by simp,.inl ⟨rfl,rfl⟩⟩,by simp[Value.ownBlock]⟩
variable{B b:Nat}{l:List Int}{w:World}
theorem Pg.lt(h:Pg B b l w):b<w.heap.size:=by
 rcases h with h|h
 .exact h.lt
 .exact h.lt
theorem Py(b:Nat)(w:World)(c:w.cell? ⟨b,0,none⟩=some (.pointer (some ⟨b,0,none⟩))) :
  Calls prog 41 #[.pointer (some ⟨b,0,none⟩)] w λe w'=>e=.returned (.tuple #[])/\w'=w:=by
 obtain⟨j,a,_⟩:=ou.1 fN;go_enter func41,ntmps41
 go_wp2
 rw[Lib.run_neq_ptr_same w _ underlying47 a];go_wp2
 go_end0
 exact⟨rfl,rfl⟩
theorem O3(b:Nat)(w:World)(g:w.cell? ⟨b,0,none⟩=some (.pointer none))(a:w.shape? b=some (51,2))(f:w.frozen? ⟨b,0,none⟩=false) :
  Calls prog 41 #[.pointer (some ⟨b,0,none⟩)] w λe w'=>e=.returned (.tuple #[])/\w'=w.setCell ⟨b,0,none⟩ (.pointer (some ⟨b,0,none⟩)):=by
 obtain⟨j,d,c⟩:=ou.1 fN;go_enter func41,ntmps41
 go_wp2
 rw[Lib.run_to_unsafe w ⟨b,0,none⟩ underlying47 underlying162 d (by rw[c];decide) a (Nat.zero_lt_succ 1)];simp only[Result.andThen];rw[Oper.upon_value];go_wp2
 rw[run_callFunc_extern func66 (by kernel_rfl) (by kernel_rfl) (by kernel_rfl) (e:=Extern.AbiNoEscape.same) (by kernel_rfl)];rw[Lib.run_noEscape];simp only[Result.andThen];rw[Oper.upon_value];go_wp2
 rw[Lib.run_from_unsafe w ⟨b,0,none⟩ underlying162 underlying47 d a jP];simp only[Result.andThen];rw[Oper.upon_value];go_wp2
 go_end0
 exact⟨rfl,rfl⟩
theorem Lf(B b:Nat)(l:List Int)(w:World)(h:Pg B b l w) :
  Calls prog 41 #[.pointer (some ⟨b,0,none⟩)] w λe w'=>e=.returned (.tuple #[])/\Lib.BuilderAt 51 5 B b (.pointer (some ⟨b,0,none⟩)) (l.map (Value.int .u8)) w'/\Below B w w'/\Lib.OthersKept 5 (some b) w w':=by
 rcases h with h|h
 .refine(O3 b w h.cell0 h.shape h.frozen0).mono ?_;rintro e w' ⟨rfl,rfl⟩;exact⟨rfl,h.used _,(Below.refl B w).setCell (p:=⟨b,0,none⟩) h.1 _,(Lib.OthersKept.refl 5 (some b) w).setCell ⟨b,0,none⟩ rfl _⟩
 .refine(Py b w h.cell0).mono ?_;rintro e w' ⟨rfl,rfl⟩;exact⟨rfl,h,Below.refl B _,Lib.OthersKept.refl _ _ _⟩
theorem fM{v:Value}{n:Nat}{a:List Value}(h:w.ownsRow B 5 1 v n a):∀ g,v.ownBlock=some g->∃ c fz,w.heap[g]?=some (.cells c 5 fz):=Lib.ownsRowF_kind (World.ownsRowF_of h)
theorem DE(B b:Nat)(l:List Int)(c:Int)(w:World)(h:Pg B b l w)(E:l.length+1<=140737488355328)(G:B<=w.heap.size) :
  Calls prog 21 #[.pointer (some ⟨b,0,none⟩),.int .u8 c] w λe w'=>e=.returned .nilIface/\Pg B b (l++[c]) w'/\Below B w w'/\Lib.OthersKept 5 (some b) w w':=by
 obtain⟨J,H,y,z,A⟩:=info_parts fL;go_enter func21,ntmps21
 go_wp2_with fail
 refine(Lf B b l w h).mono ?_;rintro e r ⟨rfl,⟨D,v,o,d,x⟩,m,s⟩;have c1:r.cell? ⟨b,1,none⟩=some v:=by rw[Lib.cell_of_heap o];rfl
 go_wp2_with (at_builtin;refine wpList_append_own _ rfl _ _ 41 rfl B 5 J (.int .u8 0) 1 1 underlying41 H y z A rfl (by decide) _ _ _ rfl (d.alloc _) ⟨r.heap.size,0,none⟩ 1 1 [.int .u8 c] rfl rfl ?c1 ?c2 ?c3 ?c4 ?c5 ?_)
 case c1 =>
  intro j u q
  match j,q with
  | 0,q=>simp at q;subst q;simp[Addr.add]
 case c2=>intro u F;simp at F;subst F;rfl
 case c3=>simp only[mU,maxLen];omega
 case c4=>simp only[mU];omega
 case c5=>have:=m.size;simp;omega
 intro K C f a _;have t:b<r.heap.size:=(D'.1 o).1;have n:C.heap[b]?=some (.cells #[.pointer (some ⟨b,0,none⟩),v] 51 (0,0)):=by
  rw[a.block b (by simp;omega) (λe=>x e.symm),Lib.alloc_old r _ b t];exact o
 have M:C.frozen? ⟨b,1,none⟩=false:=Lib.frozen_of_heap n 1;have L:C.cell? ⟨b,1,none⟩=some v:=by rw[Lib.cell_of_heap n];rfl
 obtain⟨g,i,rfl⟩:∃ g i,K=.slice (some ⟨g,0,none⟩) (l.length+1) i:=by
  rcases f.2 with⟨_,h0⟩|⟨g,i,cur,hv,_⟩
  .omega
  .exact⟨g,i,hv⟩
 go_wp2
 go_ret;refine⟨rfl,.inr ?_,((m.alloc (by have:=m.size;omega) _).grown a (by have:=m.size;simp;omega) (λk I=>(d.lt k I).1)).setCell (p:=⟨b,1,none⟩) D _,((s.alloc _).grown a (fM (d.alloc _))).setCell ⟨b,1,none⟩ rfl _⟩;rw[mS,mT,nJ];exact Lib.BuilderAt.put D n (by simpa using f) (by decide)
theorem GS{s:List Int}(a:∀ x∈s,0<=x/\x<256):Lib.strCells (strOfNums s)=s.map (Value.int .u8):=by
 simp only[Lib.strCells,strOfNums_data,List.map_map];refine pA λx b=>?_;have:=a x b;simp only[Function.comp]
 congr 1
 rw[UInt8.toNat_ofNat'];omega
theorem Nm(B b:Nat)(l s:List Int)(w:World)(h:Pg B b l w)(I:∀ x∈s,0<=x/\x<256)(C:l.length+s.length<=140737488355328)(F:B<=w.heap.size) :
  Calls prog 19 #[.pointer (some ⟨b,0,none⟩),.string (strOfNums s)] w λe w'=>e=.returned (.tuple #[.int .i64 (s.length:Int),.nilIface])/\Pg B b (l++s) w'/\Below B w w'/\Lib.OthersKept 5 (some b) w w':=by
 obtain⟨K,G,r,t,u⟩:=info_parts fL;have J:=strOfNums_size s;go_enter func19,ntmps19
 go_wp2_with fail
 refine(Lf B b l w h).mono ?_;rintro e E ⟨rfl,⟨A,v,m,d,q⟩,i,n⟩;have c1:E.cell? ⟨b,1,none⟩=some v:=by rw[Lib.cell_of_heap m];rfl
 go_wp2_with (at_builtin;refine Lib.wpList_append_own_string _ rfl _ _ 41 9 rfl B 5 K underlying41 underlying9 G r t u _ _ _ rfl d (strOfNums s) rfl ?c3 ?c4 ?c5 ?_)
 case c3=>simp only[mU,maxLen];omega
 case c4=>simp only[mU];omega
 case c5=>have:=i.size;omega
 intro L y c a _;have o:b<E.heap.size:=(D'.1 m).1;have j:y.heap[b]?=some (.cells #[.pointer (some ⟨b,0,none⟩),v] 51 (0,0)):=by
  rw[a.block b o (λe=>q e.symm)];exact m
 have N:y.frozen? ⟨b,1,none⟩=false:=Lib.frozen_of_heap j 1;have M:y.cell? ⟨b,1,none⟩=some v:=by rw[Lib.cell_of_heap j];rfl
 obtain⟨z,D,f,rfl⟩:∃ z D f,L=.slice z D f:=by
  rcases c.2 with⟨hv,_⟩|⟨g,f,cur,hv,_⟩
  .exact⟨_,_,_,hv⟩
  .exact⟨_,_,_,hv⟩
 go_wp2
 go_ret2
 refine⟨?_,.inr ?_,(i.grown a (by have:=i.size;omega) (λk H=>(d.lt k H).1)).setCell (p:=⟨b,1,none⟩) A _,(n.grown a (fM d)).setCell ⟨b,1,none⟩ rfl _⟩
 .rfl
 .rw[GS I]at c
  rw[mS];exact Lib.BuilderAt.put A j (by simpa using c) (by decide)
theorem Lh(a:∀ x∈l,0<=x/\x<256):Lib.byteCells (l.map λn=>UInt8.ofNat n.toNat)=l.map (Value.int .u8):=GS a
theorem O4(B b:Nat)(l:List Int)(w:World)(h:Pg B b l w)(G:∀ x∈l,0<=x/\x<256)(z:l≠[]) :
  Calls prog 12 #[.pointer (some ⟨b,0,none⟩)] w λe w'=>e=.returned (.string (strOfNums l))/\Below B w w':=by
 obtain⟨p,I,v,m,d,u⟩:∃ p,Lib.BuilderAt 51 5 B b p (l.map (Value.int .u8)) w:=by
  rcases h with h|h
  .exact⟨_,h⟩
  .exact⟨_,h⟩
 have s:l.length≠0:=by simpa using z
 rw[mU]at d
 obtain⟨g,a,c,rfl,k,F,t,i,o,f⟩:∃ g a c,v=.slice (some ⟨g,0,none⟩) l.length a/\B<=g/\w.heap[g]?=some (.cells c 5 (0,0))/\l.length<=a/\a<=maxLen/\c.size=a*1/\c.toList.take (l.length*1)=l.map (Value.int .u8):=by
  rcases d.2 with⟨_,hz⟩|⟨g,a,c,hv,r⟩
  .exact absurd hz s
  .exact⟨g,a,c,hv,r⟩
 have c1:w.drew.cell? ⟨b,1,none⟩=some (.slice (some ⟨g,0,none⟩) l.length a):=by
  rw[Lib.cell_of_heap (w:=w.drew) (cs:=#[p,.slice (some ⟨g,0,none⟩) l.length a]) m];rfl
 have D:(Builtin.unsafeSliceData_ #[41] 85 #[.slice (some ⟨g,0,none⟩) l.length a]).run prog w.drew=.ok (.pointer (some ⟨g,0,none⟩)) w.drew :=
  Lib.run_unsafeSliceData_row _ _ _ _ _ _ (by omega)
 have E:(Builtin.unsafeString_ #[85,3] 9 #[.pointer (some ⟨g,0,none⟩),.int .i64 l.length]).run prog w.drew=.ok (.string (strOfNums l)) (w.drew.freeze ⟨g,0,none⟩ l.length):=by
  have A:=Lib.run_unsafeString_row (P:=prog) w.drew 85 3 9 5 underlying85 gN g c.size (by have q:w.drew.heap[g]?=some (.cells c 5 (0,0)):=F;simp[World.shape?,q]) (l.map λn=>UInt8.ofNat n.toNat) (by simpa using z) (by simp;omega) (by simp only[maxLen]at i;simp;omega) (by
   intro j x H;have C:(l.map (Value.int .u8))[j]?=some (.int .u8 x.toNat):=by rw[<- Lh G];simp only[Lib.byteCells];rw[ny,H];rfl
   exact d.cells (g:=g) rfl j _ C)
  rw[mU]at A
  exact A
 clear f o t i u d h;have y:prog.follows .mixedOrders=true:=by kernel_rfl
 go_enter func12,ntmps12
 go_wp2
 go_region_o
 all_goals (go_wp2;go_ret;exact⟨rfl,Lib.below_freeze (Below.drew (Below.refl B w)) (p:=⟨g,0,none⟩) k _⟩)
theorem Pz(B b:Nat)(p:Value)(w:World)(a:w.heap[b]?=some (.cells #[p,.slice none 0 0] 51 (0,0))) :
  Calls prog 12 #[.pointer (some ⟨b,0,none⟩)] w λe w'=>e=.returned (.string (strOfNums []))/\Below B w w':=by
 have f:∀ W q,(Builtin.unsafeString_ #[85,3] 9 #[.pointer q,.int .i64 0]).run prog W=.ok (.string .empty) W:=λW q=>Lib.run_unsafeString_none W _ _ _ q;have c1:w.drew.cell? ⟨b,1,none⟩=some (.slice none 0 0):=by
  rw[Lib.cell_of_heap (w:=w.drew) (cs:=#[p,.slice none 0 0]) a];rfl
 have d:(Builtin.unsafeSliceData_ #[41] 85 #[.slice none 0 0]).run prog w.drew=.ok (.pointer none) w.drew:=rfl;have c:prog.follows .mixedOrders=true:=by kernel_rfl
 go_enter func12,ntmps12
 go_wp2
 go_region_o
 all_goals (go_wp2;go_ret;exact⟨rfl,Below.drew (Below.refl B w)⟩)
theorem UP(k:Int)(a:0<=k)(b:k<16):∀ W,(Instr.index 9 (.string ⟨#[48,49,50,51,52,53,54,55,56,57,97,98,99,100,101,102]⟩) (.int .u8 k)).run prog W=.ok (.int .u8 (hxD k)) W:=by
 intro W;rcases(by omega:k=0\/k=1\/k=2\/k=3\/k=4\/k=5\/k=6\/k=7\/k=8\/k=9\/k=10\/k=11\/k=12\/k=13\/k=14\/k=15)with rfl|rfl|rfl|rfl|rfl|rfl|rfl|rfl|rfl|rfl|rfl|rfl|rfl|rfl|rfl|rfl
 all_goals kernel_rfl
theorem Pg.drew(h:Pg B b l w):Pg B b l w.drew:=h
theorem O0(c:World)(b:Nat)(l:List Int)(v:Value)(d:List Int)(w:World)(M:Pg c.heap.size b l w)(o:Sl c v d)(K:Bw c w)(C:l.length+2*d.length<=140737488351232) :
  Calls prog 24 #[.pointer (some ⟨b,0,none⟩),v] w λe w'=>e=.returned (.tuple #[])/\Pg c.heap.size b (l++Bm d) w'/\Bw c w'/\Lib.OthersKept 5 (some b) w w':=by
 obtain⟨a0,J,rfl⟩:=o.kn;have H:Hid (Sl c (.slice a0 d.length J) d):=o;have L:=o.len;clear o;go_enter func24,ntmps24
 go_wp2_with fail
 go_loopw [8] (λiv wr=>∃ i:Nat,i<=d.length/\iv=.int .i64 (i:Int)/\Hid (Pg c.heap.size b (l++Bm (d.take i)) wr/\Bw c wr/\Lib.OthersKept 5 (some b) w wr)) (λiv _=>((d.length:Int)-intOf iv).toNat)
 case atStart=>exact⟨0,by omega,rfl,by simpa[Bm]using M,K,Lib.OthersKept.refl _ _ _⟩
 case round =>
  obtain⟨i,hin,rfl,h⟩:=hrel;by_cases f:i<d.length
  .have r:(i:Int)<(d.length:Int):=by omega
   have N:(0:Int)<=(i:Int):=by omega
   obtain⟨⟨a,I,A,_,_,q⟩,_,m⟩:=H.out.ab h.out.2.1;simp only[Value.slice.injEq]at A;obtain⟨rfl,_,rfl⟩:=A;rcases q with q|⟨g,off,rfl,hg,hcell⟩
   .rw[q]at f;simp at f
   have B:=hcell i f;have s:=Ae m i;have u:Hid (d.take (i+1)=d.take i++[d.getD i 0]):=by unfold Hid;rw[mZ f,As f]
   generalize d.getD i 0=x at B s u;have O:=UP (x/16) (by omega) (by omega);have P:=UP (x%16) (by omega) (by omega);have n:(Bm (d.take i)).length=2*i:=by rw[Dt,mH];omega
   clear hcell m
   go_wp2_with fail
   refine Ah 6 (by kernel_rfl) (by kernel_rfl) ?_;simp only[nC,nM,nE,oc]
   repeat (go_big_quiet_step (fail))
   refine wpQuiet_nil ?_;go_wp2_with fail
   refine(DE c.heap.size b (l++Bm (d.take i)) (hxD (x/16)) wr.drew (h.out.1.drew) (by rw[I',n];omega) h.out.2.1.size).mono ?_;rintro e p ⟨rfl,F,y,D⟩;have k:Hid (Pg c.heap.size b (l++Bm (d.take i)++[hxD (x/16)]) p/\Bw c p/\Lib.OthersKept 5 (some b) w p):=⟨F,h.out.2.1.drew.trans y,(h.out.2.2.drew).trans D⟩;clear F y D h B;go_wp2_with fail
   refine Ah 6 (by kernel_rfl) (by kernel_rfl) ?_;simp only[nC,nM,nE,oc]
   repeat (go_big_quiet_step (fail))
   refine wpQuiet_nil ?_;go_wp2_with fail
   refine(DE c.heap.size b (l++Bm (d.take i)++[hxD (x/16)]) (hxD (x%16)) p.drew (k.out.1.drew) (by rw[I',I',n];simp;omega) k.out.2.1.size).mono ?_;rintro e t ⟨rfl,G,z,E⟩;have j:Hid (Pg c.heap.size b (l++Bm (d.take (i+1))) t/\Bw c t/\Lib.OthersKept 5 (some b) w t):=⟨by rw[u.out,ND,<- mN];simpa using G,k.out.2.1.drew.trans z,(k.out.2.2.drew).trans E⟩;clear G z E k;go_wp2
   go_roundw
   case rel=>exact⟨i+1,by omega,by go_num,j⟩
   case measure=>simp[intOf];omega
  .obtain rfl:i=d.length:=by omega
   have r:¬ (d.length:Int)<(d.length:Int):=by omega
   have j:=h;rw[oZ]at j
   clear h f hin;go_wp2
   go_end0
   exact⟨rfl,j.out.1,j.out.2.1,j.out.2.2⟩
end
end
section
open Go.RowKit Go.Sort
theorem mi(n:Nat):Lib.decDigits n=(BR n).map λc=>UInt8.ofNat c.toNat:=by
 induction n using Nat.strongRecOn with
 | _ n ih =>
  by_cases h:n<10
  .rw[Lib.decDigits,dif_pos h,CP h];simp only[mT,nJ,nt,and_true]
   congr 1
  .rw[Lib.decDigits,dif_neg h,Fg h,ih (n/10) (by omega),mS];simp only[mT,nJ]
   congr 2
structure LPTab(w:World):Prop where
 lt:4<w.heap.size
 tab : Hid (Lib.TabIs prog w "internal/strconv.uint64pow10" .u64 Lib.pow10Tab)
theorem it : prog.globalNamed "internal/strconv.uint64pow10" = some 4 := by kernel_rfl
theorem LPTab.ab{w c:World}(h:LPTab w){B:Nat}(d:4<B)(b:Below B w c):LPTab c:=by
 refine⟨X' h.lt b.size,?_⟩;have a:=h.tab.out;unfold Hid;unfold Lib.TabIs World.var? at a ⊢;rw[it]at a ⊢
 simp only[qJ]at a ⊢;rw[b.block _ d];exact a
theorem YF(n:Nat)(c:n<=9223372036854775807)(w:World)(a:LPTab w) :
  Calls prog 22 #[.int .i64 (n:Int)] w λe w'=>e=.returned (.string (strOfNums (BR n)))/\Bw w w':=by
 refine(Tryz.strconv_Itoa (n:Int) (by omega) (by omega) w a.tab.out).mono ?_;rintro e w' ⟨rfl,k,b,rfl⟩;refine⟨?_,Lib.below_grow _ w (A' _) k b⟩;rw[Lib.itoa_nonneg,mi];rfl
end
section
open Go.RowKit
section
def AW(x:Lac):Nat->List Int
 | 0=>[]
 | j+1=>AW x j++(if Cc j x.k=true then 32::BR (GA x j).toNat else[])
theorem Fk(x:Lac):Bd x=AF x.k++AW x 3++(if x.k=1 then 32::Bm x.d else[]):=by
 simp only[Bd,AW,Cc,GA,nF,mN];rfl
theorem Nt(n:Nat):∀ c∈BR n,0<=c/\c<256:=λc a=>by have:=GZ n c a;omega
theorem EW(k:Int):(AF k).length<=6:=by
 unfold AF
 repeat' split
 all_goals simp
theorem LS(x:Lac)(a:∀ j,0<=GA x j/\GA x j<=1048576)(j:Nat)(c:j<3):(AW x j).length<=24/\(AW x (j+1)).length<=24:=by
 have h:∀ j,(AW x j).length<=8*j:=λj=>by
  induction j with
  | zero=>simp[AW]
  | succ j ih =>
   rw[AW,I'];have b:=Ic (n:=(GA x j).toNat) 6 (by have:=a j;omega);split
   .simp only[mR];omega
   .simp;omega
 have:=h j;have:=h (j+1);omega
variable{b:Nat}{d:List Int}{l:List Lac}{w w':World}{x:Lac}
theorem In{g:Nat}{d:Array Value}(h:Lib.OthersKept 5 (some b) w w')(f:w.heap[g]?=some (.cells d 43))(a:g≠b):w'.heap[g]?=some (.cells d 43) :=
 h g _ f (λe=>a (nL e)) (λc fz e=>by cases e)
theorem Pg.ab{B:Nat}{l:List Int}(h:Pg B b l w)(a:Bw w w'):Pg B b l w':=by
 rcases h with⟨h1,v,h2,h3,h4⟩|⟨h1,v,h2,h3,h4⟩
 .exact .inl ⟨h1,v,(a.block _ (D'.1 h2).1).trans h2,Ar h3 (λk c=>a.block k (h3.lt k c).2),h4⟩
 .exact .inr ⟨h1,v,(a.block _ (D'.1 h2).1).trans h2,Ar h3 (λk c=>a.block k (h3.lt k c).2),h4⟩
theorem bU(c:World)(b:Nat)(l:List Int)(k:Nat)(n a p:Int)(d:List Int)(y:Value)(h1:1<=k)(h9:k<=9)(hn:∀ j,0<=GA ⟨(k:Int),n,a,p,d⟩ j/\GA ⟨(k:Int),n,a,p,d⟩ j<=1048576)(W:Sl c y d)(a4:d.length<=2000)(w:World)(Z:Pg c.heap.size b l w)(U:Bw c w)(tw:LWTab c)(tp:LPTab c)(a3:l.length<=140737480000000) :
  Calls prog 11 #[.pointer (some ⟨b,0,none⟩),.agg (laA (k:Int) n a p y)] w λe w'=>e=.returned (.tuple #[])/\Pg c.heap.size b (l++(Bd ⟨(k:Int),n,a,p,d⟩++[10])) w'/\Bw c w':=by
 obtain⟨a0,g,rfl⟩:=W.kn;have V:=Z.lt;obtain⟨r,s⟩:∃ r,w.alloc (.cells (laA (k:Int) n a p (.slice a0 d.length g)) 43)=r:=⟨_,rfl⟩;have r0:r.heap[w.heap.size]?=some (.cells (laA (k:Int) n a p (.slice a0 d.length g)) 43):=by rw[<- s];exact heap_alloc_new _ _
 have S:Bw w r:=by rw[<- s];exact(Below.refl _ _).alloc (A' _) _
 have f:Hid (Pg c.heap.size b l r/\Bw c r):=⟨Z.ab S,U.trans (S.mono U.size)⟩;have C:r.cell? ⟨w.heap.size,0,none⟩=some (.int .i64 (k:Int)):=by rw[cell_of_row _ _ 0 _ _ _ r0];rfl
 have G:=tw.ab f.out.2;have ct:=G.text k (by omega);have ix:=EQ k (by omega);have L:Hid (w.heap.size≠b):=by unfold Hid;omega
 have HR:Hid (r.heap[w.heap.size]?=some (.cells (laA (k:Int) n a p (.slice a0 d.length g)) 43)):=r0;have HD:Hid (Sl c (.slice a0 d.length g) d):=W;clear r0 W Z U S V;unfold laA at s ⊢;go_enter func11,ntmps11
 go_wp2_with fail
 refine Ah 8 (by kernel_rfl) (by kernel_rfl) ?_;simp only[nC,nM,nE,oc]
 repeat (go_big_quiet_step (fail))
 refine wpQuiet_nil ?_;go_wp2_with fail
 refine(Nm c.heap.size b l (AF (k:Int)) r.drew f.out.1.drew (Gk _) (by have:=EW (k:Int);omega) f.out.2.size).mono ?_;rintro e P ⟨rfl,p1,b1,k1⟩;have z:Hid (Pg c.heap.size b (l++AF (k:Int)) P/\Bw c P/\P.heap[w.heap.size]?=some (.cells (laA (k:Int) n a p (.slice a0 d.length g)) 43)):=⟨p1,f.out.2.drew.trans b1,In k1 HR.out L.out⟩;clear p1 b1 k1 f HR G ct C s;go_wp2_with fail
 refine(Ip w.heap.size P).mono ?_;rintro e w2 ⟨rfl,M⟩;have Q:Hid (Pg c.heap.size b (l++AF (k:Int)) w2/\Bw c w2/\w2.heap[w.heap.size]?=some (.cells (laA (k:Int) n a p (.slice a0 d.length g)) 43)):=⟨z.out.1.ab M,z.out.2.1.trans (M.mono z.out.2.1.size),(M.block _ (D'.1 z.out.2.2).1).trans z.out.2.2⟩;clear M z;go_wp2_with fail
 have D:=LS ⟨(k:Int),n,a,p,d⟩ hn
 go_loopw [16] (λiv wr=>∃ j:Nat,j<=3/\iv=.int .i64 (j:Int)/\Hid (Pg c.heap.size b (l++AF (k:Int)++AW ⟨(k:Int),n,a,p,d⟩ j) wr/\Bw c wr/\wr.heap[w.heap.size]?=some (.cells (laA (k:Int) n a p (.slice a0 d.length g)) 43))) (λiv _=>((3:Int)-intOf iv).toNat)
 case atStart=>exact⟨0,by omega,rfl,by simpa[AW]using Q.out.1,Q.out.2.1,Q.out.2.2⟩
 case round =>
  obtain⟨j,a5,rfl,f⟩:=hrel;by_cases i:j<3
  .have X:(j:Int)<3:=by omega
   have j0:(0:Int)<=(j:Int):=by omega
   have a2:=Qq w.heap.size j i;have C:wr.cell? ⟨w.heap.size,0,none⟩=some (.int .i64 (k:Int)):=by rw[cell_of_row _ _ 0 _ _ _ f.out.2.2];rfl
   have cm:=(tw.ab f.out.2.1).has k j (by omega) i;have im:=Od k j i;obtain⟨u,o⟩:∃ u,Cc j (k:Int)=u:=⟨_,rfl⟩;rw[o]at cm
   cases u with
   | false =>
    have x:Hid (Pg c.heap.size b (l++AF (k:Int)++AW ⟨(k:Int),n,a,p,d⟩ (j+1)) wr/\Bw c wr/\wr.heap[w.heap.size]?=some (.cells (laA (k:Int) n a p (.slice a0 d.length g)) 43)):=⟨by rw[AW,o];simpa using f.out.1,f.out.2⟩;clear f o;go_wp2
    go_roundw
    case rel=>exact⟨j+1,by omega,by go_num,x⟩
    case measure=>simp[intOf];omega
   | true =>
    have R:Hid (AW ⟨(k:Int),n,a,p,d⟩ (j+1)=AW ⟨(k:Int),n,a,p,d⟩ j++(32::BR (GA ⟨(k:Int),n,a,p,d⟩ j).toNat)):=by unfold Hid;rw[AW,o];rfl
    have a6:=D j i;have Y:=hn j;have T:=(cell_of_row _ _ (j+1) _ _ _ f.out.2.2).trans (dP ⟨(k:Int),n,a,p,d⟩ (.slice a0 d.length g) i);generalize GA ⟨(k:Int),n,a,p,d⟩ j=v at R Y T;obtain⟨m,rfl⟩:∃ m:Nat,v=(m:Int):=⟨v.toNat,by omega⟩;rw[oK]at R
    have hm:m<=1048576:=by omega
    have a8:=Ic (n:=m) 6 (by omega);have a1:=EW (k:Int);clear o;go_wp2_with fail
    refine(DE c.heap.size b (l++AF (k:Int)++AW ⟨(k:Int),n,a,p,d⟩ j) 32 wr f.out.1 (by have:=EW (k:Int);rw[I',I'];omega) f.out.2.1.size).mono ?_;rintro e H ⟨rfl,p3,b3,k3⟩;have q:Hid (Pg c.heap.size b (l++AF (k:Int)++AW ⟨(k:Int),n,a,p,d⟩ j++[32]) H/\Bw c H/\H.heap[w.heap.size]?=some (.cells (laA (k:Int) n a p (.slice a0 d.length g)) 43)):=⟨p3,f.out.2.1.trans b3,In k3 f.out.2.2 L.out⟩;have c3:H.cell? ⟨w.heap.size,j+1,none⟩=some (.int .i64 (m:Int)):=(cell_of_row _ _ (j+1) _ _ _ q.out.2.2).trans ((cell_of_row _ _ (j+1) _ _ _ f.out.2.2).symm.trans T);clear p3 b3 k3 f T cm C im a2;go_wp2_with fail
    go_region_with (first
     | (go_at_call 22;refine(YF m (by omega) _ (tp.ab tp.lt q.out.2.1.drew)).mono ?_;rintro e t ⟨rfl,h⟩)
     | (go_at_call 19;refine(Nm c.heap.size b _ (BR m) _ (q.out.1.drew.ab h) (Nt m) (by simp only[I',mR,oT];omega) (mI q.out.2.1.drew.size h.size)).mono ?_;rintro e A ⟨rfl,F,B,O⟩))
    all_goals
     have x:Hid (Pg c.heap.size b (l++AF (k:Int)++AW ⟨(k:Int),n,a,p,d⟩ (j+1)) A/\Bw c A/\A.heap[w.heap.size]?=some (.cells (laA (k:Int) n a p (.slice a0 d.length g)) 43)):=⟨by rw[R.out];simpa[List.append_assoc]using F,(q.out.2.1.drew.trans (h.mono q.out.2.1.drew.size)).trans B,In O ((h.block _ (D'.1 q.out.2.2).1).trans q.out.2.2) L.out⟩;clear F B O h q c3;go_wp2
     go_roundw
     case rel=>exact⟨j+1,by omega,by go_num,x⟩
     case measure=>simp[intOf];omega
  .obtain rfl:j=3:=by omega
   have X:¬ ((3:Nat):Int)<3:=by omega
   have C:wr.cell? ⟨w.heap.size,0,none⟩=some (.int .i64 (k:Int)):=by rw[cell_of_row _ _ 0 _ _ _ f.out.2.2];rfl
   have a7:(AW ⟨(k:Int),n,a,p,d⟩ 3).length<=24:=(D 2 (by omega)).2;have a1:=EW (k:Int);obtain⟨u,o⟩:∃ u,((k:Int)==1)=u:=⟨_,rfl⟩;go_wp2_with fail
   refine(Jh (k:Int) wr).mono ?_;rintro e H ⟨rfl,rfl⟩;rw[o];cases u with
   | false =>
    have K:Hid (Bd ⟨(k:Int),n,a,p,d⟩=AF (k:Int)++AW ⟨(k:Int),n,a,p,d⟩ 3):=by
     unfold Hid;rw[Fk,if_neg (by simpa using o),nI]
    clear o;go_wp2_with fail
    refine(DE c.heap.size b _ 10 _ f.out.1 (by simp only[I'];omega) f.out.2.1.size).mono ?_;rintro e t ⟨rfl,E,h,N⟩;have x:Hid (Pg c.heap.size b (l++(Bd ⟨(k:Int),n,a,p,d⟩++[10])) t/\Bw c t):=⟨by rw[K.out];simpa[List.append_assoc]using E,f.out.2.1.trans h⟩;clear E h N f;go_wp2
    go_end0
    exact⟨rfl,x.out⟩
   | true =>
    have K:Hid (Bd ⟨(k:Int),n,a,p,d⟩=AF (k:Int)++AW ⟨(k:Int),n,a,p,d⟩ 3++(32::Bm d)):=by
     unfold Hid;rw[Fk,if_pos (by simpa using o)]
    clear o;go_wp2_with fail
    refine(DE c.heap.size b _ 32 _ f.out.1 (by simp only[I'];omega) f.out.2.1.size).mono ?_;rintro e t ⟨rfl,E,h,N⟩;have I:Hid (Pg c.heap.size b (l++AF (k:Int)++AW ⟨(k:Int),n,a,p,d⟩ 3++[32]) t/\Bw c t/\t.heap[w.heap.size]?=some (.cells (laA (k:Int) n a p (.slice a0 d.length g)) 43)):=⟨E,f.out.2.1.trans h,In N f.out.2.2 L.out⟩;have cd:t.cell? ⟨w.heap.size,4,none⟩=some (.slice a0 d.length g):=by rw[cell_of_row _ _ 4 _ _ _ I.out.2.2];rfl
    clear E h N f C;go_wp2_with fail
    refine(O0 c b _ _ d t I.out.1 HD.out I.out.2.1 (by simp only[I',mR,oT];omega)).mono ?_;rintro e A ⟨rfl,F,B,O⟩;have J:Hid (Pg c.heap.size b (l++Bd ⟨(k:Int),n,a,p,d⟩) A/\Bw c A):=⟨by rw[K.out];simpa[List.append_assoc]using F,B⟩;have a9:(Bd ⟨(k:Int),n,a,p,d⟩).length<=4100:=by rw[K.out];simp only[I',mR,Dt];omega
    clear F B O I cd;go_wp2_with fail
    refine(DE c.heap.size b _ 10 _ J.out.1 (by simp only[I'];omega) J.out.2.size).mono ?_;rintro e w6 ⟨rfl,p6,b6,k6⟩;have x:Hid (Pg c.heap.size b (l++(Bd ⟨(k:Int),n,a,p,d⟩++[10])) w6/\Bw c w6):=⟨by simpa[List.append_assoc]using p6,J.out.2.trans b6⟩;clear p6 b6 k6 J;go_wp2
    go_end0
    exact⟨rfl,x.out⟩
theorem Uf(h:LacOk x):∃ k:Nat,x.k=(k:Int)/\ActV k x.n x.a x.p x.d:=by
 obtain⟨⟨s,t⟩,q,l,r,m,c,a0,f,i⟩:=h;obtain⟨g,n,a,p,d⟩:=x;simp only at *;obtain⟨k,rfl⟩:∃ k:Nat,g=(k:Int):=⟨g.toNat,by omega⟩;refine⟨k,rfl,⟨by omega,by omega,λj o=>?_,λj o b=>?_,m,λe=>i (by omega)⟩⟩
 .rcases(by omega:j=0\/j=1\/j=2)with rfl|rfl|rfl
  .show 0<=n/\n<=4;cases b:Aw (k:Int)with
   | true=>exact q b
   | false=>rw[c b];omega
  .show 0<=a/\a<=1048576;cases b:AA (k:Int)with
   | true=>exact l b
   | false=>rw[a0 b];omega
  .show 0<=p/\p<=100000;cases b:AC (k:Int)with
   | true=>exact r b
   | false=>rw[f b];omega
 .rcases(by omega:j=0\/j=1\/j=2)with rfl|rfl|rfl
  .exact c b
  .exact a0 b
  .exact f b
theorem kG{k:Nat}{n a p:Int}(h:ActV k n a p d)(j:Nat):0<=GA ⟨(k:Int),n,a,p,d⟩ j/\GA ⟨(k:Int),n,a,p,d⟩ j<=1048576:=by
 have b:=h.nb 0 (by omega);have c:=h.nb 1 (by omega);have e:=h.nb 2 (by omega);simp only[GA,Eu]at b c e ⊢;simp at b c e;split
 .omega
 .split<;>omega
theorem Sj{i:Nat}(h:i<l.length):AP (l.take (i+1))=AP (l.take i)++(Bd (laF l i)++[10]):=by
 rw[mZ h,Si,FQ h]
theorem Wa(h:LacOk x):(Bd x).length<=4100:=by
 obtain⟨k,c,b⟩:=Uf h;obtain⟨j,n,a,p,d⟩:=x;simp only at c b;subst c;have e:=(LS ⟨(k:Int),n,a,p,d⟩ (kG b) 2 (by omega)).2;have f:(AW ⟨(k:Int),n,a,p,d⟩ 3).length<=24:=e;have g:=EW (k:Int);have i:=b.dl;rw[Fk];simp only[I'];split
 .simp only[mR,Dt];omega
 .simp only[oT];omega
theorem Lu(h:∀ x∈l,LacOk x):(AP l).length<=4101*l.length:=by
 induction l with
 | nil=>simp[AP]
 | cons a l ih =>
  have c:=Wa (h a (by simp));have d:=ih (λx b=>h x (by simp[b]));rw[Dd];simp only[I',mR];omega
theorem kq(k n a p:Int)(b:Option Addr)(c d:Nat):(laA k n a p (.slice b c d)).all (·.oneCell')=true:=by simp[laA,Value.oneCell']
theorem VL(c:World)(b:Nat)(a0:Option Addr)(I:Nat)(l:List Lac)(w:World)(hs:Sk c (.slice a0 l.length I) (laF l) l.length)(hv:∀ x∈l,LacOk x)(hl:l.length<=100000)(hp:Pg c.heap.size b [] w)(h0:Bw c w)(tw:LWTab c)(tb:LBTab c)(tp:LPTab c) :
  Calls prog 10 #[.slice a0 l.length I,.func (Fn.func 11) #[.pointer (some ⟨b,0,none⟩)] #[]] w λe w'=>e=.returned (.tuple #[.int .i64 0,.int .i64 0])/\(l=[]->w'=w)/\Pg c.heap.size b (AP l) w'/\Bw c w':=by
 have HS:Hid (Sk c (.slice a0 l.length I) (laF l) l.length):=hs;have U:Hid (∀ x∈l,LacOk x):=hv;clear hs hv;go_enter func10,ntmps10
 go_wp2_with fail
 go_loopw [11] (λiv wr=>∃ i:Nat,i<=l.length/\iv=.int .i64 (i:Int)/\Hid ((i=0->wr=w)/\Pg c.heap.size b (AP (l.take i)) wr/\Bw c wr)) (λiv _=>((l.length:Int)-intOf iv).toNat)
 case atStart=>exact⟨0,by omega,rfl,λ_=>rfl,hp,h0⟩
 case round =>
  obtain⟨i,hin,rfl,o⟩:=hrel;by_cases g:i<l.length
  .have N:(i:Int)<(l.length:Int):=by omega
   have i0:(0:Int)<=(i:Int):=by omega
   obtain⟨b0,o0,r,xm,s,rfl,E,F,j⟩:=HS.out.spot i g;have y:LacOk (laF l i):=by rw[FQ g];exact U.out _ (na g)
   have T:Hid (AP (l.take (i+1))=AP (l.take i)++(Bd (laF l i)++[10])):=Sj g;have M:(AP (l.take i)).length<=4101*(l.take i).length:=Lu (λx hx=>U.out x (mY hx));rw[mH]at M
   have q:=ju o.out.2.2 E F;generalize laF l i=x at y T q j;obtain⟨k,hk,z⟩:=Uf y;obtain⟨xk,n,a,p,d⟩:=x;simp only at hk z j;subst hk;obtain⟨_,_,e⟩:=j.kn;simp only[Value.slice.injEq]at e;obtain⟨rfl,rfl,rfl⟩:=e;have B:Hid (ActV k n a p d/\Sl c (.slice r d.length s) d):=⟨z,j⟩;have a1:=WH b0 o0 l.length I i g;simp only[laV]at q;clear F E j z y;obtain⟨G,v⟩:∃ W,wr.alloc (.cells #[.int .i64 0,.int .i64 0,.int .i64 0,.int .i64 0,.slice none 0 0] 43)=W:=⟨_,rfl⟩;have Q:G.heap[wr.heap.size]?=some (.cells #[.int .i64 0,.int .i64 0,.int .i64 0,.int .i64 0,.slice none 0 0] 43):=by rw[<- v];exact heap_alloc_new _ _
   have bz:Bw wr G:=by rw[<- v];exact(Below.refl _ _).alloc (A' _) _
   have m:=setRow_heap G wr.heap.size _ (laA (k:Int) n a p (.slice r d.length s)) 43 _ Q;have t:=Aq bz (A' _) (laA (k:Int) n a p (.slice r d.length s));obtain⟨D,u⟩:∃ W,G.setRow wr.heap.size (laA (k:Int) n a p (.slice r d.length s))=W:=⟨_,rfl⟩;have A:=m;unfold laA at A;have L:Hid _:=A;clear A;rw[u]at m t
   have C:Hid (Bw wr D/\D.heap[wr.heap.size]?=some (.cells (laA (k:Int) n a p (.slice r d.length s)) 43)):=⟨t,m⟩;have Y:Hid _:=Q;have P:=m;unfold laA at P;have X:Hid _:=P;clear P;clear m t bz Q;unfold laA at u;go_wp2_with (first
    | (refine wpList_load_mid rfl 43 _ rfl b0 (o0+5*i) rfl [.int .i64 (k:Int),.int .i64 n,.int .i64 a,.int .i64 p,.slice r d.length s] _ q underlying43 rfl LF ?_)
    | (refine wpList_store_row rfl 43 (.tmp 7) (.tmp 15) rfl wr.heap.size #[.int .i64 (k:Int),.int .i64 n,.int .i64 a,.int .i64 p,.slice r d.length s] rfl rfl 43 _ Y.out LF rfl (kq _ _ _ _ _ _ _) ?_)
    | (refine wpList_load_row rfl 43 _ rfl wr.heap.size rfl 43 _ (0,0) _ X.out underlying43 rfl LF ?_)
    | (refine wpList_load_row rfl 43 _ rfl wr.heap.size rfl 43 _ (0,0) _ L.out underlying43 rfl LF ?_))
   have f:Hid (Bw c D/\Pg c.heap.size b (AP (l.take i)) D):=⟨o.out.2.2.trans (C.out.1.mono o.out.2.2.size),o.out.2.1.ab C.out.1⟩;clear v u q Y o;refine(XH k n a p d B.out.1 r s D (tw.ab f.out.1) (tb.ab f.out.1)).mono ?_;rintro e R ⟨rfl,H⟩;have J:Hid (Bw c R/\Pg c.heap.size b (AP (l.take i)) R):=⟨f.out.1.trans (H.mono f.out.1.size),f.out.2.ab H⟩;have O:=(H.block _ (D'.1 C.out.2).1).trans C.out.2;unfold laA at O;have V:Hid _:=O;clear H O C f X;go_wp2_with (refine wpList_load_row rfl 43 _ rfl wr.heap.size rfl 43 _ (0,0) _ V.out underlying43 rfl LF ?_)
   refine(bU c b _ k n a p d _ B.out.1.k1 B.out.1.k9 (kG B.out.1) B.out.2 B.out.1.dl R J.out.2 J.out.1 tw tp (by omega)).mono ?_;rintro e S ⟨rfl,p4,Z⟩;have K:Hid ((i+1=0->S=w)/\Pg c.heap.size b (AP (l.take (i+1))) S/\Bw c S):=⟨λe=>by omega,by rw[T.out];exact p4,Z⟩;clear p4 Z J V;go_wp2
   go_roundw
   case rel=>exact⟨i+1,by omega,by go_num,K⟩
   case measure=>simp[intOf];omega
  .obtain rfl:i=l.length:=by omega
   have N:¬ (l.length:Int)<(l.length:Int):=by omega
   have K:Hid ((l=[]->wr=w)/\Pg c.heap.size b (AP l) wr/\Bw c wr):=⟨λe=>o.out.1 (by rw[e];rfl),by have h:=o.out.2.1;rwa [oZ]at h,o.out.2.2⟩;clear o;go_wp2
   go_ret2
   exact⟨rfl,K.out⟩
theorem Sw(h:∀ x∈d,0<=x/\x<256):∀ c∈Bm d,0<=c/\c<256:=by
 induction d with
 | nil=>intro c hc;simp[Bm]at hc
 | cons x d ih =>
  have g:=h x (by simp);have a:∀ n:Int,0<=n->n<16->0<=hxD n/\hxD n<256:=λn e f=>by unfold hxD;split<;>omega
  intro c hc;simp only[Bm,mK]at hc;rcases hc with rfl|rfl|hc
  .exact a _ (by omega) (by omega)
  .exact a _ (by omega) (by omega)
  .exact ih (λy b=>h y (by simp[b])) c hc
theorem Ql(b:IQ x):∀ c∈Bd x,0<=c/\c<256:=by
 intro c hc;rw[Fk]at hc
 have a:∀ j,∀ c∈AW x j,0<=c/\c<256:=λj=>by
  induction j with
  | zero=>intro c hc;simp[AW]at hc
  | succ j ih =>
   intro c hc;rw[AW,Z']at hc
   rcases hc with hc|hc
   .exact ih c hc
   .split at hc
    .rcases mK.1 hc with rfl|hc
     .omega
     .exact Nt _ c hc
    .simp at hc
 simp only[Z']at hc;rcases hc with(hc|hc)|hc
 .exact Gk _ c hc
 .exact a 3 c hc
 .split at hc
  .rcases mK.1 hc with rfl|hc
   .omega
   .exact Sw b c hc
  .simp at hc
theorem JM(a:∀ x∈l,IQ x):∀ c∈AP l,0<=c/\c<256:=by
 intro c hc;obtain⟨x,b,hc⟩:=pu.1 hc;rcases Z'.1 hc with hc|hc
 .exact Ql (a x b) c hc
 .simp at hc;omega
theorem eM(v:Value)(l:List Lac)(w:World)(j:Sk w v (laF l) l.length)(q:∀ x∈l,LacOk x)(n:∀ x∈l,IQ x)(o:l.length<=100000)(t:LWTab w)(r:LBTab w)(s:LPTab w) :
  Calls prog 5 #[v] w λe w'=>e=.returned (.tuple #[.string (strOfNums (AP l)),.int .i64 0,.int .i64 0])/\Bw w w':=by
 obtain⟨a0,m,rfl⟩:=j.shape;have p:¬ (100000:Int)<(l.length:Int):=by omega
 have f:Bw w (w.alloc (.cells #[.pointer none,.slice none 0 0] 51)):=(Below.refl _ _).alloc (A' _) _;have k:Hid (∀ x∈AP l,0<=x/\x<256):=JM n;go_enter func5,ntmps5
 go_wp2_with fail
 refine(VL w w.heap.size a0 m l _ j q o (Pg.new w) f t r s).mono ?_;rintro e u ⟨rfl,i,h,d⟩;by_cases b:l=[]
 .obtain rfl:=i b;subst b;go_wp2_with fail
  refine(Pz w.heap.size w.heap.size (.pointer none) _ (heap_alloc_new _ _)).mono ?_;rintro e y ⟨rfl,c⟩;have g:=d.trans c;clear d c f h;go_wp2
  go_ret3
  exact⟨rfl,g⟩
 .have HN:Hid (AP l≠[]):=λe=>b (by
   cases l with
   | nil=>rfl
   | cons a l=>rw[Dd]at e;simp at e)
  clear i b;go_wp2_with fail
  refine(O4 w.heap.size w.heap.size (AP l) u h k.out HN.out).mono ?_;rintro e y ⟨rfl,c⟩;have g:=d.trans c;clear d c f h;go_wp2
  go_ret3
  exact⟨rfl,g⟩
end
end
section
def RdA(t:List Int)(l:List Lac)(r:List Int)(i E:Int):Prop :=
 (4000000<t.length/\i=0/\E=1)\/(t.length<=4000000/\Rd 100000 t l r/\((r=[]/\i=0/\E=0)\/(r≠[]/\l.length=100000/\i=100000/\E=8)\/(r≠[]/\l.length<100000/\i=l.length/\E=3)))
theorem RdA.unique{t:List Int}{l l':List Lac}{r r':List Int}{i b E a:Int}(h:RdA t l r i E)(g:RdA t l' r' b a):i=b/\E=a/\(E=0->l=l'):=by
 rcases h with⟨h1,h2,h3⟩|⟨h1,h2,h3⟩<;>rcases g with⟨g1,g2,g3⟩|⟨g1,g2,g3⟩
 .exact⟨by omega,by omega,λe=>by omega⟩
 .omega
 .omega
 .obtain⟨rfl,rfl⟩:=h2.unique g2;rcases h3 with⟨a1,a2,a3⟩|⟨a1,a2,a3,a4⟩|⟨a1,a2,a3,a4⟩<;>rcases g3 with⟨b1,b2,b3⟩|⟨b1,b2,b3,b4⟩|⟨b1,b2,b3,b4⟩
  all_goals first|(exact⟨by omega,by omega,λ_=>rfl⟩)|(exact absurd a1 b1)|(exact absurd b1 a1)|omega
end
section
open Go.RowKit
section
inductive Lns:List Int->List (List Int)->Prop
 | nil:Lns [] []
 | last {t:List Int} (h:t≠[]) (hno:10∉t):Lns t [t]
 | cons {x r:List Int} {L:List (List Int)} (hno:10∉x) (h:Lns r L):Lns (x++10::r) ((x++[10])::L)
theorem iD(t:List Int):∃ L,Lns t L:=by
 have key:∀ n,∀ t:List Int,t.length<=n->∃ L,Lns t L:=by
  intro n;induction n with
  | zero=>intro t b;have e:=mG (Nat.le_zero.1 b);subst e;exact⟨[],.nil⟩
  | succ n ih =>
   intro t b;by_cases c:t=[]
   .subst c;exact⟨_,.nil⟩
   .by_cases h10:10∈t
    .obtain⟨x,r,rfl,hx⟩:=first10 h10;obtain⟨L,g⟩:=ih r (by simp at b;omega);exact⟨_,.cons hx g⟩
    .exact⟨_,.last c h10⟩
 exact key _ t (A' _)
where
 first10 {t:List Int} (h:10∈t):∃ x r,t=x++10::r/\10∉x:=by
  induction t with
  | nil=>simp at h
  | cons a t ih =>
   by_cases e:a=10
   .exact⟨[],t,by rw[e];rfl,by simp⟩
   .have h2:10∈t:=by
     rcases mK.1 h with h|h
     .exact absurd h.symm e
     .exact h
    obtain⟨x,r,d,f⟩:=ih h2;exact⟨a::x,r,by rw[d];rfl,by simp only[mK,not_or];exact⟨λh=>e h.symm,f⟩⟩
variable{L L1:List (List Int)}{l:List Lac}{t y:List Int}
theorem Lns.flat(h:Lns t L):L.flatten=t:=by
 induction h with
 | nil=>rfl
 | last _ _=>simp
 | cons _ _ ih=>simp[ih]
theorem Lns.len(h:Lns t L):L.length<=t.length:=by
 induction h with
 | nil=>simp
 | @last t h _=>have:=oY.2 h;simp;omega
 | cons _ _ ih=>simp;omega
theorem Lns.drop{b:List (List Int)}(h:Lns t (L1++b)):Lns (t.drop L1.flatten.length) b:=by
 induction L1 generalizing t with
 | nil=>simpa using h
 | cons y L1 ih =>
  generalize a:(y::L1)++b=L at h;cases h with
  | nil=>simp at a
  | @last t h0 hno =>
   simp only[nW,nt,List.append_eq_nil_iff]at a;obtain⟨rfl,rfl,rfl⟩:=a;simp;exact .nil
  | @cons x r L hno h =>
   simp only[nW,nt]at a;obtain⟨rfl,rfl⟩:=a;have:=ih h;have e:(x++10::r).drop ((x++[10])::L1).flatten.length=r.drop L1.flatten.length:=by
    rw[show x++10::r=(x++[10])++r by simp,pQ,I',<- pT,List.drop_left]
   rw[e];exact this
theorem Lns.head(h:Lns t (y::L)):(∃ x,y=x++[10]/\10∉x)\/(10∉y/\L=[]/\t=y):=by
 generalize a:y::L=M at h;cases h with
 | nil=>cases a
 | @last t h0 hno=>simp at a;obtain⟨rfl,rfl⟩:=a;exact .inr ⟨hno,rfl,rfl⟩
 | @cons x r L' hno h=>simp at a;obtain⟨rfl,rfl⟩:=a;exact .inl ⟨x,rfl,hno⟩
theorem Nx(l:List Lac):(l.map (λa=>Bd a++[10])).flatten=AP l:=by
 unfold AP;rw[List.flatMap_def]
theorem dF(h:Lns t (l.map (λa=>Bd a++[10])))(d:∀ a∈l,KW a)(b:l.length<=100000)(c:t.length<=4000000):RdA t l [] 0 0:=by
 have e:=h.flat;rw[Nx]at e
 exact .inr ⟨c,⟨by rw[nI,e],d,b,λe=>absurd rfl e⟩,.inl ⟨rfl,rfl,rfl⟩⟩
theorem NO(h:Lns t (l.map (λa=>Bd a++[10])++L)):t=AP l++L.flatten:=by
 have e:=h.flat;rw[qk,Nx]at e
 exact e.symm
theorem Qo(h:Lns t (L1++y::L)):(y::L).flatten≠[]:=by
 have b:=h.drop.head;rcases b with⟨x,rfl,_⟩|⟨h2,rfl,h3⟩
 .simp
 .intro e;simp at e;subst e;have:=h.drop;generalize t.drop L1.flatten.length=z at this;generalize a:[([]:List Int)]=M at this;cases this with
  | nil=>cases a
  | last h0 _=>simp at a;exact h0 a
  | cons _ _=>simp at a
theorem YY(h:Lns t (l.map (λa=>Bd a++[10])++y::L))(d:∀ a∈l,KW a)(b:l.length=100000)(c:t.length<=4000000):RdA t l (y::L).flatten 100000 8 :=
 .inr ⟨c,⟨NO h,d,by omega,λ_ e=>by omega⟩,.inr (.inl ⟨Qo h,b,rfl,rfl⟩)⟩
theorem dG(h:Lns t (l.map (λa=>Bd a++[10])++y::L))(j:∀ a∈l,KW a)(g:l.length<100000)(c:∀ b x,y=b++[10]->rdL b≠some x)(i:t.length<=4000000):RdA t l (y::L).flatten l.length 3:=by
 refine .inr ⟨i,⟨NO h,j,by omega,λ_ _ a s d e=>?_⟩,.inr (.inr ⟨Qo h,g,rfl,rfl⟩)⟩;rcases h.drop.head with⟨x,rfl,h10⟩|⟨h10,rfl,_⟩
 .rw[pQ,mN]at e
  have f:=(fQ h10 (Hg d.2) (by simpa using e)).1;exact c x a rfl (KP.2 ⟨d,f.symm⟩)
 .simp at e;rw[e]at h10
  exact h10 (by simp)
end
end
section
open Go.RowKit Go.Shelf
attribute [local go_sem] Oper.semAt_some
def TA:Value->Nat
 | .string s=>s.size
 | _=>0
abbrev LnA:Type:={ x:Nat × List Int // (∀ c∈x.2,0<=c/\c<256)/\x.2.length<=4000000/\x.1<=4000000 }
def En(ys:List LnA)(L:List (List Int)):Prop:=ys.map (λy=>y.1.2)=L/\∀ i,i<ys.length->(ys.map (λy=>y.1.1)).getD i 0=i
theorem En.nil:En [] []:=⟨rfl,λi a=>by simp at a⟩
theorem En.len{a:List LnA}{L:List (List Int)}(h:En a L):a.length=L.length:=by rw[<- h.1];simp
theorem En.snoc{a:List LnA}{L:List (List Int)}(h:En a L)(x:LnA)(c:x.1.1=a.length):En (a++[x]) (L++[x.1.2]):=by
 refine⟨by simp[h.1],λi b=>?_⟩;simp at b;by_cases e:i=a.length
 .subst e;simp[List.getD,c]
 .have h2:=h.2 i (by omega);simp only[mS,nc]at h2 ⊢;rw[mP (by simp;omega)];exact h2
theorem En.last{a:List LnA}{x:LnA}{L:List (List Int)}(h:En (a++[x]) L):x.1.1=a.length:=by
 have b:=h.2 a.length (by simp);simpa[List.getD]using b
theorem eF(l:List Int)(j:Nat)(a:j<=l.length)(w:World):(Instr.slice 9 (.string (strOfNums l)) none (some (.int .i64 (j:Int))) none).run prog w=.ok (.string (strOfNums (l.take j))) w:=by
 rw[run_slice_string_to_if (P:=prog) (w:=w) 9 _ _ _ underlying9,if_pos ⟨by omega,by rw[AR];omega⟩,KS];simp
theorem WJ(l:List Int)(i:Nat)(a:i<=l.length)(w:World):(Instr.slice 9 (.string (strOfNums l)) (some (.int .i64 (i:Int))) none none).run prog w=.ok (.string (strOfNums (l.drop i))) w:=by
 rw[run_slice_string_from_if (P:=prog) (w:=w) 9 _ _ _ underlying9,if_pos ⟨by omega,by rw[AR];omega⟩,KS,AR];simp
theorem Wb(n:Nat)(hn:1<=n)(l Bs G:Nat)(t:List Int)(hb:∀ x∈t,0<=x/\x<256)(ht:t.length<=4000000)(L:List (List Int))(hL:Lns t L)(J Z:List LnA->World->Prop)
  (hY:∀ pre (x:LnA) W,J pre W->pre.length<L.length->YieldAt Fence.wide (n-1) prog l #[.int .i64 (x.1.1:Int),.string (strOfNums x.1.2)] W λe W' =>
   (e=.returned (.bool true)/\J (pre++[x]) W'/\Below G W W')\/(e=.returned (.bool false)/\Z (pre++[x]) W'))
  (W:World)(a3:W.cell? ⟨Bs,0,none⟩=some (.string (strOfNums t)))(h0:J [] W) :
  CallsIn Fence.wide n prog 25 #[.func (.yield l) #[] #[],.pointer (some ⟨Bs,0,none⟩)] W λe W'=>(∃ v,e=.returned v) /\
   ((∃ ys,En ys L/\J ys W')\/(∃ pre,(∃ L1 L2,L=L1++L2/\En pre L1)/\Z pre W')):=by
 refine callsIn_of_wp func25 rfl trivial ?_ rfl;simp only[ntmps25,oo,mR,oT,Nat.reduceAdd,Nat.reduceSub,qf,qg,qz,ql,nF,nW];have M:Hid (Lns t L):=hL;clear hL
 gi_wp2
 gi_loopw [3,4] (λrv pv wr=>∃ (pre:List LnA) (L1 L2:List (List Int)) (r:List Int),rv=.string (strOfNums r)/\pv=.int .i64 (pre.length:Int)/\Hid (L=L1++L2/\Lns r L2/\En pre L1/\(∀ c∈r,0<=c/\c<256)/\r.length<=4000000/\L1.length+r.length<=4000000)/\J pre wr)
  (λrv _ _=>TA rv)
 case atStart=>exact⟨[],[],L,t,rfl,rfl,⟨rfl,M.out,En.nil,hb,ht,by simpa using ht⟩,h0⟩
 case round =>
  obtain⟨pre,L1,L2,r,rfl,rfl,b,B⟩:=hrel;have a6:=AR r;have a5:=b.out.2.2.2.2.1;have g:=b.out.2.2.2.1;have T:pre.length<=4000000:=by have p:=b.out.2.2.1.len;have h:=b.out.2.2.2.2.2;omega
  by_cases k:r=[]
  .have he0:=US k;have R:=(G7 r).2 k;have HE:Hid (En pre L):=by
    have p:=b.out.2.1;have h:=b.out.1;have P:=b.out.2.2.1;have h4:L2=[]:=by
     have:=p.len;rw[k]at this
     exact mG (by simpa using this)
    rw[h4,nI]at h
    unfold Hid;rw[h];exact P
   clear k b g
   gi_wp2
   go_end0
   exact⟨⟨_,rfl⟩,.inl ⟨pre,HE.out,B⟩⟩
  .have he0:=UT k;have R:¬ (strOfNums r).toList=[]:=λe=>k ((G7 r).1 e);obtain⟨y,r',o,i⟩:∃ (y r':List Int) (o:List (List Int)),Hid (r=y++r'/\L2=y::o/\Lns r' o/\0<y.length/\((D8 r 10=-1/\y=r)\/D8 r 10+1=y.length)):=by
    have p:=b.out.2.1;generalize U:r=r0 at p;cases p with
    | nil=>exact absurd U k
    | last h hno=>exact⟨r0,[],[],by simp,rfl,.nil,oY.2 h,.inl ⟨U8 hno,rfl⟩⟩
    | @cons x r2 L4 hno P=>exact⟨x++[10],r2,L4,by simp,rfl,P,by simp,.inr (by rw[U7 hno];simp)⟩
   obtain⟨a,s,C,a7,j⟩:=i.out;have F:y.length<=r.length:=by rw[a];simp
   have Y:∀ c∈y,0<=c/\c<256:=λc Q=>g c (by rw[a];simp[Q]);have m:∀ c∈r',0<=c/\c<256:=λc Q=>g c (by rw[a];simp[Q]);have E:pre.length<L.length:=by
    have p:=b.out.1;have h:=b.out.2.2.1.len;rw[p,s];simp;omega
   have A:Hid (CallsIn Fence.wide (n-1) prog 26 #[.string (strOfNums r),.int .u8 10] wr λe H=>e=.returned (.int .i64 (D8 r 10))/\H=wr):=callsIn_wide.2 (Ez r g 10 (by omega) wr);have X:y.length<=4000000:=by omega
   obtain⟨I,u,w⟩:∃ x:LnA,x.1.1=pre.length/\x.1.2=y:=⟨⟨(pre.length,y),Y,X,T⟩,rfl,rfl⟩;obtain⟨fn,a1,K,a0,hy,hR⟩:=hY pre I wr B E;rw[u,w]at hy
   have N:=eF r y.length F;have O:=WJ r y.length F;have e1:r.take y.length=y:=by rw[a];simp
   have e2:r.drop y.length=r':=by rw[a];simp
   rw[e1]at N
   rw[e2]at O
   have a4:r'.length<r.length:=by rw[a];simp;omega
   have d:Hid (L=(L1++[y])++o/\Lns r' o/\En (pre++[I]) (L1++[y])/\(∀ c∈r',0<=c/\c<256)/\r'.length<=4000000/\(L1++[y]).length+r'.length<=4000000):=by
    refine⟨by rw[b.out.1,s];simp,C,by have:=b.out.2.2.1.snoc I u;rwa [w]at this,m,by omega,?_⟩;have h:=b.out.2.2.2.2.2;rw[a]at h
    simp at h ⊢;omega
   clear b g a s C i k e1 e2 m u w;obtain⟨ix,D⟩:∃ z,D8 r 10=z:=⟨_,rfl⟩;rw[D]at A j
   clear D;rcases j with⟨rfl,hyr⟩|hix2
   .have hyn:(r.length:Int)=(y.length:Int):=by rw[hyr]
    have a2:Hid (r.length=y.length):=by unfold Hid;rw[hyr]
    clear hyr
    gi_wp2_with (refine⟨trivial,?_⟩;gi_at_call 26;refine A.out.mono ?_;rintro e H ⟨rfl,V⟩;subst H;clear A)
    refine hR.mono ?_;rintro e W3 (⟨rfl,q,S⟩|⟨rfl,f⟩)
    .gi_wp2
     go_roundw
     case rel=>exact⟨pre++[I],L1++[y],o,r',rfl,by simp,d,q⟩
     case measure=>simp[TA,AR];omega
    .gi_wp2
     refine bodyPost_ret (results_none rfl _ _ _) rfl ?_;exact⟨⟨_,rfl⟩,.inr ⟨_,⟨_,_,d.out.1,d.out.2.2.1⟩,f⟩⟩
   .have hne:(ix+1==0)=false:=SM (by omega)
    gi_wp2_with (refine⟨trivial,?_⟩;gi_at_call 26;refine A.out.mono ?_;rintro e H ⟨rfl,V⟩;subst H;clear A)
    refine hR.mono ?_;rintro e W3 (⟨rfl,q,S⟩|⟨rfl,f⟩)
    .gi_wp2
     go_roundw
     case rel=>exact⟨pre++[I],L1++[y],o,r',rfl,by simp,d,q⟩
     case measure=>simp[TA,AR];omega
    .gi_wp2
     refine bodyPost_ret (results_none rfl _ _ _) rfl ?_;exact⟨⟨_,rfl⟩,.inr ⟨_,⟨_,_,d.out.1,d.out.2.2.1⟩,f⟩⟩
theorem YW(n:Nat)(s:ByteArray)(w:World) :
  CallsIn Fence.wide n prog 13 #[.string s] w λe w'=>e=.returned (.func (.func 25) #[] #[.pointer (some ⟨w.heap.size,0,none⟩)])/\w'=w.alloc (.cells #[.string s] 9):=by
 refine callsIn_of_wp func13 rfl trivial ?_ rfl;simp only[ntmps13,oo,mR,oT,Nat.reduceAdd,Nat.reduceSub,qf,qg,qz,ql,nF,nW]
 gi_wp2
 go_ret;exact⟨rfl,rfl⟩
theorem Qm(n:Nat)(j:1<=n)(Bs a:Nat)(t:List Int)(h:∀ x∈t,0<=x/\x<256)(k:t.length<=4000000)(L:List (List Int))(e:Lns t L)(w:World)(b:Bs<w.heap.size)(i:w.cell? ⟨Bs,0,none⟩=some (.string (strOfNums t))) :
  SeqStopsK Fence.wide n prog 25 #[.pointer (some ⟨Bs,0,none⟩)] (λx:LnA=>#[Value.int .i64 (x.1.1:Int),Value.string (strOfNums x.1.2)]) (Below a) (λys=>En ys L) (λpre=>∃ L1 L2,L=L1++L2/\En pre L1) L.length w:=λl J c W f _ _ g d =>
 Wb n j l Bs a t h k L e J c g W ((f.cell (p:=⟨Bs,0,none⟩) b).trans i) d
end
section
open Go.RowKit
section
def KZ(t:List Int)(e:Ending)(w':World):Prop:=∃ (v:Value) (i E:Int) (l:List Lac) (r:List Int),e=.returned (.tuple #[v,.int .i64 i,.int .i64 E])/\RdA t l r i E/\(E≠0->v=.slice none 0 0)/\(E=0->Sk w' v (laF l) l.length)
variable{l:List Lac}{r t:List Int}{w':World}
theorem KZ.bad{i E:Int}{b:World}(h:RdA t l r i E)(a:E≠0):KZ t (.returned (.tuple #[.slice none 0 0,.int .i64 i,.int .i64 E])) b:=⟨_,_,_,l,r,rfl,h,λ_=>rfl,λe=>absurd e a⟩
theorem KZ.sV{v:Value}(h:RdA t l r 0 0)(a:Sk w' v (laF l) l.length):KZ t (.returned (.tuple #[v,.int .i64 0,.int .i64 0])) w':=⟨_,_,_,l,r,rfl,h,λe=>absurd rfl e,λ_=>a⟩
end
end
section
open Go.RowKit Go.Shelf
theorem JG{W a:World}(h:Bw W a):KeepsOthers W a:=⟨h.size,λk o b _=>(h.block k (D'.1 b).1).trans b⟩
theorem Ev{W a:World}{row:Option Nat}(f:W.grownBy a row)(g:∀ r,row=some r->∃ o:Obj,W.heap[r]?=some o/\o.isCells=false){k:Nat}{b:Array Value}{t:TypeId}{fr:Nat × Nat}(h:W.heap[k]?=some (.cells b t fr)):a.heap[k]?=some (.cells b t fr):=by
 refine(f.block k (D'.1 h).1 (λe=>?_)).trans h;obtain⟨o,c,d⟩:=g k e.symm;rw[h]at c
 cases c;cases d
theorem fX{W c:World}{row:Option Nat}(f:W.grownBy c row)(i:∀ r,row=some r->∃ o:Obj,W.heap[r]?=some o/\o.isCells=false){b e s n:Nat}{v:Value}{d:List Value}(h:W.ownsRow b e s v n d):c.ownsRow b e s v n d:=by
 refine Ar h (λk a=>?_);rcases h.2 with⟨h1,_⟩|⟨q,cap,cur,h1,_,h2,_⟩
 .rw[h1]at a;cases a
 .rw[h1]at a
  have g:q=k:=by simpa[Value.ownBlock]using a
  subst g;rw[Ev f i h2,h2]
def Hx(pre:List LnA)(l:List Lac):Prop:=pre.map (λy=>y.1.2)=l.map (λa=>Bd a++[10])/\(∀ a∈l,KW a)/\∀ y∈pre,y.1.1<100000
theorem Hx.nil:Hx [] []:=⟨rfl,by simp,by simp⟩
theorem Hx.len{a:List LnA}{l:List Lac}(h:Hx a l):l.length=a.length:=by
 have:=congrArg List.length h.1;simpa using this.symm
theorem Hx.snoc{d:List LnA}{l:List Lac}(h:Hx d l){x:LnA}{b:List Int}{a:Lac}(j:x.1.2=b++[10])(e:rdL b=some a)(g:x.1.1<100000):Hx (d++[x]) (l++[a]):=by
 obtain⟨i,f⟩:=KP.1 e;refine⟨by simp[h.1,j,f],λc hc=>?_,λy hy=>?_⟩
 .rcases Z'.1 hc with hc|hc
  .exact h.2.1 c hc
  .simp at hc;subst hc;exact i
 .rcases Z'.1 hy with hy|hy
  .exact h.2.2 y hy
  .simp at hy;subst hy;exact g
structure RdI(w:World)(R0 R1 R2 R3:Nat)(pre:List LnA)(W:World):Prop where
 ex:∃ (l:List Lac) (Y:Nat->Value) (v:Value),Hx pre l/\W.heap[R3]?=some (.cells #[v] 23)/\W.ownsRow w.heap.size 43 5 v l.length (acL (laF l) Y l.length)/\Km W (laF l) Y l.length
 r0:W.heap[R0]?=some (.cells #[.slice none 0 0] 23)
 r1:W.heap[R1]?=some (.cells #[.int .i64 0] 3)
 r2:W.heap[R2]?=some (.cells #[.int .i64 0] 25)
 ln:Bw w W
structure RdX(w:World)(R0 R1 R2:Nat)(c:Code)(pre:List LnA)(W:World):Prop where
 ret:c=.ret
 ex:∃ (ini:List LnA) (x:LnA) (l:List Lac) (E:Int),pre=ini++[x]/\Hx ini l/\W.heap[R1]?=some (.cells #[.int .i64 (x.1.1:Int)] 3)/\W.heap[R2]?=some (.cells #[.int .i64 E] 25)/\((E=8/\100000<=x.1.1)\/(E=3/\x.1.1<100000/\∀ b a,x.1.2=b++[10]->rdL b≠some a))
 r0:W.heap[R0]?=some (.cells #[.slice none 0 0] 23)
 ln:Bw w W
theorem RdI.own(w:World)(j m n p B:Nat)(A:w.heap.size<=B):OwnFrom B (RdI w j m n p):=λs W D row h b g=>by
 have a:∀ r,row=some r->∃ o:Obj,W.heap[r]?=some o/\o.isCells=false:=λr e=>(g r e).2;obtain⟨⟨l,Y,v,q,t,u,c⟩,x,y,z,d⟩:=h;exact⟨⟨l,Y,v,q,Ev b a t,fX b a u,λi f=>⟨fX b a (c i f).1,(c i f).2⟩⟩,Ev b a x,Ev b a y,Ev b a z,d.grown b d.size (λk C=>mI A (g k C).1)⟩
theorem RdX.own(w:World)(i j m B:Nat)(z:w.heap.size<=B)(c:Code):OwnFrom B (RdX w i j m c):=λs W C row h b g=>by
 have a:∀ r,row=some r->∃ o:Obj,W.heap[r]?=some o/\o.isCells=false:=λr e=>(g r e).2;obtain⟨n,⟨d,x,l,E,p,q,t,u,v⟩,y,f⟩:=h;exact⟨n,⟨d,x,l,E,p,q,Ev b a t,Ev b a u,v⟩,Ev b a y,f.grown b f.size (λk A=>mI z (g k A).1)⟩
theorem et{t:List Int}{L:List (List Int)}{a:List LnA}{l:List Lac}(g:Lns t L)(d:En a L)(h:Hx a l)(i:t.length<=4000000):RdA t l [] 0 0:=by
 have c:l.length<=100000:=by
  rw[h.len];by_cases e:a=[]
  .rw[e];simp
  .have e1:=oI e;have f:(a.getLast e).1.1=a.dropLast.length:=by
    have b:=d;rw[<- e1]at b
    exact b.last
   have j:=h.2.2 (a.getLast e) (qM e);rw[List.length_dropLast]at f
   omega
 refine dF ?_ h.2.1 c i;rw[<- h.1,d.1];exact g
theorem eu{t:List Int}{L n d:List (List Int)}{c:List LnA}{x:LnA}{l:List Lac}{E:Int}(i:Lns t L)(k:L=n++d)(m:En (c++[x]) n)(h:Hx c l)(w:(E=8/\100000<=x.1.1)\/(E=3/\x.1.1<100000/\∀ b a,x.1.2=b++[10]->rdL b≠some a))(s:t.length<=4000000):∃ r,RdA t l r (x.1.1:Int) E:=by
 have f:=m.last;have p:=h.len;have j:L=l.map (λa=>Bd a++[10])++x.1.2::d:=by
  rw[k,<- m.1,mS,h.1];simp
 rw[j]at i
 rcases w with⟨rfl,h8⟩|⟨rfl,h3,hno⟩
 .have hlen:l.length=100000:=by
   by_cases e:c=[]
   .rw[e]at f;simp at f;omega
   .have hlen2:c.length<=100000:=by
     have u:=oI e;have z:=h.2.2 (c.getLast e) (qM e);have o:=m.2 (c.length-1) (by simp;omega);have v:(c++[x]).map (λy=>y.1.1)=(c.dropLast.map (λy=>y.1.1))++((c.getLast e).1.1::[x.1.1]):=by
      conv=>lhs;rw[<- u]
      simp
     rw[v,nc,mQ (by simp)]at o
     have q:=oY.2 e;simp at o;omega
    omega
  refine⟨(x.1.2::d).flatten,?_⟩;have g:=YY i h.2.1 hlen s;rw[f,<- p,hlen];exact g
 .refine⟨(x.1.2::d).flatten,?_⟩;have g:=dG i h.2.1 (by omega) hno s;rw[f,<- p];exact g
attribute [local go_sem] Oper.semAt_some
theorem ZL{w:World}{g:Nat}{b:List Value}(h:w.rangeAt g 0 b):∀ j u,b[j]?=some u->w.cell? ((⟨g,0,none⟩:Addr).add j)=some u:=λj u c=>by
 have a:(⟨g,0,none⟩:Addr).add j=⟨g,0+j,none⟩:=by unfold Addr.add;split<;>simp_all
 rw[a];exact h j u c
theorem slC{W f:World}{row:Option Nat}(g:W.grownBy f row)(q:∀ r,row=some r->∃ o:Obj,W.heap[r]?=some o/\o.isCells=false){v:Value}{l:List Int}(h:Sl W v l):Sl f v l:=by
 obtain⟨⟨a,c,e,m,p,d⟩,j,k⟩:=h;refine⟨⟨a,c,e,m,p,?_⟩,j,k⟩;rcases d with d|⟨b,off,ha,hb,hcell⟩
 .exact .inl d
 .exact .inr ⟨b,off,ha,X' hb g.size,λi n=>cell_kept (hcell i n) g q⟩
theorem skC{W g:World}{row:Option Nat}(f:W.grownBy g row)(k:∀ r,row=some r->∃ o:Obj,W.heap[r]?=some o/\o.isCells=false){v:Value}{F:Nat->Lac}{n:Nat}(h:Sk W v F n):Sk g v F n:=by
 obtain⟨⟨a,c,e,d⟩,l⟩:=h;refine⟨⟨a,c,e,?_⟩,l⟩;rcases d with d|⟨b,off,ha,hb,hcell⟩
 .exact .inl d
 .refine .inr ⟨b,off,ha,X' hb f.size,λi q=>?_⟩;obtain⟨y,m,p⟩:=hcell i q;exact⟨y,λj u s=>cell_kept (m j u s) f k,slC f k p⟩
theorem W7(t:List Int)(a:4000000<t.length)(h:t.length<=140737488351232)(w:World) :
  Calls prog 6 #[.string (strOfNums t)] w λe w'=>KZ t e w'/\Bw w w':=by
 have d:=AR t;have b:Hid (RdA t [] [] 0 1):=.inl ⟨a,rfl,rfl⟩;have g:(4000000:Int)<(t.length:Int):=by omega
 have c:=Oj w (.cells #[.slice none 0 0] 23) (.cells #[.int .i64 0] 3) (.cells #[.int .i64 1] 25);clear a;go_enter func6,ntmps6
 go_wp2
 refine bodyPost_ret (v:=.tuple #[.slice none 0 0,.int .i64 0,.int .i64 1]) ?_ rfl ⟨.bad b.out (by decide),c⟩;simp[results,f6,go_sem]
theorem Tu(t:List Int)(hb:∀ x∈t,0<=x/\x<256)(a8:t.length<=4000000)(w:World)(ht:LTabs w) :
  Calls prog 6 #[.string (strOfNums t)] w λe w'=>KZ t e w'/\Bw w w':=by
 have f8:=AR t;obtain⟨i0,hi,e8,e9,f3⟩:=info_parts i6;obtain⟨L,hL⟩:=iD t;have HL:Hid (Lns t L):=hL;have b6:Hid (L.length<=4000000):=mI hL.len a8;have HT:Hid (LTabs w):=ht;clear hL ht;refine(callsIn_wide (n:=5)).1 ?_;refine callsIn_of_wp_marks func6 rfl trivial ?_ rfl;simp only[ntmps6,oo,mR,oT,Nat.reduceAdd,Nat.reduceSub,qf,qg,qz,ql,nF,nW];have e7:¬ (4000000:Int)<(t.length:Int):=by omega
 have x0:=TK w (.cells #[.slice none 0 0] 23) (.cells #[.int .i64 0] 3) (.cells #[.int .i64 0] 25) (.cells #[.slice none 0 0] 23) (.cells #[.string (strOfNums t)] 9);have x1:=TL w (.cells #[.slice none 0 0] 23) (.cells #[.int .i64 0] 3) (.cells #[.int .i64 0] 25) (.cells #[.slice none 0 0] 23) (.cells #[.string (strOfNums t)] 9);have x2:=TP w (.cells #[.slice none 0 0] 23) (.cells #[.int .i64 0] 3) (.cells #[.int .i64 0] 25) (.cells #[.slice none 0 0] 23) (.cells #[.string (strOfNums t)] 9);have x3:=TS w (.cells #[.slice none 0 0] 23) (.cells #[.int .i64 0] 3) (.cells #[.int .i64 0] 25) (.cells #[.slice none 0 0] 23) (.cells #[.string (strOfNums t)] 9);have x4:=TT w (.cells #[.slice none 0 0] 23) (.cells #[.int .i64 0] 3) (.cells #[.int .i64 0] 25) (.cells #[.slice none 0 0] 23) (.cells #[.string (strOfNums t)] 9);have d5:=WW w (.cells #[.slice none 0 0] 23) (.cells #[.int .i64 0] 3) (.cells #[.int .i64 0] 25) (.cells #[.slice none 0 0] 23) (.cells #[.string (strOfNums t)] 9);have HX:Hid _:=x0;have b9:Hid _:=x1;have c4:Hid _:=x2;have c5:Hid _:=x3;have c6:Hid _:=x4;have b5:Hid _:=d5;clear x0 x1 x2 x3 x4 d5
 gi_wp2_with (refine⟨trivial,?_⟩;gi_at_call 13;refine(YW _ _ _).mono ?_;rintro e w' ⟨rfl,g0⟩;subst w')
 have y0:=HX.out;have y1:=b9.out;have y2:=c4.out;have y3:=c5.out;have y4:=c6.out;have d5:=b5.out;clear HX b9 c4 c5 c6 b5;generalize ((((w.alloc (.cells #[.slice none 0 0] 23)).alloc (.cells #[.int .i64 0] 3)).alloc (.cells #[.int .i64 0] 25)).alloc (.cells #[.slice none 0 0] 23)).alloc (.cells #[.string (strOfNums t)] 9)=W5 at y0 y1 y2 y3 y4 d5 ⊢;obtain⟨h,b2⟩:∃ g,w.heap.size+1=g:=⟨_,rfl⟩;obtain⟨m,d0⟩:∃ g,h+1=g:=⟨_,rfl⟩;obtain⟨B,d2⟩:∃ g,m+1=g:=⟨_,rfl⟩;obtain⟨R4,d3⟩:∃ g,B+1=g:=⟨_,rfl⟩;rw[b2,d0,d2,d3];rw[show w.heap.size+1=h from b2]at y1
 rw[show w.heap.size+2=m by omega]at y2
 rw[show w.heap.size+3=B by omega]at y3
 rw[show w.heap.size+4=R4 by omega]at y4
 have b8:Hid (h=w.heap.size+1/\m=w.heap.size+2/\B=w.heap.size+3/\R4=w.heap.size+4):=⟨by omega,by omega,by omega,by omega⟩;clear b2 d0 d2 d3 e7;have l4:R4<W5.heap.size:=(D'.1 y4).1;refine wpIn_rangeFunc_ownG rfl (by omega) (gf:=25) (lb:=#[.pointer (some ⟨R4,0,none⟩)]) rfl trivial (enters_of func25 (by kernel_rfl) rfl)
  (Qm 4 (by omega) R4 w.heap.size t hb a8 L HL.out W5 l4 (cell_of_row _ _ 0 _ _ _ y4)) belowK_t (belowK_b (by have:=d5.size;omega)) (Below.refl _ _) (λ_=>rfl)
  (RdI w w.heap.size h m B) (RdX w w.heap.size h m) (RdI.own w _ _ _ _ _ d5.size) (RdX.own w _ _ _ _ d5.size)
  ⟨⟨[],λ_=>.bool false,.slice none 0 0,Hx.nil,y3,World.ownsRow_nil _ _ _ _,λi hi=>by simp at hi⟩,y0,y1,y2,d5⟩
  (λx=>{ tmps:=#[.string (strOfNums t),undef,.pointer (some ⟨w.heap.size,0,none⟩),.pointer (some ⟨h,0,none⟩),.pointer (some ⟨m,0,none⟩),.pointer (some ⟨B,0,none⟩),.int .i64 (x.1.1:Int),.string (strOfNums x.1.2),undef,undef,.string (strOfNums t),.int .i64 (t.length:Int),.bool false,.string (strOfNums t),.func (.func 25) #[] #[.pointer (some ⟨R4,0,none⟩)],.int .i64 (x.1.1:Int),.string (strOfNums x.1.2),undef,undef,undef,undef,undef,undef,undef,undef,undef,undef,undef,undef,undef,undef,undef,undef],defers:=[] }) ?assign ?body ?done ?stop
 case assign =>
  intro l x W K hK
  gi_wp2
  exact hK
 case body =>
  rintro l a5 x W ⟨⟨z,Y,v,C,hv,oe,su⟩,T,r1,r2,dB⟩ f7;have b0:Hid (Hx a5 z):=C;have e6:z.length<4000000:=by rw[C.len];have:=b6.out;omega
  obtain⟨gv,cv,rfl⟩:=Bf oe;have c0:W.cell? ⟨w.heap.size,0,none⟩=some (.slice none 0 0):=cell_of_row _ _ 0 _ _ _ T;have c1:W.cell? ⟨h,0,none⟩=some (.int .i64 0):=cell_of_row _ _ 0 _ _ _ r1;have c2:W.cell? ⟨m,0,none⟩=some (.int .i64 0):=cell_of_row _ _ 0 _ _ _ r2;have f0:=frozen_of_row _ _ 0 _ _ T;have f1:=frozen_of_row _ _ 0 _ _ r1;have f2:=frozen_of_row _ _ 0 _ _ r2;clear y0 y1 y2 y3 y4 C;obtain⟨e1,e2,e3,e4⟩:=b8.out;have n1:h≠w.heap.size:=by omega
  have n2:m≠w.heap.size:=by omega
  have n3:m≠h:=by omega
  have n4:w.heap.size≠h:=by omega
  have n5:w.heap.size≠m:=by omega
  have n6:h≠m:=by omega
  have g1:w.heap.size<=h:=by omega
  have g2:w.heap.size<=m:=by omega
  have g3:w.heap.size<=B:=by omega
  have n7:w.heap.size≠B:=by omega
  have n8:h≠B:=by omega
  have n9:m≠B:=by omega
  clear e1 e2 e3 e4;by_cases hp:100000<=x.1.1
  .have hpI:(100000:Int)<=(x.1.1:Int):=by omega
   have q1:∀ v,(W.setCell ⟨w.heap.size,0,none⟩ v).heap[h]?=_:=λv=>(heap_setCell_other W ⟨w.heap.size,0,none⟩ h v n1).trans r1;have q2:∀ v u,((W.setCell ⟨w.heap.size,0,none⟩ v).setCell ⟨h,0,none⟩ u).heap[m]?=_:=λv u=>(heap_setCell_other _ ⟨h,0,none⟩ m u n3).trans ((heap_setCell_other W ⟨w.heap.size,0,none⟩ m v n2).trans r2);have k1:∀ v,(W.setCell ⟨w.heap.size,0,none⟩ v).cell? ⟨h,0,none⟩=some (.int .i64 0):=λv=>cell_of_row _ _ 0 _ _ _ (q1 v);have k2:∀ v u,((W.setCell ⟨w.heap.size,0,none⟩ v).setCell ⟨h,0,none⟩ u).cell? ⟨m,0,none⟩=some (.int .i64 0):=λv u=>cell_of_row _ _ 0 _ _ _ (q2 v u);have O:(((W.setCell ⟨w.heap.size,0,none⟩ (.slice none 0 0)).setCell ⟨h,0,none⟩ (.int .i64 (x.1.1:Int))).setCell ⟨m,0,none⟩ (.int .i64 8)).heap[h]?=some (.cells #[.int .i64 (x.1.1:Int)] 3):=(heap_setCell_other _ _ _ _ n6).trans ((heap_setCell_same _ _ 0 _ _ _ (q1 _)).trans rfl);have P:(((W.setCell ⟨w.heap.size,0,none⟩ (.slice none 0 0)).setCell ⟨h,0,none⟩ (.int .i64 (x.1.1:Int))).setCell ⟨m,0,none⟩ (.int .i64 8)).heap[m]?=some (.cells #[.int .i64 8] 25):=(heap_setCell_same _ _ 0 _ _ _ (q2 _ _)).trans rfl;have N:(((W.setCell ⟨w.heap.size,0,none⟩ (.slice none 0 0)).setCell ⟨h,0,none⟩ (.int .i64 (x.1.1:Int))).setCell ⟨m,0,none⟩ (.int .i64 8)).heap[w.heap.size]?=some (.cells #[.slice none 0 0] 23):=(heap_setCell_other _ _ _ _ n5).trans ((heap_setCell_other _ _ _ _ n4).trans ((heap_setCell_same _ _ 0 _ _ _ T).trans rfl));have U:KeepsOthers W (((W.setCell ⟨w.heap.size,0,none⟩ (.slice none 0 0)).setCell ⟨h,0,none⟩ (.int .i64 (x.1.1:Int))).setCell ⟨m,0,none⟩ (.int .i64 8)):=((KeepsOthers.setCell _ _ _).trans (KeepsOthers.setCell _ _ _)).trans (KeepsOthers.setCell _ _ _);have Q:Bw w (((W.setCell ⟨w.heap.size,0,none⟩ (.slice none 0 0)).setCell ⟨h,0,none⟩ (.int .i64 (x.1.1:Int))).setCell ⟨m,0,none⟩ (.int .i64 8)):=((dB.setCell (p:=⟨w.heap.size,0,none⟩) (A' _) _).setCell (p:=⟨h,0,none⟩) g1 _).setCell (p:=⟨m,0,none⟩) g2 _;clear oe su hv q1 q2 T r1 r2;have HZ:Hid _:=ol O (ol P (ol N (ol U Q)));clear O P N U Q
   gi_wp2
   obtain⟨O,P,N,U,Q⟩:=HZ.out;exact⟨U.from _,rfl,⟨a5,x,z,8,rfl,b0.out,O,P,.inl ⟨rfl,hp⟩⟩,N,Q⟩
  .have hpI:¬ (100000:Int)<=(x.1.1:Int):=by omega
   have d6:=HT.out.ab dB
   gi_wp2
   refine⟨trivial,?_⟩;refine(CallsIn.inRound l (callsIn_wide.2 (Vk x.1.2 x.2.1 x.2.2.1 W d6))).mono ?_;rintro e G ⟨b1,d4⟩;have e5:=dB.size;have d1:=dB.trans (b1.mono dB.size);have k1:=JG b1;have F:=(b1.block _ (D'.1 T).1).trans T;have J:=(b1.block _ (D'.1 r1).1).trans r1;have M:=(b1.block _ (D'.1 r2).1).trans r2;have a9:=(b1.block _ (D'.1 hv).1).trans hv;have X:=Ar oe (λk I=>b1.block k (oe.lt k I).2);have a6:=su.ab b1;have kb:Below w.heap.size W G:=b1.mono e5;clear T r1 r2 hv oe su b1 c0 c1 c2 f0 f1 f2 d6;rcases d4 with⟨bl,a,y,hbl,ha,rfl,oy⟩|⟨hno,rfl⟩
   .obtain⟨xk,xn,xa,xp,xd⟩:=a;simp only at oy ⊢;obtain⟨gy,cy,rfl⟩:=Bf oy;have b3:=(KP.1 ha).1;have b7:Hid (Hx (a5++[x]) (z++[(⟨xk,xn,xa,xp,xd⟩:Lac)])):=b0.out.snoc hbl ha (by omega);have c7:Hid (xd.length<=140737488351232/\∀ c∈xd,0<=c/\c<256):=⟨by have:=b3.1.d;simp only at this;omega,b3.2⟩;have a4:=CB oy (ng _);have H:=J3 G (.cells #[.int .i64 xk,.int .i64 xn,.int .i64 xa,.int .i64 xp,.slice gy xd.length cy] 43) (.cells #[.int .i64 xk,.int .i64 xn,.int .i64 xa,.int .i64 xp,.slice gy xd.length cy] 43);have rg:=Hu G (.cells #[.int .i64 xk,.int .i64 xn,.int .i64 xa,.int .i64 xp,.slice gy xd.length cy] 43) (.cells #[.int .i64 xk,.int .i64 xn,.int .i64 xa,.int .i64 xp,.slice gy xd.length cy] 43);have S:=Ar X (λk I=>H.block k (X.lt k I).2);have f4:=d1.size;have c3:G.cell? ⟨B,0,none⟩=some (.slice gv z.length cv):=cell_of_row _ _ 0 _ _ _ a9;have l3:B<G.heap.size:=(D'.1 a9).1;have d7:=(H.block B l3).trans a9;have HA:Hid _:=ol F (ol J (ol M (ol k1 (ol kb (ol a6 (ol a4 X))))));clear b3 ha hbl oy a4 X a6 k1 kb F J M
    gi_wp2_with (gi_at_builtin;refine wpListIn_append_own _ rfl _ _ 23 rfl w.heap.size 43 i0 zLa 5 56 underlying23 hi e8 e9 f3 rfl (by decide) _ z.length _ rfl S ⟨G.heap.size+1,0,none⟩ 1 1 [.int .i64 xk,.int .i64 xn,.int .i64 xa,.int .i64 xp,.slice gy xd.length cy] rfl rfl (ZL (Ht (cs:=[.int .i64 xk,.int .i64 xn,.int .i64 xa,.int .i64 xp,.slice gy xd.length cy]) rg)) (by simp[Value.oneCell']) (by unfold maxLen;omega) (by omega) (by simp;omega) ?_;intro v9 W9 o9 g9 _;obtain⟨q9,p9,rfl⟩:=ownsRow_succ o9;have a0:=(g9.block B (X' l3 H.size) (λe=>BQ S d7 (by decide) _ e.symm rfl)).trans d7;have c9:W9.cell? ⟨B,0,none⟩=some (.slice gv z.length cv):=cell_of_row _ _ 0 _ _ _ a0;have f9:=frozen_of_row _ _ 0 _ _ a0)
    obtain⟨F,J,M,k1,kb,a6,a4,X⟩:=HA.out;have b4:∀ {k:Nat} {cs:Array Value} {ty:TypeId} {fr:Nat × Nat},(G.heap[k]?=some (.cells cs ty fr))->ty≠43->W9.heap[k]?=some (.cells cs ty fr):=λ{k cs ty fr} V h2=>by
     have h3:=(H.block k (D'.1 V).1).trans V;exact(g9.block k (D'.1 h3).1 (λe=>BQ S h3 h2 _ e.symm rfl)).trans h3
    have f6:=(a6.ab H).grown S (by decide) g9;have d8:=Ar a4 (λk I=>H.block k (a4.lt k I).2);have f5:=Ki d8 g9 (Oi d8 S (by decide));have k9:KeepsOthers W (W9.setCell ⟨B,0,none⟩ (.slice (some ⟨q9,0,none⟩) (z.length+1) p9)):=by
     refine((k1.trans (JG H)).trans (KeepsOthers.of_grownBy g9 (λj o ej hj=>?_))).trans (KeepsOthers.setCell _ _ _);rcases S.2 with⟨V,_⟩|⟨q,cap,cur,V,_,h2,_⟩
     .simp[Act.eval,V,Value.ownBlock]at ej
     .simp[Act.eval,V,Value.ownBlock]at ej
      subst ej;rw[h2]at hj
      cases hj;rfl
    have d9:Below w.heap.size W W9:=(kb.trans ((H.mono f4))).grown g9 (by simp;omega) (λk I=>(S.lt k I).1);have z3:(W9.setCell ⟨B,0,none⟩ (.slice (some ⟨q9,0,none⟩) (z.length+1) p9)).heap[B]?=some (.cells #[.slice (some ⟨q9,0,none⟩) (z.length+1) p9] 23):=(heap_setCell_same _ _ 0 _ _ _ a0).trans rfl;have zo:=Ar o9 (λk I=>Below.heap_setCell W9 ⟨B,0,none⟩ (.slice (some ⟨q9,0,none⟩) (z.length+1) p9) k (BQ o9 a0 (by decide) k I));have zu:Km (W9.setCell ⟨B,0,none⟩ (.slice (some ⟨q9,0,none⟩) (z.length+1) p9)) (laF (z++[(⟨xk,xn,xa,xp,xd⟩:Lac)])) (laY Y z.length (.slice gy xd.length cy)) (z.length+1):=by
     have V:=f6.snoc (x:=⟨xk,xn,xa,xp,xd⟩) ⟨f5,c7.out.1,c7.out.2⟩;exact λi hi=>⟨Mn (V i hi).1 a0 (by decide) 0 _,(V i hi).2⟩
    have zb:=d9.setCell (p:=⟨B,0,none⟩) g3 (.slice (some ⟨q9,0,none⟩) (z.length+1) p9);refine⟨k9.from _,zb,⟨z++[(⟨xk,xn,xa,xp,xd⟩:Lac)],laY Y z.length (.slice gy xd.length cy),_,b7.out,z3,?_,?_⟩,(heap_setCell_other _ _ _ _ n7).trans (b4 F (by decide)),(heap_setCell_other _ _ _ _ n8).trans (b4 J (by decide)),(heap_setCell_other _ _ _ _ n9).trans (b4 M (by decide)),dB.trans zb⟩
    .rw[I',pf,Xr];exact zo
    .rw[I',pf];exact zu
   .have hne:∀ b a,x.1.2=b++[10]->rdL b≠some a:=hno;have e0:Hid (∀ b a,x.1.2=b++[10]->rdL b≠some a):=hne;have q1:∀ v,(G.setCell ⟨w.heap.size,0,none⟩ v).heap[h]?=_:=λv=>(heap_setCell_other G ⟨w.heap.size,0,none⟩ h v n1).trans J;have q2:∀ v u,((G.setCell ⟨w.heap.size,0,none⟩ v).setCell ⟨h,0,none⟩ u).heap[m]?=_:=λv u=>(heap_setCell_other _ ⟨h,0,none⟩ m u n3).trans ((heap_setCell_other G ⟨w.heap.size,0,none⟩ m v n2).trans M);have c0:G.cell? ⟨w.heap.size,0,none⟩=some (.slice none 0 0):=cell_of_row _ _ 0 _ _ _ F;have f0:=frozen_of_row _ _ 0 _ _ F;have f1:=frozen_of_row _ _ 0 _ _ J;have f2:=frozen_of_row _ _ 0 _ _ M;have k2:∀ v,(G.setCell ⟨w.heap.size,0,none⟩ v).cell? ⟨h,0,none⟩=some (.int .i64 0):=λv=>cell_of_row _ _ 0 _ _ _ (q1 v);have k3:∀ v u,((G.setCell ⟨w.heap.size,0,none⟩ v).setCell ⟨h,0,none⟩ u).cell? ⟨m,0,none⟩=some (.int .i64 0):=λv u=>cell_of_row _ _ 0 _ _ _ (q2 v u);have l0:w.heap.size<G.heap.size:=(D'.1 F).1;have l1:h<G.heap.size:=(D'.1 J).1;have l2:m<G.heap.size:=(D'.1 M).1;obtain⟨A,s⟩:∃ Z,((G.setCell ⟨w.heap.size,0,none⟩ (.slice none 0 0)).setCell ⟨h,0,none⟩ (.int .i64 (x.1.1:Int))).setCell ⟨m,0,none⟩ (.int .i64 3)=Z:=⟨_,rfl⟩;have O:A.heap[h]?=some (.cells #[.int .i64 (x.1.1:Int)] 3):=by rw[<- s];exact(heap_setCell_other _ _ _ _ n6).trans ((heap_setCell_same _ _ 0 _ _ _ (q1 _)).trans rfl)
    have P:A.heap[m]?=some (.cells #[.int .i64 3] 25):=by rw[<- s];exact(heap_setCell_same _ _ 0 _ _ _ (q2 _ _)).trans rfl
    have N:A.heap[w.heap.size]?=some (.cells #[.slice none 0 0] 23):=by rw[<- s];exact(heap_setCell_other _ _ _ _ n5).trans ((heap_setCell_other _ _ _ _ n4).trans ((heap_setCell_same _ _ 0 _ _ _ F).trans rfl))
    have U:KeepsOthers W A:=by rw[<- s];exact k1.trans (((KeepsOthers.setCell _ _ _).trans (KeepsOthers.setCell _ _ _)).trans (KeepsOthers.setCell _ _ _))
    have Q:Bw w A:=by rw[<- s];exact((d1.setCell (p:=⟨w.heap.size,0,none⟩) (A' _) _).setCell (p:=⟨h,0,none⟩) g1 _).setCell (p:=⟨m,0,none⟩) g2 _
    have HZ:Hid _:=ol s (ol O (ol P (ol N (ol U Q))));clear X a6 a9 q1 q2 F J M hno hne O P N U Q s k1 kb;unfold zLa
    gi_wp2
    obtain⟨s,O,P,N,U,Q⟩:=HZ.out;rw[s];have al:∀ o,Bw A (A.alloc o):=λo=>(Below.refl _ _).alloc (A' _) o;exact⟨(U.trans (KeepsOthers.alloc _ _)).from _,rfl,⟨a5,x,z,3,rfl,b0.out,((al _).block _ (D'.1 O).1).trans O,((al _).block _ (D'.1 P).1).trans P,.inr ⟨rfl,by omega,e0.out⟩⟩,((al _).block _ (D'.1 N).1).trans N,Q.trans ((al _).mono Q.size)⟩
 case done =>
  rintro D ys W hD he ⟨⟨z,Y,v,C,hv,oe,su⟩,T,r1,r2,dB⟩ hK;have HR:Hid (RdA t z [] 0 0):=et HL.out he C a8;have e6:z.length<=4000000:=by rw[C.len,he.len];exact b6.out
  obtain⟨gv,cv,rfl⟩:=Bf oe;obtain⟨e1,e2,e3,e4⟩:=b8.out;have n1:h≠w.heap.size:=by omega
  have n2:m≠w.heap.size:=by omega
  have n3:m≠h:=by omega
  have n4:w.heap.size≠h:=by omega
  have n5:w.heap.size≠m:=by omega
  have n6:h≠m:=by omega
  have g1:w.heap.size<=h:=by omega
  have g2:w.heap.size<=m:=by omega
  clear e1 e2 e3 e4 y0 y1 y2 y3 y4 C he;have c3:W.cell? ⟨B,0,none⟩=some (.slice gv z.length cv):=cell_of_row _ _ 0 _ _ _ hv;have c0:W.cell? ⟨w.heap.size,0,none⟩=some (.slice none 0 0):=cell_of_row _ _ 0 _ _ _ T;have f0:=frozen_of_row _ _ 0 _ _ T;have f1:=frozen_of_row _ _ 0 _ _ r1;have f2:=frozen_of_row _ _ 0 _ _ r2;have q1:∀ v,(W.setCell ⟨w.heap.size,0,none⟩ v).heap[h]?=_:=λv=>(heap_setCell_other W ⟨w.heap.size,0,none⟩ h v n1).trans r1;have q2:∀ v u,((W.setCell ⟨w.heap.size,0,none⟩ v).setCell ⟨h,0,none⟩ u).heap[m]?=_:=λv u=>(heap_setCell_other _ ⟨h,0,none⟩ m u n3).trans ((heap_setCell_other W ⟨w.heap.size,0,none⟩ m v n2).trans r2);have k1:∀ v,(W.setCell ⟨w.heap.size,0,none⟩ v).cell? ⟨h,0,none⟩=some (.int .i64 0):=λv=>cell_of_row _ _ 0 _ _ _ (q1 v);have k2:∀ v u,((W.setCell ⟨w.heap.size,0,none⟩ v).setCell ⟨h,0,none⟩ u).cell? ⟨m,0,none⟩=some (.int .i64 0):=λv u=>cell_of_row _ _ 0 _ _ _ (q2 v u);obtain⟨A,s⟩:∃ Z,((W.setCell ⟨w.heap.size,0,none⟩ (.slice gv z.length cv)).setCell ⟨h,0,none⟩ (.int .i64 0)).setCell ⟨m,0,none⟩ (.int .i64 0)=Z:=⟨_,rfl⟩;have O:A.heap[h]?=some (.cells #[.int .i64 0] 3):=by rw[<- s];exact(heap_setCell_other _ _ _ _ n6).trans ((heap_setCell_same _ _ 0 _ _ _ (q1 _)).trans rfl)
  have P:A.heap[m]?=some (.cells #[.int .i64 0] 25):=by rw[<- s];exact(heap_setCell_same _ _ 0 _ _ _ (q2 _ _)).trans rfl
  have N:A.heap[w.heap.size]?=some (.cells #[.slice gv z.length cv] 23):=by rw[<- s];exact(heap_setCell_other _ _ _ _ n5).trans ((heap_setCell_other _ _ _ _ n4).trans ((heap_setCell_same _ _ 0 _ _ _ T).trans rfl))
  have U:KeepsOthers W A:=by rw[<- s];exact((KeepsOthers.setCell _ _ _).trans (KeepsOthers.setCell _ _ _)).trans (KeepsOthers.setCell _ _ _)
  have Q:Bw w A:=by rw[<- s];exact((dB.setCell (p:=⟨w.heap.size,0,none⟩) (A' _) _).setCell (p:=⟨h,0,none⟩) g1 _).setCell (p:=⟨m,0,none⟩) g2 _
  have zs:Sk A (.slice gv z.length cv) (laF z) z.length:=by
   have ho:∀ k,k≠w.heap.size->k≠h->k≠m->A.heap[k]?=W.heap[k]?:=λk a1 a2 a3=>by
    rw[<- s,heap_setCell_other _ _ _ _ a3,heap_setCell_other _ _ _ _ a2,heap_setCell_other _ _ _ _ a1]
   refine Sk.sX (Ar oe (λk I=>ho k (BQ oe T (by decide) k I) (BQ oe r1 (by decide) k I) (BQ oe r2 (by decide) k I))) (λi hi=>⟨Ar (su i hi).1 (λk I=>ho k (BQ (su i hi).1 T (by decide) k I) (BQ (su i hi).1 r1 (by decide) k I) (BQ (su i hi).1 r2 (by decide) k I)),(su i hi).2⟩) (by omega)
  have HZ:Hid _:=ol s (ol O (ol P (ol N (ol U (ol Q zs)))));clear oe su q1 q2 T r1 r2 O P N U Q s zs hv
  gi_wp2
  obtain⟨s,O,P,N,U,Q,zs⟩:=HZ.out;rw[s];have a7:=U.same D _ hK rfl;refine⟨by simp,.inl ⟨_,_,rfl,run_takeDeferred a7,?_⟩⟩;have R:∀ {k:Nat} {cs:Array Value} {ty:TypeId} {fr:Nat × Nat},A.heap[k]?=some (.cells cs ty fr)->(A.putObj D (.deferred none)).heap[k]?=some (.cells cs ty fr):=λ{k cs ty fr} V=>Ev (grownBy_putObj' A D (.deferred none)) (λr e=>by cases e;exact⟨_,a7,rfl⟩) V;have v0:(A.putObj D (.deferred none)).cell? ⟨w.heap.size,0,none⟩=some (.slice gv z.length cv):=cell_of_row _ _ 0 _ _ _ (R N);have v1:(A.putObj D (.deferred none)).cell? ⟨h,0,none⟩=some (.int .i64 0):=cell_of_row _ _ 0 _ _ _ (R O);have v2:(A.putObj D (.deferred none)).cell? ⟨m,0,none⟩=some (.int .i64 0):=cell_of_row _ _ 0 _ _ _ (R P);have dz:Bw w (A.putObj D (.deferred none)):=Q.trans (belowK_b (w:=w) (A' _) A D _ _ (by have:=d5.size;omega) a7 rfl rfl);have sz:Sk (A.putObj D (.deferred none)) (.slice gv z.length cv) (laF z) z.length:=skC (grownBy_putObj' A D (.deferred none)) (λr e=>by cases e;exact⟨_,a7,rfl⟩) zs;refine⟨.tuple #[.slice gv z.length cv,.int .i64 0,.int .i64 0],?_,.sV HR.out sz,dz⟩;simp[results,f6,go_sem,v0,v1,v2]
 case stop =>
  rintro D c a5 W hD ⟨L1,L2,c8,he⟩ ⟨rfl,⟨g4,x,z,E,rfl,C,O,P,hE⟩,N,Q⟩ hK;obtain⟨r,hr⟩:=eu HL.out c8 he C hE a8;have HR:Hid (RdA t z r (x.1.1:Int) E/\E≠0):=⟨hr,by rcases hE with⟨rfl,_⟩|⟨rfl,_⟩<;>decide⟩;clear hr he c8 C hE y0 y1 y2 y3 y4
  gi_wp2
  refine⟨by simp,.inl ⟨_,_,rfl,run_takeDeferred hK,?_⟩⟩;have R:∀ {k:Nat} {cs:Array Value} {ty:TypeId} {fr:Nat × Nat},W.heap[k]?=some (.cells cs ty fr)->(W.putObj D (.deferred none)).heap[k]?=some (.cells cs ty fr):=λ{k cs ty fr} V=>Ev (grownBy_putObj' W D (.deferred none)) (λr e=>by cases e;exact⟨_,hK,rfl⟩) V;have v0:(W.putObj D (.deferred none)).cell? ⟨w.heap.size,0,none⟩=some (.slice none 0 0):=cell_of_row _ _ 0 _ _ _ (R N);have v1:(W.putObj D (.deferred none)).cell? ⟨h,0,none⟩=some (.int .i64 (x.1.1:Int)):=cell_of_row _ _ 0 _ _ _ (R O);have v2:(W.putObj D (.deferred none)).cell? ⟨m,0,none⟩=some (.int .i64 E):=cell_of_row _ _ 0 _ _ _ (R P);have dz:Bw w (W.putObj D (.deferred none)):=Q.trans (belowK_b (w:=w) (A' _) W D _ _ (by have:=d5.size;omega) hK rfl rfl);refine⟨.tuple #[.slice none 0 0,.int .i64 (x.1.1:Int),.int .i64 E],?_,.bad HR.out.1 HR.out.2,dz⟩;simp[results,f6,go_sem,v0,v1,v2]
theorem Wc(t:List Int)(a:∀ x∈t,0<=x/\x<256)(b:t.length<=140737488351232)(w:World)(c:LTabs w) :
  Calls prog 6 #[.string (strOfNums t)] w λe w'=>KZ t e w'/\Bw w w':=by
 by_cases h:4000000<t.length
 .exact W7 t h b w
 .exact Tu t a (by omega) w c
end
section
open Go.RowKit
theorem ZM{l:List Lac}(c:∀ x∈l,KW x)(a:l.length<=100000)(b:(AP l).length<=4000000):RdA (AP l) l [] 0 0 :=
 .inr ⟨b,⟨by simp,c,a,λh=>absurd rfl h⟩,.inl ⟨rfl,rfl,rfl⟩⟩
end
section
open Go.ChangeShapes Go.WideShapes Go.ChangeAt Go.RowKit
theorem Yt:(prog.globals[4]?).map (·.type)=some 252:=by kernel_rfl
theorem dC:prog.cellsOf 207=1:=by kernel_rfl
theorem dA:prog.cellsOf 252=20:=by kernel_rfl
theorem kr:(Rows.laid_internal_strconv_uint64pow10:DataW Unit)=Lib.tabData .u64 Lib.pow10Tab:=by kernel_rfl
theorem jx{W:World}(h:laidMetH prog Rows.topScriptsRow.laid W)(T:W.ShapedOpen prog):(Tabs W/\LWTab W/\LBTab W)/\LMTab W/\LPTab W:=by
 have K:laidMet prog Rows.topScriptsRow.laid W:=h;obtain⟨ps,⟨Y,t0,D,f,p0,q0,P,U,z,M,⟨Z,t1,E,g,p1,q1,Q,V,A,N,⟨g2,t2,F,i,p2,q2,q,v,a,e,⟨g3,t3,G,j,p3,q3,R,X,B,O,⟨g4,t4,H,k,p4,q4,r,w,b,n,⟨g5,t5,I,l,p5,q5,s,x,c,o,⟨g6,t6,J,m,p6,q6,u,y,d,p,L,_⟩,_⟩,_⟩,_⟩,_⟩,_⟩,_⟩,_⟩:=K;have C:=eX L;obtain rfl:=nL (Yu.symm.trans r);obtain rfl:=nL (Sn.symm.trans w);obtain rfl:=nL (kg.symm.trans s);obtain rfl:=nL (Yv.symm.trans x);obtain rfl:=nL (fS.symm.trans u);obtain rfl:=nL (VG.symm.trans y);refine⟨⟨⟨ZU c o,dL d p,ZH b n⟩,C.1,C.2⟩,ky T,?_⟩;obtain rfl:=nL (it.symm.trans q);obtain rfl:=nL (Yt.symm.trans v);obtain⟨t,fr,S⟩:=IM it a;refine⟨(D'.1 S).1,?_⟩;rw[kr]at e
 unfold Hid Lib.TabIs;rw[a,<- Lib.cells_of_tab underlying252 underlying207 dC dA e]
def FG:DataW Unit->Array Value
 | .agg l=>(l.map fun|.lit (.int k z)=>Value.int k z|_=>.bool false).toArray
 | _=>#[]
def IS(os:Os)(W:World):Prop :=
 W={ World.holding prog os ⟨#[],#[],[]⟩with heap:=((((((((((World.holding prog os ⟨#[],#[],[]⟩).heap.modify 7 (Hf (FG Rows.laid_math_bits_deBruijn32tab))).modify 8 (Hf (FG Rows.laid_math_bits_deBruijn64tab))).modify 4 (Hf (FG Rows.laid_internal_strconv_uint64pow10))).modify 6 (Hf PA)).modify 10 (YP Wx)).modify 9 (YP (S8.map (Value.int .u32)).toArray)).modify 3 (YP (NT.map (Value.int .i64)).toArray)).modify 1 (Hf P9)).modify 0 (Hf RF)).modify 5 (Hf RE) }
theorem cS(a:Os):∃ W,IS a W:=⟨_,rfl⟩
end
end Go.Proofs.YtdjfdfpkkenjbabGreatDoor
