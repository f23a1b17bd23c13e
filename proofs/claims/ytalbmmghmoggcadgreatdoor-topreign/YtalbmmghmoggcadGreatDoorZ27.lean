/- Part 27 of the walk. -/
import Derived.Test.YtalbmmghmoggcadGreatDoorZ20
set_option maxRecDepth 100000
set_option maxHeartbeats 4000000
open Go.Proofs.Tryz
set_option linter.unusedVariables false
namespace Go.Proofs.YtalbmmghmoggcadGreatDoor
open Go.RowKit
section
def OX(Q:Nat->Bool):Nat->Nat
 | 0=>0
 | k+1=>OX Q k+(Q k).toNat
theorem fM(Q:Nat->Bool):OX Q 5=K7 Q:=by simp only[OX,K7];omega
theorem Zp(Q:Nat->Bool)(k:Nat):OX Q k<=k:=by
 induction k with
 | zero=>exact A' _
 | succ k ih=>simp only[OX];cases Q k<;>simp<;>omega
variable{g:Gh}{i nb ob:Nat}{ls:List Let}{p:Nod}{ts:List Tol}{w w0:World}{x:Value}
theorem gp{P:Program}{W:World}{x y:Operand}{t:TypeId}(a b:Int)(hk:P.underlying t=some (.int .i64))(h:-9223372036854775808<=a*b/\a*b<=9223372036854775807):(do Go.eqGuard .mul t x y (iv a) (iv b);Go.binOp .mul t (iv a) (iv b):Sem Value).run P W=.ok (iv (a*b)) W:=by
 have hw:IntKind.i64.wrap (a*b)=a*b:=by rw[IntKind.wrap_i64];omega
 simp[Go.eqGuard,Go.binOp,go_sem,hw]
theorem Rb(h:NS i nb ob g w p ls ts) :
  Calls prog 131 #[pt nb 11] w λe w'=>e=.returned (.bool p.rnd.enough)/\Bw w w':=by
 obtain⟨x,lt,tl,hN,hO,hg⟩:=h;refine gI (fn:=f131) (TN i) g func131 hg ?_;refine qN hN ?_;refine qO hO ?_;refine qR [] 18 [0] λs1 g1 w1 c1=>?_;refine BI 20 [(3,iv 0),(9,.agg #[.bool (p.rnd.pro 0),.bool (p.rnd.pro 1),.bool (p.rnd.pro 2),.bool (p.rnd.pro 3),.bool (p.rnd.pro 4)]),(10,iv 0)] [false,false] [] (λk g' w' e L=>∃ (k0 c:Nat),c=OX p.rnd.pro k0/\k=5-k0/\k0<=5/\e=[(3,iv (c:Int)),(9,.agg #[.bool (p.rnd.pro 0),.bool (p.rnd.pro 1),.bool (p.rnd.pro 2),.bool (p.rnd.pro 3),.bool (p.rnd.pro 4)]),(10,iv (k0:Int))]/\L=[]/\Cg w.heap.size [] g w g' w') (by kernel_rfl) (by kernel_rfl) (by kernel_rfl) (by kernel_rfl) 5 (λK=>?_) ?_
 .exact⟨0,0,rfl,rfl,by omega,rfl,rfl,c1⟩
 .rintro k gr wr _ zr _ ⟨k0,c,hc,rfl,hk0,rfl,rfl,hC⟩ J hJ;have hcl:=Zp p.rnd.pro k0;refine qR [] 5 [] λs2 g2 w2 c2=>?_;by_cases h1:k0<5
  .refine qI ((decide ((k0:Int)<5))) true (I' (by omega)) ?_;refine qR [] 5 [] λs3 g3 w3 c3=>?_;refine ZL 0 (.bool (p.rnd.pro k0)) (λK=>(by rcases five h1 with rfl|rfl|rfl|rfl|rfl<;>kernel_rfl)) (by kernel_rfl) ?_;refine qR [] 6 [] λs4 g4 w4 c4=>?_;by_cases h2:p.rnd.pro k0=true
   .refine qI ((p.rnd.pro k0)) true h2 ?_;refine qR [] 2 [] λs5 g5 w5 c5=>?_;refine qV 1 (iv ((c:Int)+1)) (AD (x:=(.tmp 14)) (y:=(.const (iv 1))) (c:Int) 1 underlying3 (by omega)) ?_;refine qR [] 4 [] λs6 g6 w6 c6=>?_;refine qV 0 (iv ((k0:Int)+1)) (AD (x:=(.tmp 10)) (y:=(.const (iv 1))) (k0:Int) 1 underlying3 (by omega)) ?_;refine qR [] 2 [] λs7 g7 w7 c7=>?_;exact qB [] λz K0 K=>hJ (5-(k0+1)) _ _ _ z _ (by omega) ⟨k0+1,(c+1),by simp only[OX];rw[h2,hc];rfl,rfl,by omega,rfl,rfl,hC.trans (((((c2.trans c3).trans c4).trans c5).trans c6).trans c7)⟩ K
   .refine qI ((p.rnd.pro k0)) false (by simpa using h2) ?_;refine qR [] 3 [] λs8 g8 w8 c8=>?_;refine qV 0 (iv ((k0:Int)+1)) (AD (x:=(.tmp 10)) (y:=(.const (iv 1))) (k0:Int) 1 underlying3 (by omega)) ?_;refine qR [] 2 [] λs9 g9 w9 c9=>?_;exact qB [] λz K0 K=>hJ (5-(k0+1)) _ _ _ z _ (by omega) ⟨k0+1,c,by simp only[OX];rw[(by simpa using h2:p.rnd.pro k0=false),hc];rfl,rfl,by omega,rfl,rfl,hC.trans ((((c2.trans c3).trans c4).trans c8).trans c9)⟩ K
  .refine qI ((decide ((k0:Int)<5))) false (D' (by omega)) ?_;obtain rfl:k0=5:=by omega
   rw[fM]at hc hcl
   refine qR [] 4 [] λs10 g10 w10 c10=>?_;refine qV 1 (iv (2*(c:Int))) (gp (x:=(.const (iv 2))) (y:=(.tmp 17)) 2 (c:Int) underlying3 (by omega)) ?_;refine qR [] 3 [] λs11 g11 w11 c11=>?_;rw[show p.rnd.enough=decide ((5:Int)<2*(c:Int))from by unfold Rnd.enough;rw[<- hc];by_cases hx:5<2*c<;>simp[hx]<;>omega];exact qE (.bool (decide ((5:Int)<2*(c:Int)))) λK=>⟨rfl,Cg.below (hC.trans ((c2.trans c10).trans c11)) (λ_ _=>M')⟩
structure Svv(w:World)(x:Value)(ls:List (List Vt)):Prop where
 ex:∃ a cap,x=.slice a ls.length cap/\(ls=[]\/∃ b off,a=some ⟨b,off,none⟩/\b<w.heap.size/\∀ (i:Nat) (l:List Vt),ls[i]?=some l->∃ y,w.cell? ⟨b,off+i,none⟩=some y/\Sv w y l)
 len:ls.length<=5864062014634
theorem Svv.below{w':World}{ls:List (List Vt)}(h:Svv w x ls)(hb:Bw w w'):Svv w' x ls:=by
 obtain⟨⟨a,cap,rfl,h1⟩,h2⟩:=h;refine⟨⟨a,cap,rfl,?_⟩,h2⟩;rcases h1 with h1|⟨b,off,ha,hbs,hc⟩
 .exact .inl h1
 .refine .inr ⟨b,off,ha,Z' hbs hb.size,λi l hi=>?_⟩;obtain⟨y,h3,h4⟩:=hc i l hi;exact⟨y,(hb.cell (p:=⟨b,off+i,none⟩) hbs).trans h3,h4.below hb⟩
theorem Svv.shape{ls:List (List Vt)}(h:Svv w x ls):∃ a cap,x=.slice a ls.length cap:=by
 obtain⟨⟨a,cap,e,_⟩,_⟩:=h;exact⟨a,cap,e⟩
theorem Svv.spot{a:Option Addr}{n cap:Nat}{ls:List (List Vt)}(h:Svv w (.slice a n cap) ls)(i:Nat)(l:List Vt)(hi:ls[i]?=some l):∃ b off y,a=some ⟨b,off,none⟩/\b<w.heap.size/\w.cell? ⟨b,off+i,none⟩=some y/\Sv w y l:=by
 obtain⟨⟨a',cap',e,h1⟩,_⟩:=h;simp only[Value.slice.injEq]at e;obtain⟨rfl,rfl,rfl⟩:=e;rcases h1 with rfl|⟨b,off,rfl,hb,hc⟩
 .simp at hi
 .obtain⟨y,h3,h4⟩:=hc i l hi;exact⟨b,off,y,rfl,hb,h3,h4⟩
theorem dJ:prog.elem 244=103:=by kernel_rfl
theorem eM(w:World):(Go.sizeOf 103).run prog w=.ok 1 w:=by
 have h:=eV;cases hi:prog.info? 103 with
 | none=>rw[hi]at h;cases h
 | some i =>
  rw[hi]at h
  simp at h;simp[sizeOf,typeInfo,hi,h]
theorem Vd(b o n c:Nat)(i:Nat)(hi:i<n)(w:World):(Instr.indexAt 244 (.slice (some ⟨b,o,none⟩) n c) (.int .i64 (i:Int))).run prog w=.ok (.pointer (some ⟨b,o+i,none⟩)) w:=by
 rw[run_indexAt_slice (P:=prog) w 244 _ n c .i64 _ underlying244,if_pos ⟨by omega,by omega⟩,dJ,eM];simp[Result.andThen,Addr.add_mid]
theorem YT{ops:Array Oper}{S:World->Prop}{op:Oper}{a:Act}(hw:Region.wanted op (yielded ops a.tmps)=true)(x y:Operand)(ho:op.op=.binOp .neq 102 x y 102)(r n r' n':Int)(hx:a.eval x=.agg #[.int .i64 r,.int .i64 n])(hy:a.eval y=.agg #[.int .i64 r',.int .i64 n']):YieldsIf prog ops S op (.bool (!decide (r=r'/\n=n'))) a :=
 .inl ⟨hw,λw _=>by
  unfold execOp;simp only[ho,hx,hy,Sem.run_bind,run_eqGuard_agg (P:=prog) (w:=w) .neq 102 x y _ _ (by kernel_rfl),Tk r n r' n' w,Result.andThen_ok,Sem.run_pure]⟩
theorem cm5:(prog.info? 25).map (·.size)=some 5:=by kernel_rfl
structure Bv(w:World)(g:Nat)(v:Vt):Prop where
 lt:g<w.heap.size
 row:w.heap[g]?=some (.cells (vtA v) 166 (0,0))
theorem Bv.mid{g:Nat}{v:Vt}(h:Bv w g v):w.rangeAt g 1 [.int .i64 v.b.r,.int .i64 v.b.n]/\w.rangeAt g 3 [.int .i64 v.w.k,.int .i64 v.w.c,.int .i64 v.w.s,.int .i64 v.w.n,.int .i64 v.w.v]:=by
 obtain⟨c0,c1,c2,c3,c4,c5,c6,c7⟩:=IY h.row;refine⟨Sf (o:=1) c1 c2,λj u hj=>?_⟩
 match j,hj with
 | 0,hj=>simp at hj;subst hj;exact c3
 | 1,hj=>simp at hj;subst hj;exact c4
 | 2,hj=>simp at hj;subst hj;exact c5
 | 3,hj=>simp at hj;subst hj;exact c6
 | 4,hj=>simp at hj;subst hj;exact c7
 | q+5,hj=>simp at hj
theorem XN(x:Value)(ls:List (List Vt))(s:Int)(w:World)(h:Svv w x ls)(ht:NTab w) :
  Calls prog 165 #[x,.int .i64 s] w λe w'=>e=.returned (.tuple #[.agg (cmC (G7 ls s)),.bool (Fr ls s),.int .i64 (C1 ls s)])/\Bw w w':=by
 have hlen:=h.len;obtain⟨ax,cp,rfl⟩:=h.shape;obtain⟨N,hN⟩:∃ N,ls.length=N:=⟨_,rfl⟩;have HN:Hid (ls.length=N):=hN;rw[hN]at h hlen ⊢
 clear hN;have hz5:(zV5:Array Value).all (·.oneCell')=true:=by simp[Value.oneCell']
 have rr:=heap_alloc_new w (.cells zV5 25);have bb:Bw w (w.alloc (.cells zV5 25)):=(Below.refl _ _).alloc (A' _) _;have z0:(w.alloc (.cells zV5 25)).heap.size=w.heap.size+1:=by simp
 generalize hW0:w.alloc (.cells zV5 25)=W0 at rr bb z0;have h0:=h.below bb;have t0:=ht.below bb;clear h ht;go_enter func165,ntmps165
 go_wp2_with fail
 clear hW0;refine(GM s _).mono ?_;rintro e w1 ⟨rfl,rfl⟩;by_cases h1:0<=s/\s<=39
 .rw[I' h1];have HS:Hid (0<=s/\s<=39):=h1;clear h1;have b0:Below (w.heap.size+1) w1 (w1.alloc (.cells zV8 166)):=(Below.refl _ _).alloc (by omega) _;have v0:(w1.alloc (.cells zV8 166)).heap[w.heap.size+1]?=some (.cells (vtA vt0) 166 (0,0)):=by rw[<- z0];exact heap_alloc_new _ _
  generalize hWA:w1.alloc (.cells zV8 166)=WA at b0 v0;go_wp2_with fail
  clear hWA;have hne:w.heap.size<w.heap.size+1:=by omega
  generalize hB:w.heap.size+1=B at b0 v0 z0 hne ⊢;have HB:Hid (B=w1.heap.size):=z0.symm;have hwB:w.heap.size+1=B:=hB;clear hB z0
  go_loopw [18] (λiv wr=>∃ (j:Nat) (best:Vt),j<=N/\iv=.int .i64 (j:Int)/\wr.heap[B]?=some (.cells (vtA best) 166 (0,0))/\DV (BY (Af (ls.take j).flatten s) none) best/\(∀ l∈ls.take j,∀ v∈l,Ak v)/\Below B w1 wr) (λiv _=>((N:Int)-intOf iv).toNat)
  case atStart=>exact⟨0,vt0,by omega,rfl,v0,.inl ⟨rfl,rfl⟩,λl hl=>by simp at hl,b0⟩
  case round =>
   clear v0 b0;obtain⟨j,best,hj,rfl,rB,hkv,hmay,hbel⟩:=hrel;have HKV:Hid (DV (BY (Af (ls.take j).flatten s) none) best):=hkv;have HMJ:Hid (∀ l∈ls.take j,∀ v∈l,Ak v):=hmay;clear hkv hmay;by_cases hjN:j<N
   .have hji:(j:Int)<(N:Int):=by omega
    obtain⟨l,hl⟩:∃ l,ls[j]?=some l:=⟨_,E' (by have:=HN.out;omega)⟩;obtain⟨b,off,y,rfl,ltb,hc0,hsy0⟩:=h0.spot j l hl;have hixS:=Vd b off N cp j hjN;obtain⟨ay,cy,hy⟩:=hsy0.shape;obtain⟨M,hM⟩:∃ M,l.length=M:=⟨_,rfl⟩;have HM:Hid (l.length=M):=hM;rw[hM]at hy
    subst hy;have HJ:Hid (ls[j]?=some l):=hl;have hMl:M<=2199023255488:=by have:=hsy0.len;omega
    have hc:=(hbel.cell (p:=⟨b,off+j,none⟩) (show b<B by rw[HB.out];exact ltb)).trans hc0;clear hl hM;go_wp2_with fail
    clear hc
    go_loopw [24] (λkv wr=>∃ (k:Nat) (best:Vt),k<=M/\kv=.int .i64 (k:Int)/\wr.heap[B]?=some (.cells (vtA best) 166 (0,0))/\DV (BY (Af ((ls.take j).flatten++l.take k) s) none) best/\(∀ v∈l.take k,Ak v)/\Below B w1 wr) (λkv _=>((M:Int)-intOf kv).toNat)
    case atStart=>exact⟨0,best,by omega,rfl,rB,by simpa using HKV.out,λv hv=>by simp at hv,hbel⟩
    case round =>
     clear HKV hbel rB;obtain⟨k,best,hk,rfl,rB,hkv,hmay,hbel⟩:=hrel;have HKV:Hid (DV (BY (Af ((ls.take j).flatten++l.take k) s) none) best):=hkv;have HMK:Hid (∀ v∈l.take k,Ak v):=hmay;clear hkv hmay;have hsz:=hbel.size;have ltB:B<wr.heap.size:=(H'.1 rB).1;by_cases hkM:k<M
     .have hki:(k:Int)<(M:Int):=by omega
      obtain⟨u,hu⟩:∃ u,l[k]?=some u:=⟨_,E' (by have:=HM.out;omega)⟩;obtain⟨b2,o2,rfl,ltb2,hr0⟩:=hsy0.spot k u hu;have hr:=GU hbel (show b2<B by rw[HB.out];exact ltb2) hr0;have hix:=D7 b2 o2 M cy k hkM;have HU:Hid (l[k]?=some u):=hu;have hi:=IS u;clear hu hr0;obtain⟨us,⟨ur,un⟩,⟨uk,uc,uq,um,ux⟩⟩:=u;simp only[vtC]at hr hi;have bN:Bw wr (wr.alloc (.cells zV8 166)):=(Below.refl _ _).alloc (A' _) _;have rN:=heap_alloc_new wr (.cells zV8 166);have hi2:(prog.info? 166).map (·.size)=some (#[.int .i64 us,.int .i64 ur,.int .i64 un,.int .i64 uk,.int .i64 uc,.int .i64 uq,.int .i64 um,.int .i64 ux]:Array Value).size:=hi;have hone:(#[.int .i64 us,.int .i64 ur,.int .i64 un,.int .i64 uk,.int .i64 uc,.int .i64 uq,.int .i64 um,.int .i64 ux]:Array Value).all (·.oneCell')=true:=by simp[Value.oneCell']
      generalize hWN:wr.alloc (.cells zV8 166)=WN at bN rN
      go_upto_region 10 with((with_reducible (refine As ?_));first|(refine wpList_load_mid rfl 166 _ rfl b2 (o2+8*k) rfl [.int .i64 us,.int .i64 ur,.int .i64 un,.int .i64 uk,.int .i64 uc,.int .i64 uq,.int .i64 um,.int .i64 ux] _ hr underlying166 rfl hi ?_)|(refine wpList_store_row rfl 166 (.tmp 11) (.tmp 27) rfl wr.heap.size (#[.int .i64 us,.int .i64 ur,.int .i64 un,.int .i64 uk,.int .i64 uc,.int .i64 uq,.int .i64 um,.int .i64 ux]) rfl rfl 166 _ rN hi2 rfl hone ?_))
      clear hWN;have q:=setRow_heap WN wr.heap.size _ (#[.int .i64 us,.int .i64 ur,.int .i64 un,.int .i64 uk,.int .i64 uc,.int .i64 uq,.int .i64 um,.int .i64 ux]) 166 _ rN;replace bN:=Aj bN (A' _) (#[.int .i64 us,.int .i64 ur,.int .i64 un,.int .i64 uk,.int .i64 uc,.int .i64 uq,.int .i64 um,.int .i64 ux]);generalize WN.setRow wr.heap.size (#[.int .i64 us,.int .i64 ur,.int .i64 un,.int .i64 uk,.int .i64 uc,.int .i64 uq,.int .i64 um,.int .i64 ux])=W at q bN ⊢;have ltG:wr.heap.size<W.heap.size:=(H'.1 q).1;have rBW:=(bN.block B ltB).trans rB;have eW:=hbel.trans (bN.mono (by omega));have tW:=t0.below (eW.mono (by rw[<- HB.out];exact A' _));obtain⟨G,hG⟩:∃ G,G=wr.heap.size:=⟨_,rfl⟩;rw[<- hG]at q ltG ltB ⊢
      clear rN hr hix hi2 bN rB hbel hsz hG;go_wp2_with ((with_reducible (refine As ?_));refine wpList_load_row rfl 166 _ rfl G rfl 166 _ (0,0) _ q underlying166 rfl hi ?_)
      refine(H6 ⟨us,⟨ur,un⟩,⟨uk,uc,uq,um,ux⟩⟩ W tW).mono ?_;rintro e W2 ⟨rfl,b2⟩;have e2:=eW.trans (b2.mono (by have:=eW.size;have:=HB.out;omega));have q2:=(b2.block _ ltG).trans q;have rB2:=(b2.block B (by omega)).trans rBW;have ltG2:G<W2.heap.size:=Z' ltG b2.size;have x0:W2.cell? ⟨G,0,none⟩=some (.int .i64 us):=cell_of_row _ _ 0 _ _ _ q2;have x1:W2.cell? ⟨G,1,none⟩=some (.int .i64 ur):=cell_of_row _ _ 1 _ _ _ q2;have x2:W2.cell? ⟨G,2,none⟩=some (.int .i64 un):=cell_of_row _ _ 2 _ _ _ q2;clear b2 q eW tW rBW ltG;by_cases hv:Ak ⟨us,⟨ur,un⟩,⟨uk,uc,uq,um,ux⟩⟩
      .rw[I' hv];have HMK1:Hid (∀ v∈l.take (k+1),Ak v):=YB HU.out HMK.out hv;have hvb:Ab ⟨ur,un⟩:=hv.2.1;by_cases hus:us=s
       .have HT:Hid (Af ((ls.take j).flatten++l.take (k+1)) s=Af ((ls.take j).flatten++l.take k) s++[(⟨us,⟨ur,un⟩,⟨uk,uc,uq,um,ux⟩⟩:Vt)]):=by
         unfold Hid;rw[DQ l k _ HU.out,<- iR,Jt,if_pos hus]
        have HK1:Hid (DV (BY (Af ((ls.take j).flatten++l.take (k+1)) s) none) (if best.b.lt ⟨ur,un⟩then⟨us,⟨ur,un⟩,⟨uk,uc,uq,um,ux⟩⟩else best)):=by
         unfold Hid;rw[HT.out,QD];exact HKV.out.next (v:=⟨us,⟨ur,un⟩,⟨uk,uc,uq,um,ux⟩⟩) hvb
        obtain⟨bs,⟨br,bn⟩,⟨bk,bc,bq,bm,bx⟩⟩:=best;have y1:W2.cell? ⟨B,1,none⟩=some (.int .i64 br):=cell_of_row _ _ 1 _ _ _ rB2;have y2:W2.cell? ⟨B,2,none⟩=some (.int .i64 bn):=cell_of_row _ _ 2 _ _ _ rB2;clear hv hvb HT HKV HMK;subst hus;go_wp2_with fail
        refine(DD ⟨br,bn⟩ ⟨ur,un⟩ W2).mono ?_;rintro e W3 ⟨rfl,b3⟩;have e3:=e2.trans (b3.mono (by have:=e2.size;have:=HB.out;omega));have q3:=(b3.block _ ltG2).trans q2;have rB3:=(b3.block B (by omega)).trans rB2;clear b3 x0 x1 x2 y1 y2 q2 rB2;by_cases hlt:Bal.lt ⟨br,bn⟩ ⟨ur,un⟩
        .rw[I' hlt];have HK2:Hid (DV (BY (Af ((ls.take j).flatten++l.take (k+1)) us) none) ⟨us,⟨ur,un⟩,⟨uk,uc,uq,um,ux⟩⟩):=by
          have g:=HK1.out;rw[if_pos hlt]at g
          exact g
         clear hlt HK1;go_wp2_with ((with_reducible (refine As ?_));first|(refine wpList_load_row rfl 166 (.tmp 11) rfl G rfl 166 _ (0,0) _ q3 underlying166 rfl hi ?_)|(refine wpList_store_row rfl 166 (.tmp 7) (.tmp 43) rfl B (#[.int .i64 us,.int .i64 ur,.int .i64 un,.int .i64 uk,.int .i64 uc,.int .i64 uq,.int .i64 um,.int .i64 ux]) rfl rfl 166 _ rB3 hi rfl hone ?_))
         have rB4:=setRow_heap W3 B _ (#[.int .i64 us,.int .i64 ur,.int .i64 un,.int .i64 uk,.int .i64 uc,.int .i64 uq,.int .i64 um,.int .i64 ux]) 166 _ rB3;have e4:=Aj e3 (A' _) (#[.int .i64 us,.int .i64 ur,.int .i64 un,.int .i64 uk,.int .i64 uc,.int .i64 uq,.int .i64 um,.int .i64 ux]);go_roundw
         case rel=>exact⟨k+1,⟨us,⟨ur,un⟩,⟨uk,uc,uq,um,ux⟩⟩,by omega,by go_num,rB4,HK2.out,HMK1.out,e4⟩
         case measure=>simp[intOf];omega
        .rw[D' hlt];have HK2:Hid (DV (BY (Af ((ls.take j).flatten++l.take (k+1)) us) none) ⟨bs,⟨br,bn⟩,⟨bk,bc,bq,bm,bx⟩⟩):=by
          have g:=HK1.out;rw[if_neg hlt]at g
          exact g
         clear hlt HK1;go_wp2
         go_roundw
         case rel=>exact⟨k+1,⟨bs,⟨br,bn⟩,⟨bk,bc,bq,bm,bx⟩⟩,by omega,by go_num,rB3,HK2.out,HMK1.out,e3⟩
         case measure=>simp[intOf];omega
       .have HT:Hid (Af ((ls.take j).flatten++l.take (k+1)) s=Af ((ls.take j).flatten++l.take k) s):=by
         unfold Hid;rw[DQ l k _ HU.out,<- iR,Jt,if_neg hus,jy]
        clear hv hvb;go_wp2
        go_roundw
        case rel=>exact⟨k+1,best,by omega,by go_num,rB2,by rw[HT.out];exact HKV.out,HMK1.out,e2⟩
        case measure=>simp[intOf];omega
      .rw[D' hv];have HF:Hid (G7 ls s=⟨0,0,0,0,0⟩/\Fr ls s=false/\C1 ls s=5):=RW HS.out (λg=>hv (g l (jG.2 ⟨j,HJ.out⟩) _ (jG.2 ⟨k,HU.out⟩)));clear hv;have rR:=(e2.block w.heap.size (by have:=HB.out;omega)).trans rr;go_wp2_with ((with_reducible (refine As ?_));refine wpList_store_row rfl 25 (.tmp 4) (.tmp 31) rfl w.heap.size zV5 rfl rfl 25 _ rR cm5 rfl hz5 ?_)
       have q9:=setRow_heap W2 w.heap.size _ (zV5) 25 _ rR;have d9:=Aj (bb.trans (e2.mono (by have:=HB.out;omega))) (A' _) (zV5);refine bodyPost_ret (Jv rfl _ _ w.heap.size 25 _ (0,0) _ rfl q9 underlying25 rfl cm5) rfl ?_;rw[HF.out.1,HF.out.2.1,HF.out.2.2];exact⟨rfl,d9⟩
     .have HK1:Hid (DV (BY (Af (ls.take (j+1)).flatten s) none) best):=by
       have g:=HKV.out;rw[show l.take k=l from iU (by have:=HM.out;omega)]at g
       unfold Hid;rw[Vu ls j l HJ.out];exact g
      have HM1:Hid (∀ l∈ls.take (j+1),∀ v∈l,Ak v):=by
       have g:=HMK.out;rw[show l.take k=l from iU (by have:=HM.out;omega)]at g
       exact YA HJ.out HMJ.out g
      clear HKV HMK HMJ;go_wp2
      go_roundw
      case rel=>exact⟨j+1,best,by omega,by go_num,rB,HK1.out,HM1.out,hbel⟩
      case measure=>simp[intOf];omega
   .have HF:Hid (G7 ls s=best.w/\Fr ls s=!decide (best.b.r=0/\best.b.n=0)/\C1 ls s=0):=by
     have g:=HKV.out;have g2:=HMJ.out;rw[iU (by have:=HN.out;omega)]at g g2
     exact g.pick HS.out g2
    obtain⟨bs,⟨br,bn⟩,⟨bk,bc,bq,bm,bx⟩⟩:=best;clear HKV HMJ;have rR:=(hbel.block w.heap.size (by have:=HB.out;omega)).trans rr;have dr:=bb.trans (hbel.mono (by have:=HB.out;omega));have hone5:(#[.int .i64 bk,.int .i64 bc,.int .i64 bq,.int .i64 bm,.int .i64 bx]:Array Value).all (·.oneCell')=true:=by simp[Value.oneCell']
    go_wp2_with fail
    apply aN (λW2=>W2.heap[w.heap.size]?=some (.cells #[.int .i64 bk,.int .i64 bc,.int .i64 bq,.int .i64 bm,.int .i64 bx] 25 (0,0))/\Bw w W2)
    .intro K2 HK2;have S0:Hid (∀ w':World,w'.heap[B]?=some (.cells (vtA ⟨bs,⟨br,bn⟩,⟨bk,bc,bq,bm,bx⟩⟩) 166 (0,0))->w'.rangeAt B 1 [.int .i64 br,.int .i64 bn]/\w'.rangeAt B 3 [.int .i64 bk,.int .i64 bc,.int .i64 bq,.int .i64 bm,.int .i64 bx]):=λw' h'=>Bv.mid (v:=⟨bs,⟨br,bn⟩,⟨bk,bc,bq,bm,bx⟩⟩) ⟨(H'.1 h').1,h'⟩;refine wp_region_held (S:=λw'=>w'.heap[B]?=some (.cells (vtA ⟨bs,⟨br,bn⟩,⟨bk,bc,bq,bm,bx⟩⟩) 166 (0,0))) (by kernel_rfl) ?_;have hS0:(λw':World=>w'.heap[B]?=some (.cells (vtA ⟨bs,⟨br,bn⟩,⟨bk,bc,bq,bm,bx⟩⟩) 166 (0,0))) wr.drew:=rB;have rRd:wr.drew.heap[w.heap.size]?=some (.cells zV5 25 (0,0)):=rR;have rBd:wr.drew.heap[B]?=some (.cells (vtA ⟨bs,⟨br,bn⟩,⟨bk,bc,bq,bm,bx⟩⟩) 166 (0,0)):=rB;refine Ah (i:=0) 46 (v:=.pointer (some ⟨B,3,none⟩)) rfl rfl (by kernel_rfl) (by kernel_rfl) (by kernel_rfl) (λ_ _ _ h=>h) (kt ⟨by rfl,λ_ _=>by kernel_rfl⟩) hS0 ?_;simp only[Act.put,N',Y',iM];refine Ah (i:=1) 47 (v:=.agg #[.int .i64 bk,.int .i64 bc,.int .i64 bq,.int .i64 bm,.int .i64 bx]) rfl rfl (by kernel_rfl) (by kernel_rfl) (by kernel_rfl) (λ_ _ _ h=>h) (yieldsIf_load_mid (by rfl) 25 (.tmp 46) rfl B 3 rfl [.int .i64 bk,.int .i64 bc,.int .i64 bq,.int .i64 bm,.int .i64 bx] _ (λw' hw'=>(S0.out w' hw').2) underlying25 rfl cm5) hS0 ?_;simp only[Act.put,N',Y',iM];refine Ah (i:=2) 48 (v:=.pointer (some ⟨B,1,none⟩)) rfl rfl (by kernel_rfl) (by kernel_rfl) (by kernel_rfl) (λ_ _ _ h=>h) (kt ⟨by rfl,λ_ _=>by kernel_rfl⟩) hS0 ?_;simp only[Act.put,N',Y',iM];refine Ah (i:=3) 49 (v:=.agg #[.int .i64 br,.int .i64 bn]) rfl rfl (by kernel_rfl) (by kernel_rfl) (by kernel_rfl) (λ_ _ _ h=>h) (yieldsIf_load_mid (by rfl) 102 (.tmp 48) rfl B 1 rfl [.int .i64 br,.int .i64 bn] _ (λw' hw'=>(S0.out w' hw').1) underlying102 rfl Kw) hS0 ?_;simp only[Act.put,N',Y',iM];refine Ah (i:=4) 50 (v:=.agg #[.int .i64 0,.int .i64 0]) rfl rfl (by kernel_rfl) (by kernel_rfl) (by kernel_rfl) (λ_ _ _ h=>h) (kt ⟨by rfl,λ_ _=>by kernel_rfl⟩) hS0 ?_;simp only[Act.put,N',Y',iM];refine Ah (i:=5) 51 (v:=.bool (!decide (br=0/\bn=0))) rfl rfl (by kernel_rfl) (by kernel_rfl) (by kernel_rfl) (λ_ _ _ h=>h) (YT (by rfl) (.tmp 49) (.tmp 50) rfl br bn 0 0 rfl rfl) hS0 ?_;simp only[Act.put,N',Y',iM];refine BK (i:=6) (by kernel_rfl) (Ib (i:=6) rfl (by kernel_rfl) rfl 25 (.tmp 4) (.tmp 47) rfl w.heap.size #[.int .i64 bk,.int .i64 bc,.int .i64 bq,.int .i64 bm,.int .i64 bx] (by kernel_rfl) (by kernel_rfl) 25 _ rRd cm5 rfl hone5 ⟨(setRow_other _ _ _ _ (by omega)).trans rBd,?_⟩);refine Ah (i:=7) 5 (v:=.bool (!decide (br=0/\bn=0))) rfl rfl (by kernel_rfl) (by kernel_rfl) (by kernel_rfl) (λ_ _ _ h=>h) (kt ⟨by rfl,λ_ _=>by kernel_rfl⟩) ((setRow_other _ _ _ _ (by omega)).trans rBd) ?_;simp only[Act.put,N',Y',iM];refine Ah (i:=8) 6 (v:=.int .i64 0) rfl rfl (by kernel_rfl) (by kernel_rfl) (by kernel_rfl) (λ_ _ _ h=>h) (kt ⟨by rfl,λ_ _=>by kernel_rfl⟩) ((setRow_other _ _ _ _ (by omega)).trans rBd) ?_;simp only[Act.put,N',Y',iM];exact wpAnyH_done (by kernel_rfl) (HK2.out _ ⟨setRow_heap _ _ _ _ _ _ rRd,Aj dr.drew (A' _) _⟩) _
    intro W2 hW2;obtain⟨q9,d9⟩:=hW2;clear rR rB hbel;generalize hbz:(!decide (br=0/\bn=0))=bz at HF;go_wp2
    refine bodyPost_ret (Jv rfl _ _ w.heap.size 25 _ (0,0) _ rfl q9 underlying25 rfl cm5) rfl ?_;rw[HF.out.1,HF.out.2.1,HF.out.2.2];exact⟨rfl,d9⟩
 .rw[D' h1];have HF:Hid (G7 ls s=⟨0,0,0,0,0⟩/\Fr ls s=false/\C1 ls s=2):=XQ h1;clear h1;go_wp2_with ((with_reducible (refine As ?_));refine wpList_store_row rfl 25 (.tmp 4) (.tmp 15) rfl w.heap.size zV5 rfl rfl 25 _ rr cm5 rfl hz5 ?_)
  have q9:=setRow_heap w1 w.heap.size _ (zV5) 25 _ rr;have d9:=Aj bb (A' _) (zV5);refine bodyPost_ret (Jv rfl _ _ w.heap.size 25 _ (0,0) _ rfl q9 underlying25 rfl cm5) rfl ?_;rw[HF.out.1,HF.out.2.1,HF.out.2.2];exact⟨rfl,d9⟩
def gz:Gh:=⟨λ_=>.z,λ_=>0⟩
theorem DF{b:Nat}:gz.t b∉([.n 60 0]:List Tg):=by simp[gz]
def P8(x:NX)(k:Nat):List Value:=(List.range k).map λj=>S3.v (x.hv j)
theorem UA(x:NX)(k:Nat):P8 x (k+1)=P8 x k++[S3.v (x.hv k)]:=by unfold P8;rw[kr,iS];rfl
theorem aM{τ:Tg}{e:TypeId}{y:S3}{x:NX}{r:Rnd}(h:OwnS g w τ false e 1 y (P8 x 5))(hs:∀ j,j<5->Sv w (x.hv j).v (r.heard j).vs):Svv w y.v (r.accs.map (·.vs)):=by
 have hl:=h.len;have hn:y.n=5:=by simp[P8]at hl;omega
 obtain⟨b,hb,hbs,_⟩:=h.cell (j:=0) (u:=S3.v (x.hv 0)) rfl;refine⟨⟨y.a,y.c,by unfold S3.v;rw[hn];rfl,.inr ⟨b,0,hb,hbs,λj l hj=>?_⟩⟩,by show 5<=5864062014634;decide⟩;have hj5:j<5:=by have:=(Q'.1 hj).1;exact this
 have hlj:(P8 x 5)[j]?=some (S3.v (x.hv j)):=by rcases five hj5 with rfl|rfl|rfl|rfl|rfl<;>rfl
 obtain⟨b',hb',_,hc⟩:=h.cell hlj;rw[hb]at hb'
 simp only[X',Addr.mk.injEq,and_true]at hb';subst hb';refine⟨S3.v (x.hv j),by rw[jm];exact hc,?_⟩;have h2:=hs j hj5;rcases five hj5 with rfl|rfl|rfl|rfl|rfl<;>(simp[Rnd.accs]at hj;subst hj;exact h2)
theorem Uj{l:List Cmd}{f:Cmd->Bool}{j:Nat}{c:Cmd}(h:l[j]?=some c):(l.drop j).find? f=if f c then some c else(l.drop (j+1)).find? f:=by
 rw[Dq h,kN];split<;>simp_all
theorem JL(h:NS i nb ob g w p ls ts)(hB:Base w0 g w)(hT:Tabs w0)(s:Nat)(hq:p.rnd.queue.length<100000000)(hba:p.agreed.length<100000000) :
  Calls prog 132 #[pt nb 0,iv (s:Int)] w λe w'=>e=.returned (.tuple #[.agg (cmC ((p.nextC s).getD TW)),.bool (p.nextC s).isSome])/\Bw w w':=by
 obtain⟨x,lt,tl,hN,hO,hg⟩:=h;have hQ:=hN.queue.rd;have hA:=hN.agreed.rd;have hqn:=hQ.len;have hH:∀ j,j<5->Sv w (x.hv j).v (p.rnd.heard j).vs:=λj hj=>(hN.heard j hj).s;have hB1:Base w0 gz w:=⟨hB.b,λ_ _=>rfl⟩;refine gI (fn:=f132) [.n 60 0] gz func132 (λ_ _=>⟨rfl,rfl⟩) ?_;refine BW ⟨nb,.cells (AB i ob p x) 123,.z,false⟩ (λ_=>⟨hN.row,rfl,λh=>(by cases h),λh=>absurd rfl h⟩) (by kernel_rfl) ?_;refine qR [] 21 [1,0,0] λs1 g1 w1 c1=>?_;refine BI 63 [(0,pt nb 0),(1,iv (s:Int)),(4,pt (s1 0) 0),(6,sn),(19,.agg #[iv ((p.rnd.heard 0).p.r),iv ((p.rnd.heard 0).p.n),S3.v (x.hv 0),iv ((p.rnd.heard 1).p.r),iv ((p.rnd.heard 1).p.n),S3.v (x.hv 1),iv ((p.rnd.heard 2).p.r),iv ((p.rnd.heard 2).p.n),S3.v (x.hv 2),iv ((p.rnd.heard 3).p.r),iv ((p.rnd.heard 3).p.n),S3.v (x.hv 3),iv ((p.rnd.heard 4).p.r),iv ((p.rnd.heard 4).p.n),S3.v (x.hv 4)]),(20,iv 0)] [true,true] [⟨nb,.cells (AB i ob p x) 123,.z,false⟩,⟨(s1 0),.cells #[iv 0,iv 0,iv 0,iv 0,iv 0] 25,.l,false⟩] (λk g' w' e L=>∃ (k0:Nat) (y:S3),k=5-k0/\k0<=5/\e=[(0,pt nb 0),(1,iv (s:Int)),(4,pt (s1 0) 0),(6,S3.v y),(19,.agg #[iv (p.rnd.heard 0).p.r,iv (p.rnd.heard 0).p.n,S3.v (x.hv 0),iv (p.rnd.heard 1).p.r,iv (p.rnd.heard 1).p.n,S3.v (x.hv 1),iv (p.rnd.heard 2).p.r,iv (p.rnd.heard 2).p.n,S3.v (x.hv 2),iv (p.rnd.heard 3).p.r,iv (p.rnd.heard 3).p.n,S3.v (x.hv 3),iv (p.rnd.heard 4).p.r,iv (p.rnd.heard 4).p.n,S3.v (x.hv 4)]),(20,iv (k0:Int))]/\L=[⟨nb,.cells (AB i ob p x) 123,.z,false⟩,⟨(s1 0),.cells #[iv 0,iv 0,iv 0,iv 0,iv 0] 25,.l,false⟩]/\OwnS g' w' (.n 60 0) false 103 1 y (P8 x k0)/\Cg w.heap.size [.n 60 0] gz w g' w') (by kernel_rfl) (by kernel_rfl) (by kernel_rfl) (by kernel_rfl) 5 (λK=>?_) ?_
 .exact⟨0,s30,rfl,by omega,rfl,rfl,OwnS.nil _ _ _ _ _ _,(c1.nil [.n 60 0])⟩
 .rintro k gr wr _ zr _ ⟨k0,y,rfl,hk0,rfl,rfl,hy,hC⟩ J hJ;refine qR [] 5 [] λs2 g2 w2 c2=>?_;by_cases h1:k0<5
  .refine qI ((decide ((k0:Int)<5))) true (I' (by omega)) ?_;refine qR [] 5 [] λs3 g3 w3 c3=>?_;refine ZL 0 (.agg #[iv (p.rnd.heard k0).p.r,iv (p.rnd.heard k0).p.n,S3.v (x.hv k0)]) (λK=>(by rcases five h1 with rfl|rfl|rfl|rfl|rfl<;>kernel_rfl)) (by kernel_rfl) ?_;refine qR [] 8 [0,0,2,0,2,0,0] λs4 g4 w4 c4=>?_;have hyn:y.n=k0:=by have:=hy.len;simp[P8]at this;omega
   refine JI 4 (x:=y) 244 244 103 1 24 (.slice none 0 0) ⟨(s4 1),0,none⟩ 1 1 [S3.v (x.hv k0)] (((hy.ch c2).ch c3).ch c4) (by kernel_rfl) (by kernel_rfl) (by kernel_rfl) underlying244 (by kernel_rfl) (by kernel_rfl) (by decide) (by decide) rfl (by simp[Value.oneCell']) (λK=>BL K 3 (s4 1) [S3.v (x.hv k0)] 103 .z true (by kernel_rfl)) (by unfold maxLen;omega) (by omega) ?_;intro y5 g5 w5 a5 n5 cc5 G5;have c5:=cc5 w.heap.size [.n 60 0] (O'.2 rfl);refine qR [] 4 [] λs6 g6 w6 c6=>?_;refine qV 0 (iv ((k0:Int)+1)) (AD (x:=(.tmp 20)) (y:=(.const (iv 1))) (k0:Int) 1 underlying3 (by omega)) ?_;refine qR [] 2 [] λs7 g7 w7 c7=>?_;exact qB [true,true,false,false] λz K0 K=>hJ (5-(k0+1)) _ _ _ z _ (by omega) ⟨k0+1,y5,rfl,by omega,rfl,rfl,(by rw[UA];exact((a5.ch c6).ch c7)),((((((hC.n c2).n c3).n c4).trans c5).n c6).n c7)⟩ K
  .refine qI ((decide ((k0:Int)<5))) false (D' (by omega)) ?_;obtain rfl:k0=5:=by omega
   refine qR [] 5 [] λs8 g8 w8 c8=>?_;have hD:=((hC.n c2).n c8);have hS:=aM (r:=p.rnd) ((hy.ch c2).ch c8) (λj hj=>(hH j hj).below (hD.below (λ_ _=>DF)));refine qC 2 (XN _ _ (s:Int) w8 hS ((hB1.ch hD).tn hT)) ?_;rintro e' w9 ⟨rfl,b9⟩;refine⟨_,rfl,b9,?_⟩;have c9:=Cg.ofBelow (B:=w.heap.size) (T:=[]) (g:=g8) b9;refine qR [] 15 [0,0,2,0] λs10 g10 w10 c10=>?_;by_cases h2:(C1 (p.rnd.accs.map (·.vs)) (s:Int))≠0
   .refine qI (((C1 (p.rnd.accs.map (·.vs)) (s:Int)) != 0)) true (by simpa using h2) ?_;refine qR [] 6 [1,0] λs11 g11 w11 c11=>?_;rw[show p.nextC s=none from if_pos h2];exact qE2 4 5 25 1 (s1 0) (cmC TW) (.bool false) λK=>⟨rfl,Cg.below (((((hC.n c2).n c8).n c9).n c10).n c11) (λ_ _=>DF)⟩
   .refine qI (((C1 (p.rnd.accs.map (·.vs)) (s:Int)) != 0)) false (by simpa using h2) ?_;refine qR [] 6 [] λs12 g12 w12 c12=>?_;by_cases h3:(Fr (p.rnd.accs.map (·.vs)) (s:Int))=true
    .refine qI ((Fr (p.rnd.accs.map (·.vs)) (s:Int))) true h3 ?_;refine qR [] 6 [2,1,0] λs13 g13 w13 c13=>?_;rw[show p.nextC s=some (G7 (p.rnd.accs.map (·.vs)) (s:Int))from(if_neg h2).trans (if_pos h3)];exact qE2 4 5 25 1 (s1 0) (cmC (G7 (p.rnd.accs.map (·.vs)) (s:Int))) (.bool true) λK=>⟨rfl,Cg.below ((((((hC.n c2).n c8).n c9).n c10).n c12).n c13) (λ_ _=>DF)⟩
    .refine qI ((Fr (p.rnd.accs.map (·.vs)) (s:Int))) false (by simpa using h3) ?_;refine qR [] 14 [0] λs14 g14 w14 c14=>?_;have hX:p.nextC s=p.rnd.queue.find? (λc=>decide (c∉p.agreed)):=(if_neg h2).trans (if_neg h3);refine BI 63 [(0,pt nb 0),(4,pt (s1 0) 0),(46,S3.v x.queue),(47,iv (x.queue.n:Int)),(48,iv 0)] [true,true,false] [⟨nb,.cells (AB i ob p x) 123,.z,false⟩,⟨(s1 0),.cells #[iv 0,iv 0,iv 0,iv 0,iv 0] 25,.l,false⟩] (λk g' w' e L=>∃ j:Nat,k=p.rnd.queue.length-j/\j<=p.rnd.queue.length/\e=[(0,pt nb 0),(4,pt (s1 0) 0),(46,S3.v x.queue),(47,iv (x.queue.n:Int)),(48,iv (j:Int))]/\L=[⟨nb,.cells (AB i ob p x) 123,.z,false⟩,⟨(s1 0),.cells #[iv 0,iv 0,iv 0,iv 0,iv 0] 25,.l,false⟩]/\(p.rnd.queue.drop j).find? (λc=>decide (c∉p.agreed))=p.nextC s/\Cg w.heap.size [.n 60 0] gz w g' w') (by kernel_rfl) (by kernel_rfl) (by kernel_rfl) (by kernel_rfl) p.rnd.queue.length (λK=>?_) ?_
     .exact⟨0,rfl,by omega,rfl,rfl,by rw[hX];rfl,((((((hC.n c2).n c8).n c9).n c10).n c12).n c14)⟩
     .rintro k gr wr _ zr _ ⟨j,rfl,hj,rfl,rfl,hI,hC2⟩ J hJ;refine qR [] 5 [] λs15 g15 w15 c15=>?_;by_cases h4:j<p.rnd.queue.length
      .refine qI ((decide ((j:Int)<(x.queue.n:Int)))) true (I' (by omega)) ?_;obtain⟨c,hcj⟩:∃ c,p.rnd.queue[j]?=some c:=⟨_,E' h4⟩;obtain⟨bx,ox,hxa⟩:=hQ.addr h4;rw[Uj hcj]at hI
       refine qR [] 5 [] λs16 g16 w16 c16=>?_;refine qV 0 (pt bx (ox+5*j)) (Lr hxa j (by omega)) ?_;have hQr:=hQ.below (((hC2.n c15).n c16).below (λ_ _=>DF));refine qV 1 (.agg #[iv c.k,iv c.c,iv c.s,iv c.n,iv c.v]) (Ou c λq_ u hu=>hQr.cellAt hxa hcj hu) ?_;refine qR [] 11 [0,0,2,0,8,0,2,4,6,8,0,10,2] λs18 g18 w18 c18=>?_;refine qC 6 (EL (l:=p.agreed) (hA.below ((((hC2.n c15).n c16).n c18).below (λ_ _=>DF))) hba c) ?_;rintro e' w19 ⟨rfl,b19⟩;refine⟨_,rfl,b19,?_⟩;have c19:=Cg.ofBelow (B:=w.heap.size) (T:=[]) (g:=g18) b19;refine qR [] 2 [14] λs20 g20 w20 c20=>?_;by_cases h5:c∈p.agreed
       .refine qI ((!(decide (c∈p.agreed)))) false (by simpa using h5) ?_;refine qR [] 3 [] λs21 g21 w21 c21=>?_;refine qV 0 (iv ((j:Int)+1)) (AD (x:=(.tmp 48)) (y:=(.const (iv 1))) (j:Int) 1 underlying3 (by omega)) ?_;refine qR [] 2 [] λs22 g22 w22 c22=>?_;exact qB [true,true,false] λz K0 K=>hJ (p.rnd.queue.length-(j+1)) _ _ _ z _ (by omega) ⟨j+1,rfl,by omega,rfl,rfl,(by rw[<- hI,if_neg (by simpa using h5)]),(((((((hC2.n c15).n c16).n c18).n c19).n c20).n c21).n c22)⟩ K
       .refine qI ((!(decide (c∈p.agreed)))) true (by simpa using h5) ?_;refine qR [] 6 [2,1,0] λs23 g23 w23 c23=>?_;rw[if_pos (by simpa using h5)]at hI
        rw[<- hI];exact qE2 4 5 25 1 (s1 0) (cmC c) (.bool true) λK=>⟨rfl,Cg.below ((((((hC2.n c15).n c16).n c18).n c19).n c20).n c23) (λ_ _=>DF)⟩
      .refine qI ((decide ((j:Int)<(x.queue.n:Int)))) false (D' (by omega)) ?_;refine qR [] 7 [1,0] λs24 g24 w24 c24=>?_;obtain rfl:j=p.rnd.queue.length:=by omega
       rw[j7]at hI
       rw[<- hI];exact qE2 4 5 25 1 (s1 0) (cmC TW) (.bool false) λK=>⟨rfl,Cg.below ((hC2.n c15).n c24) (λ_ _=>DF)⟩
theorem MN(h:NS i nb ob g w p ls ts){b:Bool}(hb:p.rnd.enough=b) :
  Calls prog 131 #[pt nb 11] w λe w'=>e=.returned (.bool b)/\Bw w w':=by subst hb;exact Rb h
theorem PD(h:NS i nb ob g w p ls ts)(hB:Base w0 g w)(hT:Tabs w0)(s:Nat)(hq:p.rnd.queue.length<100000000)(hba:p.agreed.length<100000000){o:Option Cmd}(ho:p.nextC s=o) :
  Calls prog 132 #[pt nb 0,iv (s:Int)] w λe w'=>e=.returned (.tuple #[.agg (cmC (o.getD TW)),.bool o.isSome])/\Bw w w':=by subst ho;exact JL h hB hT s hq hba
theorem YM(p:Nod)(v:Vt):(p.vote v).1.rnd=p.rnd:=by
 unfold Nod.vote;repeat' split
 all_goals rfl
theorem PU(h:NS i nb ob g w p ls ts)(hB:Base w0 g w)(hT:Tabs w0)(hq:p.rnd.queue.length<100000000)(hba:p.agreed.length<100000000)(hb:p.pend.length<100000000)(hvo:p.vo.vs.length<100000000) :
  Calls prog 89 #[pt nb 0] w (NP i nb ob g w (.tuple #[]) p.propose ls ts):=by
 obtain⟨x,lt,tl,hN,hO,hg⟩:=h;have hn:x.agreed.n=p.agreed.length:=hN.agreed.num;refine gI (fn:=f89) (TN i) g func89 hg ?_;refine qN hN ?_;refine qO hO ?_;refine qR [] 18 [0,0,2,0,2] λs1 g1 w1 c1=>?_;by_cases h1:p.leads=false
 .refine Ag λK=>?_;have N3:NS i nb ob g1 w1 p ls ts:=(nsC hN hO c1 K);refine qC 1 (E7 N3 h1) ?_;rintro e' w4 ⟨rfl,b4⟩;refine⟨_,rfl,b4,?_⟩;have c4:=Cg.ofBelow (B:=w.heap.size) (T:=[]) (g:=g1) b4;refine qR [] 21 [] λs5 g5 w5 c5=>?_;refine qE (.tuple #[]) λK=>?_;rw[show p.propose=p from by unfold Nod.propose;rw[if_pos (.inl h1)]];exact⟨_,rfl,(nsC hN hO ((c1.n c4).n c5) K),(((c1.nil (TN i)).n c4).n c5)⟩
 .have h10:p.leads=true:=by simpa using h1
  refine Ag λK=>?_;have N8:NS i nb ob g1 w1 p ls ts:=(nsC hN hO c1 K);refine qC 1 (E7 N8 h10) ?_;rintro e' w9 ⟨rfl,b9⟩;refine⟨_,rfl,b9,?_⟩;have c9:=Cg.ofBelow (B:=w.heap.size) (T:=[]) (g:=g1) b9;refine qR [] 6 [2] λs10 g10 w10 c10=>?_;by_cases h2:p.rnd.enough=false
  .refine Ag λK=>?_;have N12:NS i nb ob g10 w10 p ls ts:=(nsC hN hO ((c1.n c9).n c10) K);refine qC 8 (MN N12 h2) ?_;rintro e' w13 ⟨rfl,b13⟩;refine⟨_,rfl,b13,?_⟩;have c13:=Cg.ofBelow (B:=w.heap.size) (T:=[]) (g:=g10) b13;refine qR [] 14 [] λs14 g14 w14 c14=>?_;refine qE (.tuple #[]) λK=>?_;rw[show p.propose=p from by unfold Nod.propose;rw[if_pos (.inr (.inl h2))]];exact⟨_,rfl,(nsC hN hO ((((c1.n c9).n c10).n c13).n c14) K),(((((c1.nil (TN i)).n c9).n c10).n c13).n c14)⟩
  .have h20:p.rnd.enough=true:=by simpa using h2
   refine Ag λK=>?_;have N17:NS i nb ob g10 w10 p ls ts:=(nsC hN hO ((c1.n c9).n c10) K);refine qC 8 (MN N17 h20) ?_;rintro e' w18 ⟨rfl,b18⟩;refine⟨_,rfl,b18,?_⟩;have c18:=Cg.ofBelow (B:=w.heap.size) (T:=[]) (g:=g10) b18;refine qR [] 13 [2,0] λs19 g19 w19 c19=>?_;by_cases h3:(x.agreed.n:Int)<(p.rnd.next:Int)
   .have h30:p.agreed.length<p.rnd.next:=by omega
    refine qI ((decide ((x.agreed.n:Int)<(p.rnd.next:Int)))) true (I' (by omega)) ?_;refine qE (.tuple #[]) λK=>?_;rw[show p.propose=p from by unfold Nod.propose;rw[if_pos (.inr (.inr h30))]];exact⟨_,rfl,(nsC hN hO ((((c1.n c9).n c10).n c18).n c19) K),(((((c1.nil (TN i)).n c9).n c10).n c18).n c19)⟩
   .refine qI ((decide ((x.agreed.n:Int)<(p.rnd.next:Int)))) false (D' (by omega)) ?_;have h40:¬ (p.leads=false\/p.rnd.enough=false\/p.agreed.length<p.rnd.next):=by rintro(h|h|h);exact h1 h;exact h2 h;omega
    refine qR [] 5 [2] λs22 g22 w22 c22=>?_;cases ho:p.nextC x.agreed.n with
    | none =>
     refine Ag λK=>?_;have N24:NS i nb ob g22 w22 p ls ts:=(nsC hN hO (((((c1.n c9).n c10).n c18).n c19).n c22) K);refine qC 2 (PD N24 (hB.ch ((((((c1.nil (TN i)).n c9).n c10).n c18).n c19).n c22) (Bi i)) hT x.agreed.n hq hba ho) ?_;rintro e' w25 ⟨rfl,b25⟩;refine⟨_,rfl,b25,?_⟩;have c25:=Cg.ofBelow (B:=w.heap.size) (T:=[]) (g:=g22) b25;refine qR [] 14 [0,0,3,0] λs26 g26 w26 c26=>?_;refine qE (.tuple #[]) λK=>?_;rw[show p.propose=p from by unfold Nod.propose;rw[if_neg h40,<- hn,ho]];exact⟨_,rfl,(nsC hN hO (((((((c1.n c9).n c10).n c18).n c19).n c22).n c25).n c26) K),((((((((c1.nil (TN i)).n c9).n c10).n c18).n c19).n c22).n c25).n c26)⟩
    | some c =>
     refine Ag λK=>?_;have N29:NS i nb ob g22 w22 p ls ts:=(nsC hN hO (((((c1.n c9).n c10).n c18).n c19).n c22) K);refine qC 2 (PD N29 (hB.ch ((((((c1.nil (TN i)).n c9).n c10).n c18).n c19).n c22) (Bi i)) hT x.agreed.n hq hba ho) ?_;rintro e' w30 ⟨rfl,b30⟩;refine⟨_,rfl,b30,?_⟩;have c30:=Cg.ofBelow (B:=w.heap.size) (T:=[]) (g:=g22) b30;refine qR [] 34 [0,0,3,0,11,0,2,2,4,6,8,10,12,0,14,3,16,19,0,0,21,4,0,2,4] λs31 g31 w31 c31=>?_;refine qS 2 [false,false,true,true,true] hN hO (((((((c1.n c9).n c10).n c18).n c19).n c22).n c30).n c31) (λN32=>Ng N32 (hB.ch ((((((((c1.nil (TN i)).n c9).n c10).n c18).n c19).n c22).n c30).n c31) (Bi i)) hT (⟨(x.agreed.n:Int),p.rnd.bal,c⟩:Vt) hvo) λg32 w32 x32 lt32 tl32 hN32 hO32 c32=>?_;refine qR [] 2 [] λs34 g34 w34 c34=>?_;by_cases h5:(p.vote (⟨(x.agreed.n:Int),p.rnd.bal,c⟩:Vt)).2≠0
     .refine qI (((p.vote (⟨(x.agreed.n:Int),p.rnd.bal,c⟩:Vt)).2 != 0)) true (by simpa using h5) ?_;refine qE (.tuple #[]) λK=>?_;rw[show p.propose=(p.vote (⟨(x.agreed.n:Int),p.rnd.bal,c⟩:Vt)).1 from by rw[T6 h5];unfold Nod.propose;rw[if_neg h40,<- hn,ho];exact if_pos h5];exact⟨_,rfl,(nsC hN32 hO32 c34 K),((((((((((c1.nil (TN i)).n c9).n c10).n c18).n c19).n c22).n c30).n c31).trans (c32)).n c34)⟩
     .refine qI (((p.vote (⟨(x.agreed.n:Int),p.rnd.bal,c⟩:Vt)).2 != 0)) false (by simpa using h5) ?_;refine qR [] 5 [0] λs37 g37 w37 c37=>?_;refine qV 2 (iv ((x.agreed.n:Int)+1)) (AD (x:=(.tmp 55)) (y:=(.const (iv 1))) (x.agreed.n:Int) 1 underlying3 (by omega)) ?_;refine qR [.n 0 i] 9 [3,1,0] λs38 g38 w38 c38=>?_;rw[show p.propose=Nod.wait { (p.vote (⟨(x.agreed.n:Int),p.rnd.bal,c⟩:Vt)).1 with rnd:={ (p.vote (⟨(x.agreed.n:Int),p.rnd.bal,c⟩:Vt)).1.rnd with next:=x.agreed.n+1 } } (.prop (⟨(x.agreed.n:Int),p.rnd.bal,c⟩:Vt))from by unfold Nod.propose;rw[if_neg h40,<- hn,ho,YM];exact if_neg h5];refine Ag λK=>?_;obtain⟨z1,z2⟩:=K.isZ 0 (s1 0) (.cells #[pt nb 0] 97) false (by kernel_rfl);obtain⟨z3,z4⟩:=K.isZ 2 (s31 1) (.cells (vtA (⟨(x.agreed.n:Int),p.rnd.bal,c⟩:Vt)) 166) false (by kernel_rfl);have C40:=((c34.nil ([.n 0 i]:List Tg)).n c37).trans (c38);have N39:NS i nb ob g38 w38 ({ (p.vote (⟨(x.agreed.n:Int),p.rnd.bal,c⟩:Vt)).1 with rnd:={ (p.vote (⟨(x.agreed.n:Int),p.rnd.bal,c⟩:Vt)).1.rnd with next:=x.agreed.n+1 } }) ls ts:=⟨x32,lt32,tl32,K.ndu 3 hN32 C40,hO32.ch C40 (hn:=by simp<;>omega),K.new⟩;refine qS0 2 [true,true,true,false,false] (AM N39 (by show(p.vote (⟨(x.agreed.n:Int),p.rnd.bal,c⟩:Vt)).1.pend.length<_;rw[NB];exact hb) _ _ (.prop (⟨(x.agreed.n:Int),p.rnd.bal,c⟩:Vt)) ⟨(s1 0),(s31 1),rfl,⟨z1,z2⟩,⟨z3,z4⟩⟩) λg39 w39 x39 lt39 tl39 hN39 hO39 c39=>?_;refine qR [] 1 [] λs41 g41 w41 c41=>?_;exact qF hN39 hO39 c41 ((((((((((((((c1.nil (TN i)).n c9).n c10).n c18).n c19).n c22).n c30).n c31).trans (c32)).n c34).n c37).trans (c38.mono (by simp[TN]))).trans (c39)).n c41)
end
end Go.Proofs.YtalbmmghmoggcadGreatDoor
