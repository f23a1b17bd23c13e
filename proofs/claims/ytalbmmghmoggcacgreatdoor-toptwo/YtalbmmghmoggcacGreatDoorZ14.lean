/- Part 14 of the walk. -/
import Derived.StillTailTactics
import Derived.Test.YtalbmmghmoggcacGreatDoorZ2
import Derived.Test.YtalbmmghmoggcacGreatDoorZ13
set_option maxRecDepth 100000
set_option maxHeartbeats 4000000
open Go.Proofs.Tryz
set_option linter.unusedVariables false
namespace Go.Proofs.YtalbmmghmoggcacGreatDoor
open Go.RowKit
theorem btr{w w1 w2:World}(a:Bw w w1)(b:Bw w1 w2):Bw w w2:=a.trans (b.mono a.size)
def lB(L:List Sh):List Nat:=L.filterMap λx=>match x.t with|.l=>some x.g|_=>none
def gK(L:List Sh):Gh:=⟨λb=>if(lB L).elem b then .l else .z,λ_=>0⟩
def zl(L:List Sh):Bool:=L.all λx=>match x.t with|.n _ _=>false|_=>true
theorem KE{L:List Sh}{b:Nat}:b∈lB L↔∃ x∈L,x.t=.l/\x.g=b:=by
 unfold lB;rw[List.mem_filterMap];constructor
 .rintro⟨x,hx,h⟩;cases ht:x.t<;>rw[ht]at h<;>simp at h;exact⟨x,hx,ht,h⟩
 .rintro⟨x,hx,ht,rfl⟩;exact⟨x,hx,by rw[ht]⟩
section
variable{P:Program}{fn:Func}{R:Ending->World->Prop}{B:Nat}{T:List Tg}{g:Gh}{w:World}
section
variable{L L':List Sh}{S:Sem Value}{f:FuncId}{s:Xs}{w':World}
theorem Kn.re(h:Kn B g w L)(hz:zl L=true):Kn B (gK L) w L:=by
 refine⟨λx hx=>?_,h.nod,λb hb=>⟨?_,rfl⟩,h.base⟩
 .have h1:=h.row x hx;refine⟨h1.1,?_,h1.2.2.1,λ_=>rfl⟩;show(if(lB L).elem x.g then Tg.l else Tg.z)=x.t;cases ht:x.t with
  | l=>rw[if_pos (by rw[kr];exact I' (KE.2 ⟨x,hx,ht,rfl⟩))]
  | n r i=>have:=jo.1 hz x hx;rw[ht]at this;cases this
  | z =>
   rw[if_neg];rw[kr];intro hc;obtain⟨y,hy,hyt,hyg⟩:=KE.1 (jb hc);have hne:x≠y:=λe=>by rw[e,hyt]at ht;cases ht
   have:(x.g=y.g->(x.t=.z/\x.w=false)/\y.t=.z/\y.w=false)\/(y.g=x.g->(y.t=.z/\y.w=false)/\x.t=.z/\x.w=false):=by
    obtain⟨i,hi,rfl⟩:=j4 hx;obtain⟨j,hj,rfl⟩:=j4 hy;rcases kO i j with h1|h1|h1
    .exact .inl (jH.1 h.nod i j hi hj h1)
    .subst h1;exact absurd rfl hne
    .exact .inr (jH.1 h.nod j i hj hi h1)
   rcases this with h2|h2
   .have:=(h2 hyg.symm).2.1;rw[hyt]at this;cases this
   .have:=(h2 hyg).1.1;rw[hyt]at this;cases this
 .show(if(lB L).elem b then Tg.l else Tg.z)=.z;rw[if_neg];rw[kr];intro hc;obtain⟨y,hy,_,hyg⟩:=KE.1 (jb hc);have:=(G'.1 (h.row y hy).1).1;omega
def GK(P:Program)(fn:Func)(R:Ending->World->Prop)(B:Nat)(s:Xs)(w:World):Prop:=GG P fn R B [] s (gK s.L) w
theorem kIn{args:Array Value}(hf:P.funcs[f]?=some fn)(h:GK P fn R w.heap.size ⟨[.c (Oy fn)],⟨fn.ntmps,Ni 0 args.toList,λ_=>undef⟩,[]⟩ w)(hb:fn.body.isSome=true:=by kernel_rfl)(hn:Nat.ble args.size fn.ntmps=true:=by kernel_rfl):Calls P f args w R:=gIn [] (gK []) hf hb hn (λ_ _=>⟨rfl,rfl⟩) h
theorem Zl{g':Gh}(c:Cg B [] (gK s.L) w g' w')(hK:Kn B g w s.L)(hK':Kn B g' w' L')(hs:(L'.take s.L.length).map (λx=>(x.g,x.o))=s.L.map (λx=>(x.g,x.o))):Bw w w':=by
 refine⟨c.os,c.tape,c.output,c.size,λb hb=>?_⟩;by_cases hc:b∈lB s.L
 .obtain⟨x,hx,_,rfl⟩:=KE.1 hc;have h1:(x.g,x.o)∈(L'.take s.L.length).map (λx=>(x.g,x.o)):=by rw[hs];exact i9.2 ⟨x,hx,rfl⟩
  obtain⟨y,hy,he⟩:=i9.1 h1;injection he with e1 e2
  have h2:=(hK'.row y (iM hy)).1;rw[<- e1,h2,e2,e1];exact(hK.row x hx).1.symm
 .refine c.same b hb H' (λh=>?_);have:(if(lB s.L).elem b then Tg.l else Tg.z)=.l:=h;rw[if_neg (by rw[kr];simpa using hc)]at this
  cases this
theorem kR(m:Nat)(h:List Nat)(hk:∀ gs w',Bw w w'->GK P fn R B (rn0 P [] gs m s h).s w')(hob:∀ gs,(rn0 P [] gs m s h).o.map Ob.l'=(rn0 P [] gs m s h).o.map Ob.r':=by intro _;kernel_rfl)(hz:∀ gs,zl (rn0 P [] gs m s h).s.L=true:=by intro _;kernel_rfl)(hs:∀ gs,((rn0 P [] gs m s h).s.L.take s.L.length).map (λx=>(x.g,x.o))=s.L.map (λx=>(x.g,x.o)):=by intro _;kernel_rfl):GK P fn R B s w :=
 Ag λhK=>Zm [] m h hob λgs g' w' c=>⟨λhK'=>(hk gs w' (Zl c hK hK' (hs gs))).ex (hK'.re (hz gs))⟩
structure Kept(L:List Sh)(w w':World):Prop where
 size:w.heap.size<=w'.heap.size
 rows:AN L w
 same:∀ b,b<w.heap.size->b∉lB L->w'.heap[b]?=w.heap[b]?
theorem kF(m:Nat)(h:List Nat)(hk:∀ gs w',Below B w w'->Kept s.L w w'->GK P fn R B (rn0 P [] gs m s h).s w')(hob:∀ gs,(rn0 P [] gs m s h).o.map Ob.l'=(rn0 P [] gs m s h).o.map Ob.r':=by intro _;kernel_rfl)(hz:∀ gs,zl (rn0 P [] gs m s h).s.L=true:=by intro _;kernel_rfl):GK P fn R B s w :=
 Ag λhK=>Zm [] m h hob λgs g' w' c=>⟨λhK'=>(hk gs w' ⟨c.os,c.tape,c.output,c.size,λb hb=>c.same b (iy hb hK.base) H' (λ_=>hb)⟩ ⟨c.size,hK.rows,λb hb hn=>c.same b hb H' λh=>by
  have h2:(if(lB s.L).elem b then Tg.l else Tg.z)=.l:=h;rw[if_neg (by rw[kr];simpa using hn)]at h2
  cases h2⟩).ex (hK'.re (hz gs))⟩
def noU(L:List Sh):Bool:=L.all λx=>match x.t,x.o with|.l,.cells c _ _=>c.all (λv=>match v with|.int .u8 _=>false|_=>true)|.l,_=>false|_,_=>true
theorem Sl.kept{x:Value}{l:List Int}(h:Sl w x l)(k:Kept L w w')(hno:noU L=true:=by kernel_rfl):Sl w' x l:=by
 obtain⟨⟨a,cap,hv,hc,hn,h1⟩,h2,h3⟩:=h;refine⟨⟨a,cap,hv,hc,hn,?_⟩,h2,h3⟩;rcases h1 with h1|⟨b,off,ha,hbs,hcell⟩
 .exact .inl h1
 .by_cases hl:l=[]
  .exact .inl hl
  .refine .inr ⟨b,off,ha,iy hbs k.size,λi hi=>?_⟩;have hb:b∉lB L:=by
    intro hb;obtain⟨y,hy,hyt,rfl⟩:=KE.1 hb;have hr:=k.rows y hy;have hu:=jo.1 hno y hy;have hi0:0<l.length:=List.length_pos_iff.2 hl;have hc0:=hcell 0 hi0;rw[hyt]at hu
    cases ho:y.o with
    | cells c e fr =>
     rw[ho]at hu hr
     rw[cell_of_row _ _ _ _ _ _ hr]at hc0
     have:=Array.all_eq_true.1 hu (off+0) (G'.1 hc0).1;rw[(G'.1 hc0).2]at this
     cases this
    | _=>rw[ho]at hu;cases hu
   rw[World.cell?_of_block (w:=w) (k.same b hbs hb)];exact hcell i hi
theorem bS(s:Xs)(i:Nat)(v:Value)(hob:(nxt s i undef s.L).o.map Ob.l'=(nxt s i undef s.L).o.map Ob.r'):(nxt s i v s.L).s.L=s.L:=by
 obtain⟨K,f,L⟩:=s;unfold nxt;cases K with
 | nil=>rfl
 | cons t K=>cases t<;>first|rfl|(simp only;repeat' split)<;>rfl
theorem gw(s:Xs)(i:Nat)(v:Value)(ld:Bool):(tkN s i v ld).s.L=s.L:=by
 obtain⟨K,f,L⟩:=s;unfold tkN;cases K with
 | nil=>rfl
 | cons t K=>cases t<;>first|rfl|(simp only;repeat' split)<;>rfl
theorem GK.of{s':Xs}(h:GK P fn R B s' w)(e:s'.L=s.L):GG P fn R B [] s' (gK s.L) w:=by rw[<- e];exact h
theorem kV(i:Nat)(v:Value)(hr:S.run P w=.ok v w)(hk:GK P fn R B (nxt s i v s.L).s w)(hs:CU s i=some (S>>=λv=>pure (.value v)):=by kernel_rfl)(hob:(nxt s i undef s.L).o.map Ob.l'=(nxt s i undef s.L).o.map Ob.r':=by kernel_rfl):GK P fn R B s w:=qV i v hr (hk.of (bS s i v hob)) hs hob
theorem kT(i:Nat)(v:Value)(hr:∀ W,S.run P W=.ok v W)(hk:GK P fn R B (tkN s i v false).s w)(hs:CU s i=some (S>>=λv=>pure (.value v)):=by kernel_rfl)(hob:(tkN s i undef false).o.map Ob.l'=(tkN s i undef false).o.map Ob.r':=by kernel_rfl):GK P fn R B s w:=qT i v hr (hk.of (gw s i v false)) hs hob
theorem YT(s:Xs)(t:Bool):(Ko s t).L=s.L:=by unfold Ko;split<;>rfl
theorem kI(b t:Bool)(hb:b=t)(h:GK P fn R B (Ko s t) w)(hc:OE s=.bool b:=by kernel_rfl):GK P fn R B s w:=qI b t hb (h.of (YT s t)) hc
theorem kC(i:Nat){av:Array Value}{C:Ending->World->Prop}(hc:Calls P f av w C)(hk:∀ e w',C e w'->∃ v,e=.returned v/\Bw w w'/\GK P fn R B (nxt s i v s.L).s w')(hr:∀ W,CV P s i W=some (.ok (.enter f av) W):=by intro _;kernel_rfl)(hd:LI s i=true:=by kernel_rfl)(hob:(nxt s i undef s.L).o.map Ob.l'=(nxt s i undef s.L).o.map Ob.r':=by kernel_rfl):GK P fn R B s w:=qC i hc (λe w' h=>let ⟨v,h1,h2,h3⟩:=hk e w' h;⟨v,h1,h2,h3.of (bS s i v hob)⟩) hr hd hob
theorem kE(v:Value)(h:R (.returned v) w)(hr:Kn B (gK s.L) w s.L->(results fn s.f.act.tmps).run P w=.ok v w:=by intro _;kernel_rfl)(hs:LJ s.K=true:=by kernel_rfl):GK P fn R B s w:=qE v (λ_=>h) hr hs
theorem WI(n:Nat)(Inv:World->List (Nat × Value)->List Sh->Prop)(h1:∀ J:Act->World->Prop,(∀ w' e z L,Inv w' e L->Kn B (gK L) w' L->J (⟨n,e,z⟩:Fm).act w')->GK P fn R B (VP s J) w)(h2:∀ w' e z L,Inv w' e L->GK P fn R B ⟨s.K.tail,⟨n,e,z⟩,L⟩ w')(hs:s.K.isEmpty=false:=by kernel_rfl):GK P fn R B s w:=by
 refine BV n (λg' w' e L=>Inv w' e L/\g'=gK L) hs (λJ hJ=>?_) ?_
 .have:=h1 J λw' e z L hI hK=>hJ (gK L) w' e z L ⟨hI,rfl⟩ hK;exact this.of (by obtain⟨K,f,L⟩:=s;unfold VP;cases K<;>rfl)
 .rintro g' w' e z L ⟨hI,rfl⟩;exact h2 w' e z L hI
theorem kB{J:Act->World->Prop}{n:Nat}{e:List (Nat × Value)}(m:List Bool)(h:∀ z,Kn B (gK L') w L'->J (⟨n,e,z⟩:Fm).act w)(hi:isJ s.K=true:=by kernel_rfl)(hJ:jK s.K=J:=by kernel_rfl)(hn:s.f.n=n:=by kernel_rfl)(he:e.map (λp=>lk s.f.z s.f.e p.1)=e.map (·.2):=by kernel_rfl)(hL:Bz (AC m s.L)=L':=by kernel_rfl)(hz:zl L'=true:=by kernel_rfl):GK P fn R B s w:=qB m (λz _ K=>h z (K.re hz)) hi hJ hn he hL
theorem Uh(i j:Nat)(h1:GK P fn R B (IL s i) w)(h2:GK P fn R B (IL s j) w)(hb:aX s i j=true:=by kernel_rfl):GK P fn R B s w :=
 have e:∀ i,(IL s i).L=s.L:=λi=>by unfold IL;split<;>rfl
 CL i j hb (h1.of (e i)) (h2.of (e j))
end
end
section
variable{B g:Nat}{l:List Int}{n:Int}{w:World}{x:S3}{y:Value}
theorem Cc{a:World}(h:Below B a w)(hg:B<=g)(cs:Array Value):Below B a (w.setRow g cs) :=
 h.trans ⟨rfl,rfl,rfl,by simp,λk hk=>setRow_other w g k cs (by omega)⟩
def ptA(g:Nat):Array Value:=#[.pointer (some ⟨g,0,none⟩),.pointer (some ⟨g,1,none⟩),.pointer (some ⟨g,2,none⟩),.pointer (some ⟨g,3,none⟩),.pointer (some ⟨g,4,none⟩)]
theorem ai(g:Nat):(ptA g).all (·.oneCell')=true:=by simp[ptA,Value.oneCell']
def Rp:Array Value:=#[.pointer none,.pointer none,.pointer none,.pointer none,.pointer none]
theorem dQ(g:Nat):(prog.info? 154).map (·.size)=some (ptA g).size:=by show _=some 5;kernel_rfl
theorem P6(g:Nat)(j:Nat)(hj:j<5):∀ W,(Instr.index 154 (.agg (ptA g)) (.int .i64 (j:Int))).run prog W=.ok (.pointer (some ⟨g,j,none⟩)) W:=by
 intro W;rcases(by omega:j=0\/j=1\/j=2\/j=3\/j=4)with rfl|rfl|rfl|rfl|rfl
 all_goals kernel_rfl
theorem Gy(g:Nat)(w:World) :
  Calls prog 75 #[.pointer (some ⟨g,0,none⟩)] w λe w'=>e=.returned (.agg (ptA g))/\Bw w w':=by
 have bb:Bw w (w.alloc (.cells Rp 154)):=(Below.refl _ _).alloc (A' _) _;have rr:=heap_alloc_new w (.cells Rp 154);have hi:=dQ g;go_enter func75,ntmps75
 go_wp2_with fail
 refine Ar 16 (by kernel_rfl) (by kernel_rfl) ?_;simp only[ju,jC,jz,jS]
 repeat (go_big_quiet_step (fail))
 refine wpQuiet_nil ?_;have rr':(w.alloc (.cells Rp 154)).drew.heap[w.heap.size]?=some (.cells Rp 154):=rr;have bb':Bw w (w.alloc (.cells Rp 154)).drew:=bb.drew;have hn:Rp=#[.pointer none,.pointer none,.pointer none,.pointer none,.pointer none]:=rfl;rw[<- hn];generalize (w.alloc (.cells Rp 154)).drew=W at rr' bb';go_wp2_with (refine wpList_store_row rfl 154 (.tmp 2) (.tmp 18) rfl w.heap.size (ptA g) rfl rfl 154 _ rr' hi rfl (ai g) ?_)
 have r2:=setRow_heap W w.heap.size _ (ptA g) 154 _ rr';exact bodyPost_ret (v:=.agg (ptA g)) (results_cell_row rfl _ _ w.heap.size 154 _ (0,0) _ rfl r2 underlying154 rfl hi) rfl ⟨rfl,Cc bb' (A' _) _⟩
theorem Sl.one2O(w:World)(b b':Int)(e:TypeId)(hg:g=w.heap.size)(hb:0<=b/\b<256)(he:b'=b):Sl (w.alloc (.cells #[.int .u8 b'] e)) (.slice (some ⟨g,0,none⟩) 1 1) [b]:=by
 subst he;exact Sl.one w b' e hg hb
theorem ao(l:List Int)(n:Int)(j:Nat)(hl:l.length<=100000):(l++(Ad n).take j).length+1<=140737488355328:=by
 have:((Ad n).take j).length<=4:=by rw[X'];exact Nat.min_le_right _ _
 rw[M'];omega
theorem G0(v:Value)(l:List Int)(n:Int)(B:Nat)(w:World)(ho:w.ownsRow B 5 1 v l.length (l.map (Value.int .u8)))(hB:B<=w.heap.size)(hl:l.length<=100000)(n0:0<=n)(n1:n<2147483648) :
  Calls prog 76 #[v,.int .i64 n] w λe w'=>∃ v',e=.returned v'/\w'.ownsRow B 5 1 v' (l++Ad n).length ((l++Ad n).map (Value.int .u8))/\Below B w w':=by
 have HO0:Hid (w.ownsRow B 5 1 v (l++(Ad n).take 0).length ((l++(Ad n).take 0).map (Value.int .u8))):=by unfold Hid;simpa using ho
 clear ho;go_enter func76,ntmps76
 go_wp2_with fail
 go_loopw [0,5] (λv iv wr=>∃ j:Nat,j<=4/\iv=.int .i64 (3-(j:Int))/\wr.ownsRow B 5 1 v (l++(Ad n).take j).length ((l++(Ad n).take j).map (Value.int .u8))/\Below B w wr) (λ_ iv _=>(intOf iv+1).toNat)
 case atStart=>exact⟨0,by omega,rfl,HO0.out,Below.refl _ _⟩
 case round =>
  obtain⟨j,hj,rfl,hown,hbel⟩:=hrel;clear HO0;have hlt:=hown.lt;have hz:B<=wr.heap.size:=iB hB hbel.size;have HL:=ao l n;by_cases hj4:j<4
  .rcases(by omega:j=0\/j=1\/j=2\/j=3)with rfl|rfl|rfl|rfl
   .rw[show(3:Int)-((0:Nat):Int)=3 from rfl];have hx:Hid (l++(Ad n).take 1=l++(Ad n).take 0++[n/16777216%256]):=by unfold Hid;rw[iD];rfl
    have hLL:=HL 0 hl;clear HL;generalize l++(Ad n).take 0=L at hown hx hLL;go_wp2_with (at_builtin;refine Aa _ rfl _ _ 24 rfl B 5 underlying24 At _ _ rfl rfl L [n/16777216%256] (hown.alloc _) (Sl.one2O _ (n/16777216%256) _ _ rfl (by omega) (by omega)) hLL (by simp;omega) ?_)
    intro v2 w2 ho2 hg2;have hb2:Below B w w2:=(hbel.alloc hz _).grown hg2 (by simp;omega) (λk hk=>(hlt k hk).1);have HO2:Hid (w2.ownsRow B 5 1 v2 (l++(Ad n).take 1).length ((l++(Ad n).take 1).map (Value.int .u8))):=by
     unfold Hid;rw[hx.out];simpa using ho2
    clear ho2 hg2 hown hlt hbel hLL hx;go_wp2
    go_roundw
    case rel=>exact⟨1,by omega,rfl,HO2.out,hb2⟩
    case measure=>simp[intOf]
   .rw[show(3:Int)-((1:Nat):Int)=2 from rfl];have hx:Hid (l++(Ad n).take 2=l++(Ad n).take 1++[n/65536%256]):=by unfold Hid;rw[iD];rfl
    have hLL:=HL 1 hl;clear HL;generalize l++(Ad n).take 1=L at hown hx hLL;go_wp2_with (at_builtin;refine Aa _ rfl _ _ 24 rfl B 5 underlying24 At _ _ rfl rfl L [n/65536%256] (hown.alloc _) (Sl.one2O _ (n/65536%256) _ _ rfl (by omega) (by omega)) hLL (by simp;omega) ?_)
    intro v2 w2 ho2 hg2;have hb2:Below B w w2:=(hbel.alloc hz _).grown hg2 (by simp;omega) (λk hk=>(hlt k hk).1);have HO2:Hid (w2.ownsRow B 5 1 v2 (l++(Ad n).take 2).length ((l++(Ad n).take 2).map (Value.int .u8))):=by
     unfold Hid;rw[hx.out];simpa using ho2
    clear ho2 hg2 hown hlt hbel hLL hx;go_wp2
    go_roundw
    case rel=>exact⟨2,by omega,rfl,HO2.out,hb2⟩
    case measure=>simp[intOf]
   .rw[show(3:Int)-((2:Nat):Int)=1 from rfl];have hx:Hid (l++(Ad n).take 3=l++(Ad n).take 2++[n/256%256]):=by unfold Hid;rw[iD];rfl
    have hLL:=HL 2 hl;clear HL;generalize l++(Ad n).take 2=L at hown hx hLL;go_wp2_with (at_builtin;refine Aa _ rfl _ _ 24 rfl B 5 underlying24 At _ _ rfl rfl L [n/256%256] (hown.alloc _) (Sl.one2O _ (n/256%256) _ _ rfl (by omega) (by omega)) hLL (by simp;omega) ?_)
    intro v2 w2 ho2 hg2;have hb2:Below B w w2:=(hbel.alloc hz _).grown hg2 (by simp;omega) (λk hk=>(hlt k hk).1);have HO2:Hid (w2.ownsRow B 5 1 v2 (l++(Ad n).take 3).length ((l++(Ad n).take 3).map (Value.int .u8))):=by
     unfold Hid;rw[hx.out];simpa using ho2
    clear ho2 hg2 hown hlt hbel hLL hx;go_wp2
    go_roundw
    case rel=>exact⟨3,by omega,rfl,HO2.out,hb2⟩
    case measure=>simp[intOf]
   .rw[show(3:Int)-((3:Nat):Int)=0 from rfl];have hx:Hid (l++(Ad n).take 4=l++(Ad n).take 3++[n%256]):=by unfold Hid;rw[iD];rfl
    have hLL:=HL 3 hl;clear HL;generalize l++(Ad n).take 3=L at hown hx hLL;go_wp2_with (at_builtin;refine Aa _ rfl _ _ 24 rfl B 5 underlying24 At _ _ rfl rfl L [n%256] (hown.alloc _) (Sl.one2O _ (n%256) _ _ rfl (by omega) (by omega)) hLL (by simp;omega) ?_)
    intro v2 w2 ho2 hg2;have hb2:Below B w w2:=(hbel.alloc hz _).grown hg2 (by simp;omega) (λk hk=>(hlt k hk).1);have HO2:Hid (w2.ownsRow B 5 1 v2 (l++(Ad n).take 4).length ((l++(Ad n).take 4).map (Value.int .u8))):=by
     unfold Hid;rw[hx.out];simpa using ho2
    clear ho2 hg2 hown hlt hbel hLL hx;go_wp2
    go_roundw
    case rel=>exact⟨4,by omega,rfl,HO2.out,hb2⟩
    case measure=>simp[intOf]
  .obtain rfl:j=4:=by omega
   rw[show(3:Int)-((4:Nat):Int)=-1 from rfl];have HO:Hid _:=hown;clear hown hlt HL;go_wp2
   go_ret;exact⟨_,rfl,HO.out,hbel⟩
theorem Sl.spotO{a:Option Addr}{n cap:Nat}(h:Sl w (.slice a n cap) l)(k:Nat)(hk:k<l.length):∃ bd od,a=some ⟨bd,od,none⟩/\bd<w.heap.size/\w.cell? ⟨bd,od+k,none⟩=some (.int .u8 (l.getD k 0)):=by
 obtain⟨⟨a',cap',e,hc,hn,h1⟩,hla,hba⟩:=h;simp only[Value.slice.injEq]at e;obtain⟨rfl,rfl,rfl⟩:=e;rcases h1 with rfl|⟨b,off,rfl,hb,hcell⟩
 .simp at hk
 .exact⟨b,off,rfl,hb,hcell k hk⟩
theorem IF(h:Sl w x.v l):x.n=l.length:=by obtain⟨a,cap,hh⟩:=h.shapeT;simp only[S3.v,Value.slice.injEq]at hh;exact hh.2.1
theorem aY:prog.underlying 24=some (.slice (prog.elem 24)):=by kernel_rfl
theorem slB(h:Sl w x.v l)(lo:Nat)(hlo:lo<=l.length):∃ y:S3,(∀ W,(Instr.sliceAt 24 x.v (some (iv (lo:Int))) none none).run prog W=.ok y.v W)/\Sl w y.v (l.drop lo)/\y.n=l.length-lo:=by
 obtain⟨a',c',h1,h2⟩:=h.from lo hlo;refine⟨⟨a',x.n-lo,c'⟩,λW=>?_,h2,by rw[IF h]⟩;rw[run_sliceAt_slice _ _ _ _ _ _ aY];exact h1 W
theorem slT(h:Sl w x.v l)(hi:Nat)(hhi:hi<=l.length):∃ y:S3,(∀ W,(Instr.sliceAt 24 x.v none (some (iv (hi:Int))) none).run prog W=.ok y.v W)/\Sl w y.v (l.take hi):=by
 obtain⟨a',c',h1,h2⟩:=h.upTo hi hhi;refine⟨⟨a',hi,c'⟩,λW=>?_,h2⟩;rw[run_sliceAt_slice _ _ _ _ _ _ aY];exact h1 W
theorem PL(h:Sl w x.v l)(h0:0<l.length):∃ bd od,(∀ W,(Instr.indexAt 24 x.v (iv 0)).run prog W=.ok (pt bd od) W)/\bd<w.heap.size/\w.cell? ⟨bd,od,none⟩=some (.int .u8 (l.getD 0 0)):=by
 obtain⟨xa,xn,xc⟩:=x;have hn:xn=l.length:=IF h;obtain⟨bd,od,h1,h2,h3⟩:=h.spotO 0 h0;subst h1;exact⟨bd,od,λW=>P9 (P:=prog) (e:=5) (z:=1) (i:=0) underlying24 (by kernel_rfl) (by kernel_rfl) (by rw[hn];exact h0) od (by rw[Nat.mul_zero,j0]),h2,h3⟩
theorem UE{P:Program}{t:TypeId}{x y:Operand}{m:Int}{b:Bool}(h:(m==n)=b):(do Go.eqGuard .eql t x y (.int .u8 m) (.int .u8 n);Go.binOp .eql t (.int .u8 m) (.int .u8 n):Sem Value).run P w=.ok (.bool b) w:=by
 subst h;rfl
theorem rUi(h:0<=n/\n<256):(convert 5 3 (.int .u8 n)).run prog w=.ok (iv n) w:=bW (by kernel_rfl) underlying3 (by kernel_rfl) (by rw[IntKind.wrap_i64];omega)
theorem FC(h:w.ownsRow B 5 1 y l.length (l.map (Value.int .u8)))(hl:l.length<=140737488351232)(hb:∀ x∈l,0<=x/\x<256):∃ z:S3,y=z.v/\Sl w z.v l:=by
 have hs:=Sl.ofOwns h hl hb;obtain⟨a,cap,rfl⟩:=hs.shapeT;exact⟨⟨a,l.length,cap⟩,rfl,hs⟩
theorem Ta(hs:Sl w y l):∃ z:S3,y=z.v/\Sl w z.v l:=by
 obtain⟨a,cap,rfl⟩:=hs.shapeT;exact⟨⟨a,l.length,cap⟩,rfl,hs⟩
theorem DS(w:World):Sl w s30.v []:=⟨⟨none,0,rfl,A' _,λ_=>rfl,.inl rfl⟩,by simp,by simp⟩
theorem KK(x:Value)(d:List Int)(s:Int)(w:World)(h:Sl w x d) :
  Calls prog 106 #[.agg (tpA x s)] w λe w'=>e=.returned (.bool (decide (B2 d s)))/\Bw w w':=by
 have hlen:=h.len;obtain⟨ax,cp,rfl⟩:=h.shapeT;obtain⟨M,hM⟩:∃ M,d.length=M:=⟨_,rfl⟩;have HM:Hid (d.length=M):=hM;rw[hM]at hlen ⊢
 clear hM h;simp only[tpA];have bb:Bw w (w.alloc (.cells #[.slice ax M cp,.int .i64 s] 94)):=(Below.refl _ _).alloc (A' _) _;have rr:=heap_alloc_new w (.cells #[.slice ax M cp,.int .i64 s] 94);generalize hW:w.alloc (.cells #[.slice ax M cp,.int .i64 s] 94)=W0 at bb rr;have c0:W0.cell? ⟨w.heap.size,0,none⟩=some (.slice ax M cp):=cell_of_row _ _ 0 _ _ _ rr;have c1:W0.cell? ⟨w.heap.size,1,none⟩=some (.int .i64 s):=cell_of_row _ _ 1 _ _ _ rr;clear rr;have HT:Hid (B2 d s↔(M<=100000/\0<=s/\s<=(M:Int))):=by
  unfold Hid B2;rw[HM.out]
 by_cases h1:M<=100000
 .have h1i:(M:Int)<=100000:=by omega
  by_cases h2:0<=s
  .by_cases h3:s<=(M:Int)
   .go_enter func106,ntmps106
    go_wp2
    go_ret;exact⟨Ae (by rw[I' (HT.out.2 ⟨h1,h2,h3⟩)]),bb⟩
   .go_enter func106,ntmps106
    go_wp2
    go_ret;exact⟨Ae (by rw[D' (λg=>absurd (HT.out.1 g).2.2 (by omega))]),bb⟩
  .go_enter func106,ntmps106
   go_wp2
   go_ret;exact⟨Ae (by rw[D' (λg=>absurd (HT.out.1 g).2.1 (by omega))]),bb⟩
 .have h1i:¬ (M:Int)<=100000:=by omega
  go_enter func106,ntmps106
  go_wp2
  go_ret;exact⟨Ae (by rw[D' (λg=>absurd (HT.out.1 g).1 (by omega))]),bb⟩
theorem IU(x:Value)(d:List Int)(s:Int)(n:Nat)(w:World)(h:Sl w x d)(hn:n<=d.length) :
  Calls prog 107 #[.agg (tpA x s),.int .i64 (n:Int)] w λe w'=>∃ y,e=.returned (.agg (tpA y (n:Int)))/\w'.ownsRow w.heap.size 5 1 y n ((d.take n).map (Value.int .u8))/\Bw w w':=by
 have hlen:=h.len;obtain⟨ax,cp,rfl⟩:=h.shapeT;obtain⟨M,hM⟩:∃ M,d.length=M:=⟨_,rfl⟩;have HM:Hid (d.length=M):=hM;have HN:Hid (n<=d.length):=hn;obtain⟨t,ht⟩:∃ t,t=d.take n:=⟨_,rfl⟩;have HT:Hid (t=d.take n):=ht;rw[<- ht];clear ht;rw[hM]at h hlen hn ⊢
 clear hM;simp only[tpA];have r0:=heap_alloc2_old w (.cells #[.slice ax M cp,.int .i64 s] 94) (.cells #[.slice none 0 0,.int .i64 0] 94);have r1:=heap_alloc2_new w (.cells #[.slice ax M cp,.int .i64 s] 94) (.cells #[.slice none 0 0,.int .i64 0] 94);have bb:Bw w ((w.alloc (.cells #[.slice ax M cp,.int .i64 s] 94)).alloc (.cells #[.slice none 0 0,.int .i64 0] 94)):=((Below.refl _ _).alloc (A' _) _).alloc (by simp) _;have z0:((w.alloc (.cells #[.slice ax M cp,.int .i64 s] 94)).alloc (.cells #[.slice none 0 0,.int .i64 0] 94)).heap.size=w.heap.size+2:=by simp
 generalize hW:(w.alloc (.cells #[.slice ax M cp,.int .i64 s] 94)).alloc (.cells #[.slice none 0 0,.int .i64 0] 94)=W0 at r0 r1 bb z0;have s0:=h.below bb;have Z0:Hid (W0.heap.size=w.heap.size+2):=z0;have y0:w.heap.size+1<W0.heap.size:=by omega
 have y1:w.heap.size<W0.heap.size:=by omega
 clear z0;go_enter func107,ntmps107
 go_wp2_with ((with_reducible (refine Er ?_));at_make;refine LA _ rfl _ _ 24 rfl W0.heap.size 5 underlying24 At n rfl rfl (by omega) (A' _) ?_)
 clear hW;intro w1 o1 g1;have b1:Bw W0 w1:=(Below.refl _ _).grown g1 (A' _) (λk hk=>by cases hk);have q0:=(b1.block w.heap.size y1).trans r0;have q1:=(b1.block (w.heap.size+1) y0).trans r1;have s1:=s0.below b1;obtain⟨xs,o1⟩:=o1.out;have HO:Hid (w1.ownsRow W0.heap.size 5 1 (.slice (some ⟨W0.heap.size,0,none⟩) n n) n xs):=o1;have d1:=bb.trans (b1.mono bb.size);clear o1 r0 r1 g1;have c0:w1.cell? ⟨w.heap.size,0,none⟩=some (.slice ax M cp):=cell_of_row _ _ 0 _ _ _ q0;go_wp2_with ((with_reducible (refine Er ?_));refine L8 _ rfl _ _ 24 24 rfl W0.heap.size 5 underlying24 fd W0.heap.size n _ rfl HO.out _ rfl d HN.out s1 t HT.out ?_)
 intro w2 o2 b2;have HO2:Hid (w2.ownsRow W0.heap.size 5 1 (.slice (some ⟨W0.heap.size,0,none⟩) n n) n (t.map (Value.int .u8))):=o2;have e2:=b2.mono (show w.heap.size+2<=W0.heap.size by have:=Z0.out;omega);have p1:=(e2.block (w.heap.size+1) (by omega)).trans q1;have d2:=d1.trans (e2.mono (by omega));obtain⟨g,hg⟩:∃ g,W0.heap.size=g:=⟨_,rfl⟩;have HG:Hid (W0.heap.size=g):=hg;have z0:g=w.heap.size+2:=hg.symm.trans Z0.out;have Z1:Hid (g=w.heap.size+2):=z0;rw[hg]at HO2 ⊢
 clear o2 HO q0 q1 c0 hg z0 y0 y1 Z0;have on:=Ys (some ⟨g,0,none⟩) n n (n:Int);go_wp2_with ((with_reducible (refine Er ?_));refine wpList_store_row rfl 94 (.tmp 4) (.tmp 14) rfl (w.heap.size+1) #[.slice (some ⟨g,0,none⟩) n n,.int .i64 (n:Int)] rfl rfl 94 _ p1 Lt rfl on ?_)
 have q9:=setRow_heap w2 (w.heap.size+1) _ (#[.slice (some ⟨g,0,none⟩) n n,.int .i64 (n:Int)]) 94 _ p1;have d9:=CE d2 (show w.heap.size<=w.heap.size+1 by omega) (#[.slice (some ⟨g,0,none⟩) n n,.int .i64 (n:Int)]);have o9:(w2.setRow (w.heap.size+1) #[.slice (some ⟨g,0,none⟩) n n,.int .i64 (n:Int)]).ownsRow g 5 1 (.slice (some ⟨g,0,none⟩) n n) n (t.map (Value.int .u8)):=Df HO2.out (λk hk=>setRow_other _ _ _ _ (by have:=(HO2.out.lt k hk).1;have:=Z1.out;omega));refine bodyPost_ret (Yi rfl _ _ (w.heap.size+1) 94 _ (0,0) _ rfl q9 underlying94 rfl Lt) rfl ?_;exact⟨_,rfl,Fe o9 (by have:=Z1.out;omega),d9⟩
end
end Go.Proofs.YtalbmmghmoggcacGreatDoor
