/- Part 14 of the walk. -/
import Derived.StillTailTactics
import Derived.Test.YtalbmmghmoggcabGreatDoorZ2
import Derived.Test.YtalbmmghmoggcabGreatDoorZ13
set_option maxRecDepth 100000
set_option maxHeartbeats 4000000
open Go.Proofs.Tryz
set_option linter.unusedVariables false
namespace Go.Proofs.YtalbmmghmoggcabGreatDoor
open Go.RowKit
theorem btr{w w1 w2:World}(a:Bw w w1)(b:Bw w1 w2):Bw w w2:=a.trans (b.mono a.size)
def lB(L:List Sh):List Nat:=L.filterMap λx=>match x.t with|.l=>some x.g|_=>none
def gK(L:List Sh):Gh:=⟨λb=>if(lB L).elem b then .l else .z,λ_=>0⟩
def zl(L:List Sh):Bool:=L.all λx=>match x.t with|.n _ _=>false|_=>true
theorem JY{L:List Sh}{b:Nat}:b∈lB L↔∃ x∈L,x.t=.l/\x.g=b:=by
 unfold lB;rw[List.mem_filterMap];constructor
 .rintro⟨x,hx,h⟩;cases ht:x.t<;>rw[ht]at h<;>simp at h;exact⟨x,hx,ht,h⟩
 .rintro⟨x,hx,ht,rfl⟩;exact⟨x,hx,by rw[ht]⟩
section
variable{P:Program}{fn:Func}{R:Ending->World->Prop}{B:Nat}{T:List Tg}{g:Gh}{w:World}
section
variable{L L':List Sh}{S:Sem Value}{f:FuncId}{s:Xs}{w':World}
theorem Kn.re(h:Kn B g w L)(hz:zl L=true):Kn B (gK L) w L:=by
 refine⟨λx hx=>?_,h.nod,λb hb=>⟨?_,rfl⟩,h.base⟩
 .have h1:=h.row x hx;refine⟨h1.1,?_,h1.2.2.1,λ_=>rfl⟩;show(if(lB L).elem x.g then Tg.l else Tg.z)=x.t;cases ht:x.t with
  | l=>rw[if_pos (by rw[iF];exact I' (JY.2 ⟨x,hx,ht,rfl⟩))]
  | n r i=>have:=gn.1 hz x hx;rw[ht]at this;cases this
  | z =>
   rw[if_neg];rw[iF];intro hc;obtain⟨y,hy,hyt,hyg⟩:=JY.1 (gA hc);have hne:x≠y:=λe=>by rw[e,hyt]at ht;cases ht
   have:(x.g=y.g->(x.t=.z/\x.w=false)/\y.t=.z/\y.w=false)\/(y.g=x.g->(y.t=.z/\y.w=false)/\x.t=.z/\x.w=false):=by
    obtain⟨i,hi,rfl⟩:=ij hx;obtain⟨j,hj,rfl⟩:=ij hy;rcases iU i j with h1|h1|h1
    .exact .inl (gJ.1 h.nod i j hi hj h1)
    .subst h1;exact absurd rfl hne
    .exact .inr (gJ.1 h.nod j i hj hi h1)
   rcases this with h2|h2
   .have:=(h2 hyg.symm).2.1;rw[hyt]at this;cases this
   .have:=(h2 hyg).1.1;rw[hyt]at this;cases this
 .show(if(lB L).elem b then Tg.l else Tg.z)=.z;rw[if_neg];rw[iF];intro hc;obtain⟨y,hy,_,hyg⟩:=JY.1 (gA hc);have:=(G'.1 (h.row y hy).1).1;omega
def GK(P:Program)(fn:Func)(R:Ending->World->Prop)(B:Nat)(s:Xs)(w:World):Prop:=GG P fn R B [] s (gK s.L) w
theorem kIn{args:Array Value}(hf:P.funcs[f]?=some fn)(h:GK P fn R w.heap.size ⟨[.c (Nd fn)],⟨fn.ntmps,Mh 0 args.toList,λ_=>undef⟩,[]⟩ w)(hb:fn.body.isSome=true:=by kernel_rfl)(hn:Nat.ble args.size fn.ntmps=true:=by kernel_rfl):Calls P f args w R:=gIn [] (gK []) hf hb hn (λ_ _=>⟨rfl,rfl⟩) h
theorem XK{g':Gh}(c:Cg B [] (gK s.L) w g' w')(hK:Kn B g w s.L)(hK':Kn B g' w' L')(hs:(L'.take s.L.length).map (λx=>(x.g,x.o))=s.L.map (λx=>(x.g,x.o))):Bw w w':=by
 refine⟨c.os,c.tape,c.output,c.size,λb hb=>?_⟩;by_cases hc:b∈lB s.L
 .obtain⟨x,hx,_,rfl⟩:=JY.1 hc;have h1:(x.g,x.o)∈(L'.take s.L.length).map (λx=>(x.g,x.o)):=by rw[hs];exact fS.2 ⟨x,hx,rfl⟩
  obtain⟨y,hy,he⟩:=fS.1 h1;injection he with e1 e2
  have h2:=(hK'.row y (fK hy)).1;rw[<- e1,h2,e2,e1];exact(hK.row x hx).1.symm
 .refine c.same b hb H' (λh=>?_);have:(if(lB s.L).elem b then Tg.l else Tg.z)=.l:=h;rw[if_neg (by rw[iF];simpa using hc)]at this
  cases this
theorem kR(m:Nat)(h:List Nat)(hk:∀ gs w',Bw w w'->GK P fn R B (rn0 P [] gs m s h).s w')(hob:∀ gs,(rn0 P [] gs m s h).o.map Ob.l'=(rn0 P [] gs m s h).o.map Ob.r':=by intro _;kernel_rfl)(hz:∀ gs,zl (rn0 P [] gs m s h).s.L=true:=by intro _;kernel_rfl)(hs:∀ gs,((rn0 P [] gs m s h).s.L.take s.L.length).map (λx=>(x.g,x.o))=s.L.map (λx=>(x.g,x.o)):=by intro _;kernel_rfl):GK P fn R B s w :=
 Ae λhK=>XL [] m h hob λgs g' w' c=>⟨λhK'=>(hk gs w' (XK c hK hK' (hs gs))).ex (hK'.re (hz gs))⟩
structure Kept(L:List Sh)(w w':World):Prop where
 size:w.heap.size<=w'.heap.size
 rows:AJ L w
 same:∀ b,b<w.heap.size->b∉lB L->w'.heap[b]?=w.heap[b]?
theorem kF(m:Nat)(h:List Nat)(hk:∀ gs w',Below B w w'->Kept s.L w w'->GK P fn R B (rn0 P [] gs m s h).s w')(hob:∀ gs,(rn0 P [] gs m s h).o.map Ob.l'=(rn0 P [] gs m s h).o.map Ob.r':=by intro _;kernel_rfl)(hz:∀ gs,zl (rn0 P [] gs m s h).s.L=true:=by intro _;kernel_rfl):GK P fn R B s w :=
 Ae λhK=>XL [] m h hob λgs g' w' c=>⟨λhK'=>(hk gs w' ⟨c.os,c.tape,c.output,c.size,λb hb=>c.same b (Z' hb hK.base) H' (λ_=>hb)⟩ ⟨c.size,hK.rows,λb hb hn=>c.same b hb H' λh=>by
  have h2:(if(lB s.L).elem b then Tg.l else Tg.z)=.l:=h;rw[if_neg (by rw[iF];simpa using hn)]at h2
  cases h2⟩).ex (hK'.re (hz gs))⟩
def noU(L:List Sh):Bool:=L.all λx=>match x.t,x.o with|.l,.cells c _ _=>c.all (λv=>match v with|.int .u8 _=>false|_=>true)|.l,_=>false|_,_=>true
theorem Sl.kept{x:Value}{l:List Int}(h:Sl w x l)(k:Kept L w w')(hno:noU L=true:=by kernel_rfl):Sl w' x l:=by
 obtain⟨⟨a,cap,hv,hc,hn,h1⟩,h2,h3⟩:=h;refine⟨⟨a,cap,hv,hc,hn,?_⟩,h2,h3⟩;rcases h1 with h1|⟨b,off,ha,hbs,hcell⟩
 .exact .inl h1
 .by_cases hl:l=[]
  .exact .inl hl
  .refine .inr ⟨b,off,ha,Z' hbs k.size,λi hi=>?_⟩;have hb:b∉lB L:=by
    intro hb;obtain⟨y,hy,hyt,rfl⟩:=JY.1 hb;have hr:=k.rows y hy;have hu:=gn.1 hno y hy;have hi0:0<l.length:=List.length_pos_iff.2 hl;have hc0:=hcell 0 hi0;rw[hyt]at hu
    cases ho:y.o with
    | cells c e fr =>
     rw[ho]at hu hr
     rw[cell_of_row _ _ _ _ _ _ hr]at hc0
     have:=Array.all_eq_true.1 hu (off+0) (G'.1 hc0).1;rw[(G'.1 hc0).2]at this
     cases this
    | _=>rw[ho]at hu;cases hu
   rw[World.cell?_of_block (w:=w) (k.same b hbs hb)];exact hcell i hi
theorem Zv(s:Xs)(i:Nat)(v:Value)(hob:(nxt s i undef s.L).o.map Ob.l'=(nxt s i undef s.L).o.map Ob.r'):(nxt s i v s.L).s.L=s.L:=by
 obtain⟨K,f,L⟩:=s;unfold nxt;cases K with
 | nil=>rfl
 | cons t K=>cases t<;>first|rfl|(simp only;repeat' split)<;>rfl
theorem er(s:Xs)(i:Nat)(v:Value)(ld:Bool):(tkN s i v ld).s.L=s.L:=by
 obtain⟨K,f,L⟩:=s;unfold tkN;cases K with
 | nil=>rfl
 | cons t K=>cases t<;>first|rfl|(simp only;repeat' split)<;>rfl
theorem GK.of{s':Xs}(h:GK P fn R B s' w)(e:s'.L=s.L):GG P fn R B [] s' (gK s.L) w:=by rw[<- e];exact h
theorem kV(i:Nat)(v:Value)(hr:S.run P w=.ok v w)(hk:GK P fn R B (nxt s i v s.L).s w)(hs:CK s i=some (S>>=λv=>pure (.value v)):=by kernel_rfl)(hob:(nxt s i undef s.L).o.map Ob.l'=(nxt s i undef s.L).o.map Ob.r':=by kernel_rfl):GK P fn R B s w:=qV i v hr (hk.of (Zv s i v hob)) hs hob
theorem kT(i:Nat)(v:Value)(hr:∀ W,S.run P W=.ok v W)(hk:GK P fn R B (tkN s i v false).s w)(hs:CK s i=some (S>>=λv=>pure (.value v)):=by kernel_rfl)(hob:(tkN s i undef false).o.map Ob.l'=(tkN s i undef false).o.map Ob.r':=by kernel_rfl):GK P fn R B s w:=qT i v hr (hk.of (er s i v false)) hs hob
theorem X2(s:Xs)(t:Bool):(JG s t).L=s.L:=by unfold JG;split<;>rfl
theorem kI(b t:Bool)(hb:b=t)(h:GK P fn R B (JG s t) w)(hc:Nt s=.bool b:=by kernel_rfl):GK P fn R B s w:=qI b t hb (h.of (X2 s t)) hc
theorem kC(i:Nat){av:Array Value}{C:Ending->World->Prop}(hc:Calls P f av w C)(hk:∀ e w',C e w'->∃ v,e=.returned v/\Bw w w'/\GK P fn R B (nxt s i v s.L).s w')(hr:∀ W,CA P s i W=some (.ok (.enter f av) W):=by intro _;kernel_rfl)(hd:KT s i=true:=by kernel_rfl)(hob:(nxt s i undef s.L).o.map Ob.l'=(nxt s i undef s.L).o.map Ob.r':=by kernel_rfl):GK P fn R B s w:=qC i hc (λe w' h=>let ⟨v,h1,h2,h3⟩:=hk e w' h;⟨v,h1,h2,h3.of (Zv s i v hob)⟩) hr hd hob
theorem kE(v:Value)(h:R (.returned v) w)(hr:Kn B (gK s.L) w s.L->(results fn s.f.act.tmps).run P w=.ok v w:=by intro _;kernel_rfl)(hs:KU s.K=true:=by kernel_rfl):GK P fn R B s w:=qE v (λ_=>h) hr hs
theorem Vl(n:Nat)(Inv:World->List (Nat × Value)->List Sh->Prop)(h1:∀ J:Act->World->Prop,(∀ w' e z L,Inv w' e L->Kn B (gK L) w' L->J (⟨n,e,z⟩:Fm).act w')->GK P fn R B (U8 s J) w)(h2:∀ w' e z L,Inv w' e L->GK P fn R B ⟨s.K.tail,⟨n,e,z⟩,L⟩ w')(hs:s.K.isEmpty=false:=by kernel_rfl):GK P fn R B s w:=by
 refine BG n (λg' w' e L=>Inv w' e L/\g'=gK L) hs (λJ hJ=>?_) ?_
 .have:=h1 J λw' e z L hI hK=>hJ (gK L) w' e z L ⟨hI,rfl⟩ hK;exact this.of (by obtain⟨K,f,L⟩:=s;unfold U8;cases K<;>rfl)
 .rintro g' w' e z L ⟨hI,rfl⟩;exact h2 w' e z L hI
theorem kB{J:Act->World->Prop}{n:Nat}{e:List (Nat × Value)}(m:List Bool)(h:∀ z,Kn B (gK L') w L'->J (⟨n,e,z⟩:Fm).act w)(hi:isJ s.K=true:=by kernel_rfl)(hJ:jK s.K=J:=by kernel_rfl)(hn:s.f.n=n:=by kernel_rfl)(he:e.map (λp=>lk s.f.z s.f.e p.1)=e.map (·.2):=by kernel_rfl)(hL:Bj (AB m s.L)=L':=by kernel_rfl)(hz:zl L'=true:=by kernel_rfl):GK P fn R B s w:=qB m (λz _ K=>h z (K.re hz)) hi hJ hn he hL
theorem SK(i j:Nat)(h1:GK P fn R B (Iu s i) w)(h2:GK P fn R B (Iu s j) w)(hb:YV s i j=true:=by kernel_rfl):GK P fn R B s w :=
 have e:∀ i,(Iu s i).L=s.L:=λi=>by unfold Iu;split<;>rfl
 Cu i j hb (h1.of (e i)) (h2.of (e j))
end
end
section
variable{B g:Nat}{l:List Int}{n:Int}{w:World}{x:S3}{y:Value}
theorem BM{a:World}(h:Below B a w)(hg:B<=g)(cs:Array Value):Below B a (w.setRow g cs) :=
 h.trans ⟨rfl,rfl,rfl,by simp,λk hk=>setRow_other w g k cs (by omega)⟩
def ptA(g:Nat):Array Value:=#[.pointer (some ⟨g,0,none⟩),.pointer (some ⟨g,1,none⟩),.pointer (some ⟨g,2,none⟩),.pointer (some ⟨g,3,none⟩),.pointer (some ⟨g,4,none⟩)]
theorem Yz(g:Nat):(ptA g).all (·.oneCell')=true:=by simp[ptA,Value.oneCell']
def Qi:Array Value:=#[.pointer none,.pointer none,.pointer none,.pointer none,.pointer none]
theorem bE(g:Nat):(prog.info? 153).map (·.size)=some (ptA g).size:=by show _=some 5;kernel_rfl
theorem O3(g:Nat)(j:Nat)(hj:j<5):∀ W,(Instr.index 153 (.agg (ptA g)) (.int .i64 (j:Int))).run prog W=.ok (.pointer (some ⟨g,j,none⟩)) W:=by
 intro W;rcases(by omega:j=0\/j=1\/j=2\/j=3\/j=4)with rfl|rfl|rfl|rfl|rfl
 all_goals kernel_rfl
theorem FS(g:Nat)(w:World) :
  Calls prog 74 #[.pointer (some ⟨g,0,none⟩)] w λe w'=>e=.returned (.agg (ptA g))/\Bw w w':=by
 have bb:Bw w (w.alloc (.cells Qi 153)):=(Below.refl _ _).alloc (A' _) _;have rr:=heap_alloc_new w (.cells Qi 153);have hi:=bE g;go_enter func74,ntmps74
 go_wp2_with fail
 refine Aq 16 (by kernel_rfl) (by kernel_rfl) ?_;simp only[gl,gD,gw,gU]
 repeat (go_big_quiet_step (fail))
 refine wpQuiet_nil ?_;have rr':(w.alloc (.cells Qi 153)).drew.heap[w.heap.size]?=some (.cells Qi 153):=rr;have bb':Bw w (w.alloc (.cells Qi 153)).drew:=bb.drew;have hn:Qi=#[.pointer none,.pointer none,.pointer none,.pointer none,.pointer none]:=rfl;rw[<- hn];generalize (w.alloc (.cells Qi 153)).drew=W at rr' bb';go_wp2_with (refine wpList_store_row rfl 153 (.tmp 2) (.tmp 18) rfl w.heap.size (ptA g) rfl rfl 153 _ rr' hi rfl (Yz g) ?_)
 have r2:=setRow_heap W w.heap.size _ (ptA g) 153 _ rr';exact bodyPost_ret (v:=.agg (ptA g)) (results_cell_row rfl _ _ w.heap.size 153 _ (0,0) _ rfl r2 underlying153 rfl hi) rfl ⟨rfl,BM bb' (A' _) _⟩
theorem Sl.one2O(w:World)(b b':Int)(e:TypeId)(hg:g=w.heap.size)(hb:0<=b/\b<256)(he:b'=b):Sl (w.alloc (.cells #[.int .u8 b'] e)) (.slice (some ⟨g,0,none⟩) 1 1) [b]:=by
 subst he;exact Sl.one w b' e hg hb
theorem Y1(l:List Int)(n:Int)(j:Nat)(hl:l.length<=100000):(l++(Ag n).take j).length+1<=140737488355328:=by
 have:((Ag n).take j).length<=4:=by rw[fx];exact Nat.min_le_right _ _
 rw[N'];omega
theorem FV(v:Value)(l:List Int)(n:Int)(B:Nat)(w:World)(ho:w.ownsRow B 5 1 v l.length (l.map (Value.int .u8)))(hB:B<=w.heap.size)(hl:l.length<=100000)(n0:0<=n)(n1:n<2147483648) :
  Calls prog 75 #[v,.int .i64 n] w λe w'=>∃ v',e=.returned v'/\w'.ownsRow B 5 1 v' (l++Ag n).length ((l++Ag n).map (Value.int .u8))/\Below B w w':=by
 have HO0:Hid (w.ownsRow B 5 1 v (l++(Ag n).take 0).length ((l++(Ag n).take 0).map (Value.int .u8))):=by unfold Hid;simpa using ho
 clear ho;go_enter func75,ntmps75
 go_wp2_with fail
 go_loopw [0,5] (λv iv wr=>∃ j:Nat,j<=4/\iv=.int .i64 (3-(j:Int))/\wr.ownsRow B 5 1 v (l++(Ag n).take j).length ((l++(Ag n).take j).map (Value.int .u8))/\Below B w wr) (λ_ iv _=>(intOf iv+1).toNat)
 case atStart=>exact⟨0,by omega,rfl,HO0.out,Below.refl _ _⟩
 case round =>
  obtain⟨j,hj,rfl,hown,hbel⟩:=hrel;clear HO0;have hlt:=hown.lt;have hz:B<=wr.heap.size:=fy hB hbel.size;have HL:=Y1 l n;by_cases hj4:j<4
  .rcases(by omega:j=0\/j=1\/j=2\/j=3)with rfl|rfl|rfl|rfl
   .rw[show(3:Int)-((0:Nat):Int)=3 from rfl];have hx:Hid (l++(Ag n).take 1=l++(Ag n).take 0++[n/16777216%256]):=by unfold Hid;rw[fF];rfl
    have hLL:=HL 0 hl;clear HL;generalize l++(Ag n).take 0=L at hown hx hLL;go_wp2_with (at_builtin;refine Aa _ rfl _ _ 25 rfl B 5 underlying25 As _ _ rfl rfl L [n/16777216%256] (hown.alloc _) (Sl.one2O _ (n/16777216%256) _ _ rfl (by omega) (by omega)) hLL (by simp;omega) ?_)
    intro v2 w2 ho2 hg2;have hb2:Below B w w2:=(hbel.alloc hz _).grown hg2 (by simp;omega) (λk hk=>(hlt k hk).1);have HO2:Hid (w2.ownsRow B 5 1 v2 (l++(Ag n).take 1).length ((l++(Ag n).take 1).map (Value.int .u8))):=by
     unfold Hid;rw[hx.out];simpa using ho2
    clear ho2 hg2 hown hlt hbel hLL hx;go_wp2
    go_roundw
    case rel=>exact⟨1,by omega,rfl,HO2.out,hb2⟩
    case measure=>simp[intOf]
   .rw[show(3:Int)-((1:Nat):Int)=2 from rfl];have hx:Hid (l++(Ag n).take 2=l++(Ag n).take 1++[n/65536%256]):=by unfold Hid;rw[fF];rfl
    have hLL:=HL 1 hl;clear HL;generalize l++(Ag n).take 1=L at hown hx hLL;go_wp2_with (at_builtin;refine Aa _ rfl _ _ 25 rfl B 5 underlying25 As _ _ rfl rfl L [n/65536%256] (hown.alloc _) (Sl.one2O _ (n/65536%256) _ _ rfl (by omega) (by omega)) hLL (by simp;omega) ?_)
    intro v2 w2 ho2 hg2;have hb2:Below B w w2:=(hbel.alloc hz _).grown hg2 (by simp;omega) (λk hk=>(hlt k hk).1);have HO2:Hid (w2.ownsRow B 5 1 v2 (l++(Ag n).take 2).length ((l++(Ag n).take 2).map (Value.int .u8))):=by
     unfold Hid;rw[hx.out];simpa using ho2
    clear ho2 hg2 hown hlt hbel hLL hx;go_wp2
    go_roundw
    case rel=>exact⟨2,by omega,rfl,HO2.out,hb2⟩
    case measure=>simp[intOf]
   .rw[show(3:Int)-((2:Nat):Int)=1 from rfl];have hx:Hid (l++(Ag n).take 3=l++(Ag n).take 2++[n/256%256]):=by unfold Hid;rw[fF];rfl
    have hLL:=HL 2 hl;clear HL;generalize l++(Ag n).take 2=L at hown hx hLL;go_wp2_with (at_builtin;refine Aa _ rfl _ _ 25 rfl B 5 underlying25 As _ _ rfl rfl L [n/256%256] (hown.alloc _) (Sl.one2O _ (n/256%256) _ _ rfl (by omega) (by omega)) hLL (by simp;omega) ?_)
    intro v2 w2 ho2 hg2;have hb2:Below B w w2:=(hbel.alloc hz _).grown hg2 (by simp;omega) (λk hk=>(hlt k hk).1);have HO2:Hid (w2.ownsRow B 5 1 v2 (l++(Ag n).take 3).length ((l++(Ag n).take 3).map (Value.int .u8))):=by
     unfold Hid;rw[hx.out];simpa using ho2
    clear ho2 hg2 hown hlt hbel hLL hx;go_wp2
    go_roundw
    case rel=>exact⟨3,by omega,rfl,HO2.out,hb2⟩
    case measure=>simp[intOf]
   .rw[show(3:Int)-((3:Nat):Int)=0 from rfl];have hx:Hid (l++(Ag n).take 4=l++(Ag n).take 3++[n%256]):=by unfold Hid;rw[fF];rfl
    have hLL:=HL 3 hl;clear HL;generalize l++(Ag n).take 3=L at hown hx hLL;go_wp2_with (at_builtin;refine Aa _ rfl _ _ 25 rfl B 5 underlying25 As _ _ rfl rfl L [n%256] (hown.alloc _) (Sl.one2O _ (n%256) _ _ rfl (by omega) (by omega)) hLL (by simp;omega) ?_)
    intro v2 w2 ho2 hg2;have hb2:Below B w w2:=(hbel.alloc hz _).grown hg2 (by simp;omega) (λk hk=>(hlt k hk).1);have HO2:Hid (w2.ownsRow B 5 1 v2 (l++(Ag n).take 4).length ((l++(Ag n).take 4).map (Value.int .u8))):=by
     unfold Hid;rw[hx.out];simpa using ho2
    clear ho2 hg2 hown hlt hbel hLL hx;go_wp2
    go_roundw
    case rel=>exact⟨4,by omega,rfl,HO2.out,hb2⟩
    case measure=>simp[intOf]
  .obtain rfl:j=4:=by omega
   rw[show(3:Int)-((4:Nat):Int)=-1 from rfl];have HO:Hid _:=hown;clear hown hlt HL;go_wp2
   go_ret;exact⟨_,rfl,HO.out,hbel⟩
theorem Sl.spotO{a:Option Addr}{n cap:Nat}(h:Sl w (.slice a n cap) l)(k:Nat)(hk:k<l.length):∃ bd od,a=some ⟨bd,od,none⟩/\bd<w.heap.size/\w.cell? ⟨bd,od+k,none⟩=some (.int .u8 (l.getD k 0)):=by
 obtain⟨⟨a',cap',e,hc,hn,h1⟩,hla,hba⟩:=h;simp only[Value.slice.injEq]at e;obtain⟨rfl,rfl,rfl⟩:=e;rcases h1 with rfl|⟨b,off,rfl,hb,hcell⟩
 .simp at hk
 .exact⟨b,off,rfl,hb,hcell k hk⟩
theorem Im(h:Sl w x.v l):x.n=l.length:=by obtain⟨a,cap,hh⟩:=h.shapeT;simp only[S3.v,Value.slice.injEq]at hh;exact hh.2.1
theorem YW:prog.underlying 25=some (.slice (prog.elem 25)):=by kernel_rfl
theorem slB(h:Sl w x.v l)(lo:Nat)(hlo:lo<=l.length):∃ y:S3,(∀ W,(Instr.sliceAt 25 x.v (some (iv (lo:Int))) none none).run prog W=.ok y.v W)/\Sl w y.v (l.drop lo)/\y.n=l.length-lo:=by
 obtain⟨a',c',h1,h2⟩:=h.from lo hlo;refine⟨⟨a',x.n-lo,c'⟩,λW=>?_,h2,by rw[Im h]⟩;rw[run_sliceAt_slice _ _ _ _ _ _ YW];exact h1 W
theorem slT(h:Sl w x.v l)(hi:Nat)(hhi:hi<=l.length):∃ y:S3,(∀ W,(Instr.sliceAt 25 x.v none (some (iv (hi:Int))) none).run prog W=.ok y.v W)/\Sl w y.v (l.take hi):=by
 obtain⟨a',c',h1,h2⟩:=h.upTo hi hhi;refine⟨⟨a',hi,c'⟩,λW=>?_,h2⟩;rw[run_sliceAt_slice _ _ _ _ _ _ YW];exact h1 W
theorem OJ(h:Sl w x.v l)(h0:0<l.length):∃ bd od,(∀ W,(Instr.indexAt 25 x.v (iv 0)).run prog W=.ok (pt bd od) W)/\bd<w.heap.size/\w.cell? ⟨bd,od,none⟩=some (.int .u8 (l.getD 0 0)):=by
 obtain⟨xa,xn,xc⟩:=x;have hn:xn=l.length:=Im h;obtain⟨bd,od,h1,h2,h3⟩:=h.spotO 0 h0;subst h1;exact⟨bd,od,λW=>O6 (P:=prog) (e:=5) (z:=1) (i:=0) underlying25 (by kernel_rfl) (by kernel_rfl) (by rw[hn];exact h0) od (by rw[Nat.mul_zero,ic]),h2,h3⟩
theorem Tm{P:Program}{t:TypeId}{x y:Operand}{m:Int}{b:Bool}(h:(m==n)=b):(do Go.eqGuard .eql t x y (.int .u8 m) (.int .u8 n);Go.binOp .eql t (.int .u8 m) (.int .u8 n):Sem Value).run P w=.ok (.bool b) w:=by
 subst h;rfl
theorem rUi(h:0<=n/\n<256):(convert 5 3 (.int .u8 n)).run prog w=.ok (iv n) w:=Zz (by kernel_rfl) underlying3 (by kernel_rfl) (by rw[IntKind.wrap_i64];omega)
theorem Fg(h:w.ownsRow B 5 1 y l.length (l.map (Value.int .u8)))(hl:l.length<=140737488351232)(hb:∀ x∈l,0<=x/\x<256):∃ z:S3,y=z.v/\Sl w z.v l:=by
 have hs:=Sl.ofOwns h hl hb;obtain⟨a,cap,rfl⟩:=hs.shapeT;exact⟨⟨a,l.length,cap⟩,rfl,hs⟩
theorem RG(hs:Sl w y l):∃ z:S3,y=z.v/\Sl w z.v l:=by
 obtain⟨a,cap,rfl⟩:=hs.shapeT;exact⟨⟨a,l.length,cap⟩,rfl,hs⟩
theorem D7(w:World):Sl w s30.v []:=⟨⟨none,0,rfl,A' _,λ_=>rfl,.inl rfl⟩,by simp,by simp⟩
theorem Kc(x:Value)(d:List Int)(s:Int)(w:World)(h:Sl w x d) :
  Calls prog 105 #[.agg (tpA x s)] w λe w'=>e=.returned (.bool (decide (CR d s)))/\Bw w w':=by
 have hlen:=h.len;obtain⟨ax,cp,rfl⟩:=h.shapeT;obtain⟨M,hM⟩:∃ M,d.length=M:=⟨_,rfl⟩;have HM:Hid (d.length=M):=hM;rw[hM]at hlen ⊢
 clear hM h;simp only[tpA];have bb:Bw w (w.alloc (.cells #[.slice ax M cp,.int .i64 s] 93)):=(Below.refl _ _).alloc (A' _) _;have rr:=heap_alloc_new w (.cells #[.slice ax M cp,.int .i64 s] 93);generalize hW:w.alloc (.cells #[.slice ax M cp,.int .i64 s] 93)=W0 at bb rr;have c0:W0.cell? ⟨w.heap.size,0,none⟩=some (.slice ax M cp):=cell_of_row _ _ 0 _ _ _ rr;have c1:W0.cell? ⟨w.heap.size,1,none⟩=some (.int .i64 s):=cell_of_row _ _ 1 _ _ _ rr;clear rr;have HT:Hid (CR d s↔(M<=100000/\0<=s/\s<=(M:Int))):=by
  unfold Hid CR;rw[HM.out]
 by_cases h1:M<=100000
 .have h1i:(M:Int)<=100000:=by omega
  by_cases h2:0<=s
  .by_cases h3:s<=(M:Int)
   .go_enter func105,ntmps105
    go_wp2
    go_ret;exact⟨Ac (by rw[I' (HT.out.2 ⟨h1,h2,h3⟩)]),bb⟩
   .go_enter func105,ntmps105
    go_wp2
    go_ret;exact⟨Ac (by rw[D' (λg=>absurd (HT.out.1 g).2.2 (by omega))]),bb⟩
  .go_enter func105,ntmps105
   go_wp2
   go_ret;exact⟨Ac (by rw[D' (λg=>absurd (HT.out.1 g).2.1 (by omega))]),bb⟩
 .have h1i:¬ (M:Int)<=100000:=by omega
  go_enter func105,ntmps105
  go_wp2
  go_ret;exact⟨Ac (by rw[D' (λg=>absurd (HT.out.1 g).1 (by omega))]),bb⟩
theorem I3(x:Value)(d:List Int)(s:Int)(n:Nat)(w:World)(h:Sl w x d)(hn:n<=d.length) :
  Calls prog 106 #[.agg (tpA x s),.int .i64 (n:Int)] w λe w'=>∃ y,e=.returned (.agg (tpA y (n:Int)))/\w'.ownsRow w.heap.size 5 1 y n ((d.take n).map (Value.int .u8))/\Bw w w':=by
 have hlen:=h.len;obtain⟨ax,cp,rfl⟩:=h.shapeT;obtain⟨M,hM⟩:∃ M,d.length=M:=⟨_,rfl⟩;have HM:Hid (d.length=M):=hM;have HN:Hid (n<=d.length):=hn;obtain⟨t,ht⟩:∃ t,t=d.take n:=⟨_,rfl⟩;have HT:Hid (t=d.take n):=ht;rw[<- ht];clear ht;rw[hM]at h hlen hn ⊢
 clear hM;simp only[tpA];have r0:=heap_alloc2_old w (.cells #[.slice ax M cp,.int .i64 s] 93) (.cells #[.slice none 0 0,.int .i64 0] 93);have r1:=heap_alloc2_new w (.cells #[.slice ax M cp,.int .i64 s] 93) (.cells #[.slice none 0 0,.int .i64 0] 93);have bb:Bw w ((w.alloc (.cells #[.slice ax M cp,.int .i64 s] 93)).alloc (.cells #[.slice none 0 0,.int .i64 0] 93)):=((Below.refl _ _).alloc (A' _) _).alloc (by simp) _;have z0:((w.alloc (.cells #[.slice ax M cp,.int .i64 s] 93)).alloc (.cells #[.slice none 0 0,.int .i64 0] 93)).heap.size=w.heap.size+2:=by simp
 generalize hW:(w.alloc (.cells #[.slice ax M cp,.int .i64 s] 93)).alloc (.cells #[.slice none 0 0,.int .i64 0] 93)=W0 at r0 r1 bb z0;have s0:=h.below bb;have Z0:Hid (W0.heap.size=w.heap.size+2):=z0;have y0:w.heap.size+1<W0.heap.size:=by omega
 have y1:w.heap.size<W0.heap.size:=by omega
 clear z0;go_enter func106,ntmps106
 go_wp2_with ((with_reducible (refine DT ?_));at_make;refine KL _ rfl _ _ 25 rfl W0.heap.size 5 underlying25 As n rfl rfl (by omega) (A' _) ?_)
 clear hW;intro w1 o1 g1;have b1:Bw W0 w1:=(Below.refl _ _).grown g1 (A' _) (λk hk=>by cases hk);have q0:=(b1.block w.heap.size y1).trans r0;have q1:=(b1.block (w.heap.size+1) y0).trans r1;have s1:=s0.below b1;obtain⟨xs,o1⟩:=o1.out;have HO:Hid (w1.ownsRow W0.heap.size 5 1 (.slice (some ⟨W0.heap.size,0,none⟩) n n) n xs):=o1;have d1:=bb.trans (b1.mono bb.size);clear o1 r0 r1 g1;have c0:w1.cell? ⟨w.heap.size,0,none⟩=some (.slice ax M cp):=cell_of_row _ _ 0 _ _ _ q0;go_wp2_with ((with_reducible (refine DT ?_));refine KJ _ rfl _ _ 25 25 rfl W0.heap.size 5 underlying25 da W0.heap.size n _ rfl HO.out _ rfl d HN.out s1 t HT.out ?_)
 intro w2 o2 b2;have HO2:Hid (w2.ownsRow W0.heap.size 5 1 (.slice (some ⟨W0.heap.size,0,none⟩) n n) n (t.map (Value.int .u8))):=o2;have e2:=b2.mono (show w.heap.size+2<=W0.heap.size by have:=Z0.out;omega);have p1:=(e2.block (w.heap.size+1) (by omega)).trans q1;have d2:=d1.trans (e2.mono (by omega));obtain⟨g,hg⟩:∃ g,W0.heap.size=g:=⟨_,rfl⟩;have HG:Hid (W0.heap.size=g):=hg;have z0:g=w.heap.size+2:=hg.symm.trans Z0.out;have Z1:Hid (g=w.heap.size+2):=z0;rw[hg]at HO2 ⊢
 clear o2 HO q0 q1 c0 hg z0 y0 y1 Z0;have on:=WR (some ⟨g,0,none⟩) n n (n:Int);go_wp2_with ((with_reducible (refine DT ?_));refine wpList_store_row rfl 93 (.tmp 4) (.tmp 14) rfl (w.heap.size+1) #[.slice (some ⟨g,0,none⟩) n n,.int .i64 (n:Int)] rfl rfl 93 _ p1 KB rfl on ?_)
 have q9:=setRow_heap w2 (w.heap.size+1) _ (#[.slice (some ⟨g,0,none⟩) n n,.int .i64 (n:Int)]) 93 _ p1;have d9:=Ci d2 (show w.heap.size<=w.heap.size+1 by omega) (#[.slice (some ⟨g,0,none⟩) n n,.int .i64 (n:Int)]);have o9:(w2.setRow (w.heap.size+1) #[.slice (some ⟨g,0,none⟩) n n,.int .i64 (n:Int)]).ownsRow g 5 1 (.slice (some ⟨g,0,none⟩) n n) n (t.map (Value.int .u8)):=CL HO2.out (λk hk=>setRow_other _ _ _ _ (by have:=(HO2.out.lt k hk).1;have:=Z1.out;omega));refine bodyPost_ret (WG rfl _ _ (w.heap.size+1) 93 _ (0,0) _ rfl q9 underlying93 rfl KB) rfl ?_;exact⟨_,rfl,ED o9 (by have:=Z1.out;omega),d9⟩
end
end Go.Proofs.YtalbmmghmoggcabGreatDoor
