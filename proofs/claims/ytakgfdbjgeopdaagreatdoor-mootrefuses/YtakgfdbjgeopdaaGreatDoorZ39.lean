/- Part 39 of the walk: what the functions of the program do, one by one. -/
import Derived.Lib.LazyBuf
import Derived.Test.YtakgfdbjgeopdaaGreatDoorZ33
set_option maxRecDepth 100000
set_option maxHeartbeats 4000000
open Go.Proofs.Tryz
set_option linter.unusedVariables false
namespace Go.Proofs.YtakgfdbjgeopdaaGreatDoor
open Go.RowKit
def lB(L:List Sh):List Nat:=L.filterMap fun x=>match x.t with|.l=>some x.g|_=>none
def gK(L:List Sh):Gh:=⟨fun b=>if(lB L).elem b then .l else .z,fun _=>0⟩
def zl(L:List Sh):Bool:=L.all fun x=>match x.t with|.n _ _=>false|_=>true
theorem J3{L:List Sh}{b:Nat}:b∈lB L↔∃ x∈L,x.t=.l∧x.g=b:=by
 unfold lB;rw[List.mem_filterMap];constructor
 ·rintro⟨x,hx,h⟩;cases ht:x.t<;>rw[ht]at h<;>simp at h;exact⟨x,hx,ht,h⟩
 ·rintro⟨x,hx,ht,rfl⟩;exact⟨x,hx,by rw[ht]⟩
section
variable{P:Program}{fn:Func}{R:Ending→World→Prop}{B:Nat}{T:List Tg}{g:Gh}{w:World}
theorem Kn.re{L:List Sh}(h:Kn B g w L)(hz:zl L=true):Kn B (gK L) w L:=by
 refine⟨fun x hx=>?_,h.nod,fun b hb=>⟨?_,rfl⟩,h.base⟩
 ·have h1:=h.row x hx;refine⟨h1.1,?_,h1.2.2.1,fun _=>rfl⟩;show(if(lB L).elem x.g then Tg.l else Tg.z)=x.t;cases ht:x.t with
  | l=>rw[if_pos (by rw[List.elem_eq_mem];exact decide_eq_true (J3.2 ⟨x,hx,ht,rfl⟩))]
  | n r i=>have:=List.all_eq_true.1 hz x hx;rw[ht]at this;cases this
  | z =>
   rw[if_neg];rw[List.elem_eq_mem];intro hc;obtain⟨y,hy,hyt,hyg⟩:=J3.1 (of_decide_eq_true hc);have hne:x≠y:=fun e=>by rw[e,hyt]at ht;cases ht
   have:(x.g=y.g→(x.t=.z∧x.w=false)∧y.t=.z∧y.w=false)∨(y.g=x.g→(y.t=.z∧y.w=false)∧x.t=.z∧x.w=false):=by
    obtain⟨i,hi,rfl⟩:=List.getElem_of_mem hx;obtain⟨j,hj,rfl⟩:=List.getElem_of_mem hy;rcases Nat.lt_trichotomy i j with h1|h1|h1
    ·exact .inl (List.pairwise_iff_getElem.1 h.nod i j hi hj h1)
    ·subst h1;exact absurd rfl hne
    ·exact .inr (List.pairwise_iff_getElem.1 h.nod j i hj hi h1)
   rcases this with h2|h2
   ·have:=(h2 hyg.symm).2.1;rw[hyt]at this;cases this
   ·have:=(h2 hyg).1.1;rw[hyt]at this;cases this
 ·show(if(lB L).elem b then Tg.l else Tg.z)=.z;rw[if_neg];rw[List.elem_eq_mem];intro hc;obtain⟨y,hy,_,hyg⟩:=J3.1 (of_decide_eq_true hc);have:=(Array.getElem?_eq_some_iff.1 (h.row y hy).1).1;omega
def GK(P:Program)(fn:Func)(R:Ending→World→Prop)(B:Nat)(s:Xs)(w:World):Prop:=GG P fn R B [] s (gK s.L) w
theorem kIn{f:FuncId}{args:Array Value}(hf:P.funcs[f]?=some fn)(h:GK P fn R w.heap.size ⟨[.c (Tj fn)],⟨fn.ntmps,OE 0 args.toList,fun _=>undef⟩,[]⟩ w)(hb:fn.body.isSome=true:=by kernel_rfl)(hn:Nat.ble args.size fn.ntmps=true:=by kernel_rfl):Calls P f args w R:=gIn [] (gK []) hf hb hn (fun _ _=>⟨rfl,rfl⟩) h
theorem Wl{s:Xs}{L':List Sh}{g':Gh}{w':World}(c:Cg B [] (gK s.L) w g' w')(hK:Kn B g w s.L)(hK':Kn B g' w' L')(hs:(L'.take s.L.length).map (fun x=>(x.g,x.o))=s.L.map (fun x=>(x.g,x.o))):Below w.heap.size w w':=by
 refine⟨c.os,c.tape,c.output,c.size,fun b hb=>?_⟩;by_cases hc:b∈lB s.L
 ·obtain⟨x,hx,_,rfl⟩:=J3.1 hc;have h1:(x.g,x.o)∈(L'.take s.L.length).map (fun x=>(x.g,x.o)):=by rw[hs];exact List.mem_map.2 ⟨x,hx,rfl⟩
  obtain⟨y,hy,he⟩:=List.mem_map.1 h1;injection he with e1 e2
  have h2:=(hK'.row y (List.mem_of_mem_take hy)).1;rw[← e1,h2,e2,e1];exact(hK.row x hx).1.symm
 ·refine c.same b hb List.not_mem_nil (fun h=>?_);have:(if(lB s.L).elem b then Tg.l else Tg.z)=.l:=h;rw[if_neg (by rw[List.elem_eq_mem];simpa using hc)]at this
  cases this
theorem kR{s:Xs}(m:Nat)(h:List Nat)(hk:∀ gs w',Below w.heap.size w w'→GK P fn R B (rn0 P [] gs m s h).s w')(hob:∀ gs,(rn0 P [] gs m s h).o.map Ob.l'=(rn0 P [] gs m s h).o.map Ob.r':=by intro _;kernel_rfl)(hz:∀ gs,zl (rn0 P [] gs m s h).s.L=true:=by intro _;kernel_rfl)(hs:∀ gs,((rn0 P [] gs m s h).s.L.take s.L.length).map (fun x=>(x.g,x.o))=s.L.map (fun x=>(x.g,x.o)):=by intro _;kernel_rfl):GK P fn R B s w :=
 Ae fun hK=>Yv [] m h hob fun gs g' w' c=>⟨fun hK'=>(hk gs w' (Wl c hK hK' (hs gs))).ex (hK'.re (hz gs))⟩
structure Kept(L:List Sh)(w w':World):Prop where
 size:w.heap.size≤w'.heap.size
 rows:AL L w
 same:∀ b,b<w.heap.size→b∉lB L→w'.heap[b]?=w.heap[b]?
theorem kF{s:Xs}(m:Nat)(h:List Nat)(hk:∀ gs w',Below B w w'→Kept s.L w w'→GK P fn R B (rn0 P [] gs m s h).s w')(hob:∀ gs,(rn0 P [] gs m s h).o.map Ob.l'=(rn0 P [] gs m s h).o.map Ob.r':=by intro _;kernel_rfl)(hz:∀ gs,zl (rn0 P [] gs m s h).s.L=true:=by intro _;kernel_rfl):GK P fn R B s w :=
 Ae fun hK=>Yv [] m h hob fun gs g' w' c=>⟨fun hK'=>(hk gs w' ⟨c.os,c.tape,c.output,c.size,fun b hb=>c.same b (Nat.lt_of_lt_of_le hb hK.base) List.not_mem_nil (fun _=>hb)⟩ ⟨c.size,hK.rows,fun b hb hn=>c.same b hb List.not_mem_nil fun h=>by
  have h2:(if(lB s.L).elem b then Tg.l else Tg.z)=.l:=h;rw[if_neg (by rw[List.elem_eq_mem];simpa using hn)]at h2
  cases h2⟩).ex (hK'.re (hz gs))⟩
def noU(L:List Sh):Bool:=L.all fun x=>match x.t,x.o with|.l,.cells c _ _=>c.all (fun v=>match v with|.int .u8 _=>false|_=>true)|.l,_=>false|_,_=>true
theorem Sl.kept{L:List Sh}{w':World}{x:Value}{l:List Int}(h:Sl w x l)(k:Kept L w w')(hno:noU L=true:=by kernel_rfl):Sl w' x l:=by
 obtain⟨⟨a,cap,hv,hc,hn,h1⟩,h2,h3⟩:=h;refine⟨⟨a,cap,hv,hc,hn,?_⟩,h2,h3⟩;rcases h1 with h1|⟨b,off,ha,hbs,hcell⟩
 ·exact .inl h1
 ·by_cases hl:l=[]
  ·exact .inl hl
  ·refine .inr ⟨b,off,ha,Nat.lt_of_lt_of_le hbs k.size,fun i hi=>?_⟩;have hb:b∉lB L:=by
    intro hb;obtain⟨y,hy,hyt,rfl⟩:=J3.1 hb;have hr:=k.rows y hy;have hu:=List.all_eq_true.1 hno y hy;have hi0:0<l.length:=List.length_pos_iff.2 hl;have hc0:=hcell 0 hi0;rw[hyt]at hu
    cases ho:y.o with
    | cells c e fr =>
     rw[ho]at hu hr
     rw[cell_of_row _ _ _ _ _ _ hr]at hc0
     have:=Array.all_eq_true.1 hu (off+0) (Array.getElem?_eq_some_iff.1 hc0).1;rw[(Array.getElem?_eq_some_iff.1 hc0).2]at this
     cases this
    | _=>rw[ho]at hu;cases hu
   rw[World.cell?_of_block (w:=w) (k.same b hbs hb)];exact hcell i hi
theorem XF(s:Xs)(i:Nat)(v:Value)(hob:(nxt s i undef s.L).o.map Ob.l'=(nxt s i undef s.L).o.map Ob.r'):(nxt s i v s.L).s.L=s.L:=by
 obtain⟨K,f,L⟩:=s;unfold nxt;cases K with
 | nil=>rfl
 | cons t K=>cases t<;>first|rfl|(simp only;repeat' split)<;>rfl
theorem aQ(s:Xs)(i:Nat)(v:Value)(ld:Bool):(tkN s i v ld).s.L=s.L:=by
 obtain⟨K,f,L⟩:=s;unfold tkN;cases K with
 | nil=>rfl
 | cons t K=>cases t<;>first|rfl|(simp only;repeat' split)<;>rfl
theorem GK.of{s s':Xs}(h:GK P fn R B s' w)(e:s'.L=s.L):GG P fn R B [] s' (gK s.L) w:=by rw[← e];exact h
theorem kV{s:Xs}(i:Nat)(v:Value){S:Sem Value}(hr:S.run P w=.ok v w)(hk:GK P fn R B (nxt s i v s.L).s w)(hs:Dv s i=some (S>>=fun v=>pure (.value v)):=by kernel_rfl)(hob:(nxt s i undef s.L).o.map Ob.l'=(nxt s i undef s.L).o.map Ob.r':=by kernel_rfl):GK P fn R B s w:=qV i v hr (hk.of (XF s i v hob)) hs hob
theorem kT{s:Xs}(i:Nat)(v:Value){S:Sem Value}(hr:∀ W,S.run P W=.ok v W)(hk:GK P fn R B (tkN s i v false).s w)(hs:Dv s i=some (S>>=fun v=>pure (.value v)):=by kernel_rfl)(hob:(tkN s i undef false).o.map Ob.l'=(tkN s i undef false).o.map Ob.r':=by kernel_rfl):GK P fn R B s w:=qT i v hr (hk.of (aQ s i v false)) hs hob
theorem VX(s:Xs)(t:Bool):(KW s t).L=s.L:=by unfold KW;split<;>rfl
theorem kI{s:Xs}(b t:Bool)(hb:b=t)(h:GK P fn R B (KW s t) w)(hc:Qz s=.bool b:=by kernel_rfl):GK P fn R B s w:=qI b t hb (h.of (VX s t)) hc
theorem kC{s:Xs}(i:Nat){f:FuncId}{av:Array Value}{C:Ending→World→Prop}(hc:Calls P f av w C)(hk:∀ e w',C e w'→∃ v,e=.returned v∧Below w.heap.size w w'∧GK P fn R B (nxt s i v s.L).s w')(hr:∀ W,Dj P s i W=some (.ok (.enter f av) W):=by intro _;kernel_rfl)(hd:OX s i=true:=by kernel_rfl)(hob:(nxt s i undef s.L).o.map Ob.l'=(nxt s i undef s.L).o.map Ob.r':=by kernel_rfl):GK P fn R B s w:=qC i hc (fun e w' h=>let ⟨v,h1,h2,h3⟩:=hk e w' h;⟨v,h1,h2,h3.of (XF s i v hob)⟩) hr hd hob
theorem kE{s:Xs}(v:Value)(h:R (.returned v) w)(hr:Kn B (gK s.L) w s.L→(results fn s.f.act.tmps).run P w=.ok v w:=by intro _;kernel_rfl)(hs:Ng s.K=true:=by kernel_rfl):GK P fn R B s w:=qE v (fun _=>h) hr hs
theorem Y0{s:Xs}(n:Nat)(Inv:World→List (Nat × Value)→List Sh→Prop)(h1:∀ J:Act→World→Prop,(∀ w' e z L,Inv w' e L→Kn B (gK L) w' L→J (⟨n,e,z⟩:Fm).act w')→GK P fn R B (VY s J) w)(h2:∀ w' e z L,Inv w' e L→GK P fn R B ⟨s.K.tail,⟨n,e,z⟩,L⟩ w')(hs:s.K.isEmpty=false:=by kernel_rfl):GK P fn R B s w:=by
 refine BD n (fun g' w' e L=>Inv w' e L∧g'=gK L) hs (fun J hJ=>?_) ?_
 ·have:=h1 J fun w' e z L hI hK=>hJ (gK L) w' e z L ⟨hI,rfl⟩ hK;exact this.of (by obtain⟨K,f,L⟩:=s;unfold VY;cases K<;>rfl)
 ·rintro g' w' e z L ⟨hI,rfl⟩;exact h2 w' e z L hI
theorem kB{s:Xs}{J:Act→World→Prop}{n:Nat}{e:List (Nat × Value)}(m:List Bool){L':List Sh}(h:∀ z,Kn B (gK L') w L'→J (⟨n,e,z⟩:Fm).act w)(hi:isJ s.K=true:=by kernel_rfl)(hJ:jK s.K=J:=by kernel_rfl)(hn:s.f.n=n:=by kernel_rfl)(he:e.map (fun p=>lk s.f.z s.f.e p.1)=e.map (·.2):=by kernel_rfl)(hL:BX (BK m s.L)=L':=by kernel_rfl)(hz:zl L'=true:=by kernel_rfl):GK P fn R B s w:=qB m (fun z _ K=>h z (K.re hz)) hi hJ hn he hL
theorem Wx{s:Xs}(i j:Nat)(h1:GK P fn R B (Ke s i) w)(h2:GK P fn R B (Ke s j) w)(hb:Zf s i j=true:=by kernel_rfl):GK P fn R B s w :=
 have e:∀ i,(Ke s i).L=s.L:=fun i=>by unfold Ke;split<;>rfl
 Cs i j hb (h1.of (e i)) (h2.of (e j))
end
theorem S6{w:World}{x:S3}{l:List Int}(h:Sl w x.v l):x.n=l.length:=by obtain⟨a,cap,hh⟩:=h.shapeT;simp only[S3.v,Value.slice.injEq]at hh;exact hh.2.1
theorem aS:prog.underlying 26=some (.slice (prog.elem 26)):=by kernel_rfl
theorem slB{w:World}{x:S3}{l:List Int}(h:Sl w x.v l)(lo:Nat)(hlo:lo≤l.length):∃ y:S3,(∀ W,(Instr.sliceAt 26 x.v (some (iv (lo:Int))) none none).run prog W=.ok y.v W)∧Sl w y.v (l.drop lo)∧y.n=l.length-lo:=by
 obtain⟨a',c',h1,h2⟩:=h.from lo hlo;refine⟨⟨a',x.n-lo,c'⟩,fun W=>?_,h2,by rw[S6 h]⟩;rw[run_sliceAt_slice _ _ _ _ _ _ aS];exact h1 W
theorem slT{w:World}{x:S3}{l:List Int}(h:Sl w x.v l)(hi:Nat)(hhi:hi≤l.length):∃ y:S3,(∀ W,(Instr.sliceAt 26 x.v none (some (iv (hi:Int))) none).run prog W=.ok y.v W)∧Sl w y.v (l.take hi):=by
 obtain⟨a',c',h1,h2⟩:=h.upTo hi hhi;refine⟨⟨a',hi,c'⟩,fun W=>?_,h2⟩;rw[run_sliceAt_slice _ _ _ _ _ _ aS];exact h1 W
theorem Ot{w:World}{x:S3}{l:List Int}(h:Sl w x.v l)(h0:0<l.length):∃ bd od,(∀ W,(Instr.indexAt 26 x.v (iv 0)).run prog W=.ok (pt bd od) W)∧bd<w.heap.size∧w.cell? ⟨bd,od,none⟩=some (.int .u8 (l.getD 0 0)):=by
 obtain⟨xa,xn,xc⟩:=x;have hn:xn=l.length:=S6 h;obtain⟨bd,od,h1,h2,h3⟩:=h.spotO 0 h0;subst h1;exact⟨bd,od,fun W=>Sq (P:=prog) (e:=5) (z:=1) (i:=0) underlying26 (by kernel_rfl) (by kernel_rfl) (by rw[hn];exact h0) od (by rw[Nat.mul_zero,Nat.add_zero]),h2,h3⟩
theorem Sp{P:Program}{w:World}{t:TypeId}{x y:Operand}{m n:Int}{b:Bool}(h:(m==n)=b):(do Go.eqGuard .eql t x y (.int .u8 m) (.int .u8 n);Go.binOp .eql t (.int .u8 m) (.int .u8 n):Sem Value).run P w=.ok (.bool b) w:=by
 subst h;rfl
theorem rUi{w:World}{n:Int}(h:0≤n∧n<256):(convert 5 3 (.int .u8 n)).run prog w=.ok (iv n) w:=ai (by kernel_rfl) underlying3 (by kernel_rfl) (by rw[IntKind.wrap_i64];omega)
theorem PK{w:World}{B:Nat}{y:Value}{l:List Int}(h:w.ownsRow B 5 1 y l.length (l.map (Value.int .u8)))(hl:l.length≤140737488351232)(hb:∀ x∈l,0≤x∧x<256):∃ z:S3,y=z.v∧Sl w z.v l:=by
 have hs:=Sl.ofOwns h hl hb;obtain⟨a,cap,rfl⟩:=hs.shapeT;exact⟨⟨a,l.length,cap⟩,rfl,hs⟩
theorem Vg{w:World}{y:Value}{l:List Int}(hs:Sl w y l):∃ z:S3,y=z.v∧Sl w z.v l:=by
 obtain⟨a,cap,rfl⟩:=hs.shapeT;exact⟨⟨a,l.length,cap⟩,rfl,hs⟩
theorem YX(w:World):Sl w s30.v []:=⟨⟨none,0,rfl,Nat.le_refl _,fun _=>rfl,.inl rfl⟩,by simp,by simp⟩
theorem Y3(c:Int)(w:World)(h0:0≤c)(h1:c≤7)(ht:AI w) :
  Calls prog 19 #[.int .i64 c] w fun e w'=>∃ v',e=.returned (.tuple #[v',.int .i64 0])∧w'.ownsRow w.heap.size 5 1 v' (K3 c).length ((K3 c).map (Value.int .u8))∧Below w.heap.size w w':=by
 have d0:decide (c<0)=false:=by simp;omega
 have d1:decide ((7:Int)<c)=false:=by simp;omega
 have hw:IntKind.u8.wrap c=c:=by rw[show IntKind.u8.wrap c=c%256 from rfl];omega
 have kc:=Go.Joins.run_convert_bytes_const_at (P:=prog) (w.alloc (.cells #[.int .u8 c] 5)) 26 5 #[.int .u8 99,.int .u8 108,.int .u8 105,.int .u8 101,.int .u8 110,.int .u8 116] 6 6 (w.heap.size+1) (by simp) underlying26 underlying5;go_enter func19,ntmps19
 go_wp2_with fail
 have s0:Sl (w.alloc (.cells #[.int .u8 c] 5)) (.slice (some ⟨w.heap.size,0,none⟩) 1 1) [c]:=Sl.one w c 5 rfl ⟨h0,by omega⟩;have b0:Below w.heap.size w (w.alloc (.cells #[.int .u8 c] 5)):=(Below.refl _ _).alloc (Nat.le_refl _) _;have s1:=Sl.sixM (w.alloc (.cells #[.int .u8 c] 5)) [99,108,105,101,110,116] 5 (6,7) (g:=w.heap.size+1) (by simp) rfl (by simp);have b1:Below w.heap.size w ((w.alloc (.cells #[.int .u8 c] 5)).alloc (.cells #[.int .u8 99,.int .u8 108,.int .u8 105,.int .u8 101,.int .u8 110,.int .u8 116] 5 (6,7))):=b0.alloc (by simp) _;have s0':=s0.below ((Below.refl (w.alloc (.cells #[.int .u8 c] 5)).heap.size _).alloc (Nat.le_refl _) (.cells #[.int .u8 99,.int .u8 108,.int .u8 105,.int .u8 101,.int .u8 110,.int .u8 116] 5 (6,7)));refine(Qr _ _ _ [c] [99,108,105,101,110,116] [] 32 _ s0' s1 (Sl.nil _ _) (by simp) (by simp) (by simp) (by omega) (ht.below b1)).mono ?_;rintro e w1 ⟨v1,rfl,o1,b2⟩;go_wp2
 go_ret2
 exact⟨v1,rfl,B1 o1 b1.size,b1.trans (b2.mono b1.size)⟩
theorem Y2(c:Int)(w:World)(h:c<0∨7<c) :
  Calls prog 19 #[.int .i64 c] w fun e w'=>e=.returned (.tuple #[.slice none 0 0,.int .i64 2])∧w'=w:=by
 by_cases h0:c<0
 ·have d0:decide (c<0)=true:=by simp;omega
  go_enter func19,ntmps19
  go_wp2
  go_ret2
  exact⟨rfl,rfl⟩
 ·have d0:decide (c<0)=false:=by simp;omega
  have d1:decide ((7:Int)<c)=true:=by simp;omega
  go_enter func19,ntmps19
  go_wp2
  go_ret2
  exact⟨rfl,rfl⟩
theorem Pr(w:World)(ht:AI w) :
  Calls prog 17 #[] w fun e w'=>∃ v',e=.returned v'∧w'.ownsRow w.heap.size 5 1 v' Mh.length (Mh.map (Value.int .u8))∧Below w.heap.size w w':=by
 have kc:=Go.Joins.run_convert_bytes_const_at (P:=prog) (w.alloc (.cells #[.int .u8 255] 5)) 26 5 #[.int .u8 105,.int .u8 115,.int .u8 115,.int .u8 117,.int .u8 101,.int .u8 114] 6 6 (w.heap.size+1) (by simp) underlying26 underlying5;go_enter func17,ntmps17
 go_wp2_with fail
 have s0:Sl (w.alloc (.cells #[.int .u8 255] 5)) (.slice (some ⟨w.heap.size,0,none⟩) 1 1) [255]:=Sl.one w 255 5 rfl ⟨by omega,by omega⟩;have b0:Below w.heap.size w (w.alloc (.cells #[.int .u8 255] 5)):=(Below.refl _ _).alloc (Nat.le_refl _) _;have s1:=Sl.sixM (w.alloc (.cells #[.int .u8 255] 5)) [105,115,115,117,101,114] 5 (6,7) (g:=w.heap.size+1) (by simp) rfl (by simp);have b1:Below w.heap.size w ((w.alloc (.cells #[.int .u8 255] 5)).alloc (.cells #[.int .u8 105,.int .u8 115,.int .u8 115,.int .u8 117,.int .u8 101,.int .u8 114] 5 (6,7))):=b0.alloc (by simp) _;have s0':=s0.below ((Below.refl (w.alloc (.cells #[.int .u8 255] 5)).heap.size _).alloc (Nat.le_refl _) (.cells #[.int .u8 105,.int .u8 115,.int .u8 115,.int .u8 117,.int .u8 101,.int .u8 114] 5 (6,7)));refine(Qr _ _ _ [255] [105,115,115,117,101,114] [] 32 _ s0' s1 (Sl.nil _ _) (by simp) (by simp) (by simp) (by omega) (ht.below b1)).mono ?_;rintro e w1 ⟨v1,rfl,o1,b2⟩;go_wp2
 go_ret;exact⟨v1,rfl,B1 o1 b1.size,b1.trans (b2.mono b1.size)⟩
theorem Ni(a:Option Addr)(n c:Nat):∀ w,(binOp .eql 26 (.slice a n c) (.slice none 0 0)).run prog w=.ok (.bool a.isNone) w :=
 fun w=>run_eql_slice_nil (P:=prog) w 26 5 a n c underlying26
theorem FY{w w':World}{base e:Nat}{v:Value}{n:Nat}{xs:List Value}(h:w.ownsRow base e 1 v n xs)(hk:∀ k,v.ownBlock=some k→w'.heap[k]?=w.heap[k]?):w'.ownsRow base e 1 v n xs:=by
 refine⟨h.1,?_⟩;rcases h.2 with h2|⟨g,cap,cur,hv,hb,hg,hr⟩
 ·exact .inl h2
 ·exact .inr ⟨g,cap,cur,hv,hb,(hk g (by rw[hv];rfl)).trans hg,hr⟩
theorem KU(v:Value)(l:List Int)(w:World)(h:Sl w v l) :
  Calls prog 48 #[v] w fun e w'=>∃ v',e=.returned v'∧w'.ownsRow w.heap.size 5 1 v' l.length (l.map (Value.int .u8))∧Below w.heap.size w w':=by
 have hs:=h;have hl:=h.len;obtain⟨⟨a,cap,rfl,hc,hn,h1⟩,h2,h3⟩:=h;cases a with
 | none =>
  obtain rfl:=hn rfl;obtain rfl:l=[]:=List.eq_nil_of_length_eq_zero (by omega);have hq:=Ni none 0 0;go_enter func48,ntmps48
  go_wp2
  go_ret;exact⟨_,rfl,World.ownsRow_nil _ _ _ _,Below.refl _ _⟩
 | some ad =>
  have ho0:(w.alloc (.cells #[] 5)).ownsRow w.heap.size 5 1 (.slice (some ⟨w.heap.size,0,none⟩) 0 0) ([]:List Int).length (([]:List Int).map (Value.int .u8)):=by
   refine⟨rfl,.inr ⟨w.heap.size,0,#[],rfl,Nat.le_refl _,heap_alloc_new _ _,Nat.le_refl _,Nat.zero_le _,rfl,rfl⟩⟩
  have hq:=Ni (some ad) l.length cap;have hs1:=hs.below ((Below.refl w.heap.size w).alloc (Nat.le_refl _) (.cells #[] 5));go_enter func48,ntmps48
  go_wp2_with (at_builtin;refine Aa _ rfl _ _ 26 rfl w.heap.size 5 underlying26 AB _ _ rfl rfl [] l ho0 hs1 (by simp;omega) (by simp) ?_)
  intro v' w' ho hg;have hb2:Below w.heap.size w w':=((Below.refl w.heap.size w).alloc (Nat.le_refl _) (.cells #[] 5)).grown hg (by simp) (fun k hk=>(ho0.lt k hk).1);go_wp2
  go_ret;exact⟨v',rfl,by simpa using ho,hb2⟩
theorem WR(x b:Int)(hx:0≤x∧x<36028797018963968)(hb:0≤b∧b<256):bits .or .i64 (x*256) b=x*256+b:=by
 obtain⟨x,rfl⟩:=Int.eq_ofNat_of_zero_le hx.1;obtain⟨y,rfl⟩:=Int.eq_ofNat_of_zero_le hb.1;have e:(x:Int)*256=((x*256:Nat):Int):=by omega
 have key:(BitVec.ofInt 64 ((x*256:Nat):Int) ||| BitVec.ofInt 64 (y:Int)).toNat=x*256+y:=by
  rw[BitVec.toNat_or,BitVec.toNat_ofInt,BitVec.toNat_ofInt];have h1:((y:Int)%((2^64:Nat):Int)).toNat=y:=by omega
  have h2:(((x*256:Nat):Int)%((2^64:Nat):Int)).toNat=2^8*x:=by omega
  rw[h1,h2,← Nat.two_pow_add_eq_or_of_lt (by omega:y<2^8)];omega
 rw[e];show IntKind.i64.wrap ((BitVec.ofInt 64 ((x*256:Nat):Int) ||| BitVec.ofInt 64 (y:Int)).toNat:Nat)=_;rw[key,IntKind.wrap_i64];omega
def II(h:List Int):Nat→Int
 | 0=>0
 | k+1=>II h k*256+h.getD k 0
theorem P9{h:List Int}(hb:∀ x∈h,0≤x∧x<256)(k:Nat):0≤II h k∧II h k<256^k:=by
 induction k with
 | zero=>simp[II]
 | succ k ih =>
  have:=Ak hb k;rw[II,Int.pow_succ];omega
theorem Sl.spotH{w:World}{a:Option Addr}{n cap:Nat}{l:List Int}(h:Sl w (.slice a n cap) l)(k:Nat)(hk:k<l.length):∃ bd od,a=some ⟨bd,od,none⟩∧bd<w.heap.size∧w.cell? ⟨bd,od+k,none⟩=some (.int .u8 (l.getD k 0)):=by
 obtain⟨⟨a',cap',e,hc,hn,h1⟩,hla,hba⟩:=h;simp only[Value.slice.injEq]at e;obtain⟨rfl,rfl,rfl⟩:=e;rcases h1 with rfl|⟨b,off,rfl,hb,hcell⟩
 ·simp at hk
 ·exact⟨b,off,rfl,hb,hcell k hk⟩
theorem Mo(v:Value)(l:List Int)(w:World)(h:Sl w v l)(hl:l.length=4) :
  Calls prog 196 #[v] w fun e w'=>e=.returned (.int .i64 (Ep l))∧w'=w:=by
 have HN:Hid (II l 4=Ep l):=by
  unfold Hid;show((((0:Int)*256+l.getD 0 0)*256+l.getD 1 0)*256+l.getD 2 0)*256+l.getD 3 0=_;unfold Ep;omega
 have HB:Hid (∀ x∈l,0≤x∧x<256):=h.byte;have hs:=h;obtain⟨a,c,rfl⟩:=h.shape;rw[hl]at hs ⊢
 go_enter func196,ntmps196
 go_wp2_with fail
 go_loopw [3,8] (fun v iv wr=>∃ j:Nat,j≤4∧iv=.int .i64 (j:Int)∧v=.int .i64 (II l j)∧wr=w) (fun _ iv _=>(4-intOf iv).toNat)
 case atStart=>exact⟨0,by omega,rfl,rfl,rfl⟩
 case round =>
  obtain⟨j,hj,rfl,rfl,rfl⟩:=hrel;by_cases hj4:j<4
  ·have hii:(j:Int)<4:=by omega
   have hx:=P9 HB.out j;have hx2:II l j<16777216:=by
    have:(256:Int)^j≤256^3:=by
     rcases(by omega:j=0∨j=1∨j=2∨j=3)with rfl|rfl|rfl|rfl<;>decide
    omega
   have hb:=Ak HB.out j;obtain⟨bd,od,rfl,hbd,hc⟩:=hs.spotH j (by omega);have hor:=WR (II l j) (l.getD j 0) ⟨hx.1,by omega⟩ hb;have HK:Hid (II l j*256+l.getD j 0=II l (j+1)):=rfl;have hx1:=hx.1;clear hx h hs;generalize II l j=X at hx1 hx2 hor HK;generalize l.getD j 0=B at hb hc hor HK;go_wp2
   go_roundw
   case rel=>exact⟨j+1,by omega,by go_num,by rw[← HK.out],trivial⟩
   case measure=>simp[intOf];omega
  ·obtain rfl:j=4:=by omega
   rw[show((4:Nat):Int)=4 from rfl,HN.out];go_wp2
   go_ret;exact⟨rfl,rfl⟩
def Ks:Array Value:=(List.replicate 12 (Value.int .u8 0)).toArray
theorem ZS(w:World):(Instr.makeSlice 26 (.int .i64 8) (.int .i64 12)).run prog w=.ok (.slice (some ⟨w.heap.size,0,none⟩) 8 12) (w.alloc (.cells Ks 5)):=by
 obtain⟨i,hi,hz,hsz,hby⟩:=info_parts AB;rw[run_makeSlice (P:=prog) w 26 5 i (.int .u8 0) underlying26 hi hz .i64 .i64 8 12 (by omega) (by omega) (by rw[hsz];decide) (by rw[hby];decide) (by omega),hsz];have e:madeCells (Value.int .u8 0).cells ((12:Int).toNat*1)=Ks:=by kernel_rfl
 rw[e];rfl
theorem NF(v:Value)(l:List Int)(w:World)(h:Sl w v l)(hl:l.length=4) :
  Calls prog 90 #[v] w fun e w'=>∃ v',e=.returned v'∧Sl w' v' (BL l)∧Below w.heap.size w w':=by
 have HB:Hid (∀ x∈BL l,0≤x∧x<256):=NE h.byte;have HL:Hid ((BL l).length=12):=K7 hl;have hmk:=ZS w;have ho0:(w.alloc (.cells Ks 5)).ownsRow w.heap.size 5 1 (.slice (some ⟨w.heap.size,0,none⟩) 8 12) (List.replicate 8 (0:Int)).length ((List.replicate 8 (0:Int)).map (Value.int .u8)) :=
  ⟨rfl,.inr ⟨w.heap.size,12,Ks,rfl,Nat.le_refl _,heap_alloc_new _ _,by decide,by simp[maxLen],rfl,rfl⟩⟩
 have b0:Below w.heap.size w (w.alloc (.cells Ks 5)):=(Below.refl w.heap.size w).alloc (Nat.le_refl _) _;have hs1:=h.below b0;have hz:w.heap.size≤(w.alloc (.cells Ks 5)).heap.size:=b0.size;generalize w.alloc (.cells Ks 5)=W at hmk ho0 b0 hs1 hz;go_enter func90,ntmps90
 go_wp2_with (at_builtin;refine Aa _ rfl _ _ 26 rfl w.heap.size 5 underlying26 AB _ _ rfl rfl (List.replicate 8 0) l ho0 hs1 (by simp;omega) hz ?_)
 intro v' w' ho hg;have hb2:Below w.heap.size w w':=b0.grown hg hz (fun k hk=>(ho0.lt k hk).1);have HO:Hid (w'.ownsRow w.heap.size 5 1 v' (BL l).length ((BL l).map (Value.int .u8))):=by
  unfold Hid;rw[HL.out];exact ho
 clear ho hg ho0 hs1 hmk;go_wp2
 go_ret;exact⟨v',rfl,Sl.ofOwns HO.out (by rw[HL.out];omega) HB.out,hb2⟩
theorem Sl.first{w:World}{a:Option Addr}{n cap:Nat}{l:List Int}(h:Sl w (.slice a n cap) l)(m:Nat)(hm:m≤l.length)(h0:0<m):Sl w (.slice (a.map (·.add 0)) m m) (l.take m):=by
 obtain⟨⟨a',cap',e,hc,hn,h1⟩,hla,hba⟩:=h;simp only[Value.slice.injEq]at e;obtain⟨rfl,rfl,rfl⟩:=e;have hl:(l.take m).length=m:=by rw[List.length_take];omega
 rcases h1 with rfl|⟨b,off,rfl,hb,hcell⟩
 ·simp at hm;omega
 ·have hadd:(⟨b,off,none⟩:Addr).add 0=⟨b,off,none⟩:=by unfold Addr.add;simp
  refine⟨⟨some ⟨b,off,none⟩,m,by rw[hl,Option.map_some,hadd],by omega,by simp,.inr ⟨b,off,rfl,hb,fun i hi=>?_⟩⟩,by omega,fun x hx=>hba x (List.mem_of_mem_take hx)⟩;rw[hcell i (by omega),AG (by omega),AG hi];simp
theorem Tz(a:Option Addr)(n cap:Nat)(hc:4≤cap):∀ W,(Instr.slice 26 (.slice a n cap) none (some (.int .i64 4)) (some (.int .i64 4))).run prog W=.ok (.slice (a.map (·.add 0)) 4 4) W:=by
 intro W;rw[run_slice_hm (P:=prog) W 26 a n cap underlying26 .i64 .i64 4 4 (by omega) (by omega) (by omega)];have e:prog.elem 26=5:=by kernel_rfl
 rw[e,JS];simp[Result.andThen,sliced]
theorem VZ(v:Value)(l:List Int)(w:World)(h:Sl w v l)(hl:4≤l.length) :
  Calls prog 195 #[v] w fun e w'=>∃ va vb,e=.returned (.tuple #[va,vb])∧Sl w' va (l.take 4)∧Sl w' vb (l.drop 4)∧Below w.heap.size w w':=by
 obtain⟨a,c,rfl⟩:=h.shape;have hc:l.length≤c:=by
  obtain⟨⟨a',cap',e,hc,_⟩,_⟩:=h;simp only[Value.slice.injEq]at e;omega
 obtain⟨a2,c2,r2',s2⟩:=h.from 4 hl;have r2:∀ W,(Instr.slice 26 (.slice a l.length c) (some (.int .i64 4)) none none).run prog W=.ok (.slice a2 (l.length-4) c2) W:=r2';have r1:=Tz a l.length c (by omega);have s1:=h.first 4 hl (by omega);clear r2';generalize l.length-4=n2 at r2 s2;generalize a.map (·.add 0)=a1 at r1 s1;go_enter func195,ntmps195
 go_wp2_with fail
 go_quiet (fail)
 have e1:Below w.heap.size w (w.drewN nq):=Ag (Below.refl _ _) nq;generalize w.drewN nq=w1 at e1 ⊢;go_wp2
 go_ret2
 exact⟨_,_,rfl,s1.below e1,s2.below e1,e1⟩
theorem Il(n:Int)(w:World) :
  Calls prog 133 #[.int .i64 n] w fun e w'=>e=.returned (.bool (decide (0≤n∧n≤1073741824)))∧w'=w:=by
 by_cases h0:0≤n
 ·by_cases h1:n≤1073741824
  ·rw[decide_eq_true ⟨h0,h1⟩];go_enter func133,ntmps133
   go_wp2
   go_ret;exact⟨Ab (by simp),rfl⟩
  ·rw[decide_eq_false (by omega)];go_enter func133,ntmps133
   go_wp2
   go_ret;exact⟨Ab (by simp),rfl⟩
 ·rw[decide_eq_false (by omega)];go_enter func133,ntmps133
  go_wp2
  go_ret;exact⟨Ab (by simp),rfl⟩
theorem YF{key:List Int}{s t:Int}{l:List Bool}(h1:key.length=32)(h2:0≤s∧s≤1073741824)(h3:0≤t∧t≤1073741824)(h4:P0 t l=true):OkC key s t l :=
 ⟨h1,h2.1,h2.2,h3.1,h3.2,((ER t l).1 h4).1,((ER t l).1 h4).2⟩
theorem KS{key:List Int}{s t:Int}{l:List Bool}(h:OkC key s t l):EF key s t l=0:=if_pos h
theorem DP{key:List Int}{s t:Int}{l:List Bool}(h:¬ OkC key s t l):EF key s t l=5:=if_neg h
theorem KT(vk:Value)(key:List Int)(s t:Int)(l:List Bool)(w:World)(hk:Sl w vk key)(hl:l.length=8) :
  Calls prog 87 #[.agg (chA vk s t l)] w fun e w'=>e=.returned (.int .i64 (EF key s t l))∧Below w.heap.size w w':=by
 obtain⟨ak,ck,rfl⟩:=hk.shape;have hkl:=hk.len;have bb:Below w.heap.size w (w.alloc (.cells (chA (.slice ak key.length ck) s t l) 55)):=(Below.refl _ _).alloc (Nat.le_refl _) _;obtain⟨b0,b1,b2,b3,b4,b5,b6,b7,rfl⟩:=FC l hl;by_cases h1:key.length=32
 ·have HK:Hid (key.length=32):=h1;obtain⟨E,hE⟩:∃ E,EF key s t [b0,b1,b2,b3,b4,b5,b6,b7]=E:=⟨_,rfl⟩;have HE:Hid (EF key s t [b0,b1,b2,b3,b4,b5,b6,b7]=E):=hE;rw[hE];clear hE;have bb0:=bb;simp only[chA,List.map]at bb ⊢;rw[h1]at bb bb0 hk ⊢
  have rr:=heap_alloc_new w (.cells (chA (.slice ak 32 ck) s t [b0,b1,b2,b3,b4,b5,b6,b7]) 55);clear h1;go_enter func87,ntmps87
  go_wp2_with fail
  refine(Il s _).mono ?_;rintro e w1 ⟨rfl,rfl⟩;by_cases h2:0≤s∧s≤1073741824
  ·rw[decide_eq_true h2];go_wp2_with fail
   refine(Il t _).mono ?_;rintro e w1 ⟨rfl,rfl⟩;by_cases h3:0≤t∧t≤1073741824
   ·rw[decide_eq_true h3];go_wp2_with fail
    refine(E5 (.slice ak 32 ck) s t [b0,b1,b2,b3,b4,b5,b6,b7] _ rfl).mono ?_;rintro e w2 ⟨rfl,c2⟩;have d2:Below w.heap.size w w2:=bb0.trans (c2.mono (by simp));go_wp2_with fail
    refine(RR t [b0,b1,b2,b3,b4,b5,b6,b7] w2 rfl h3.1 h3.2).mono ?_;rintro e w3 ⟨rfl,c3⟩;have d3:Below w.heap.size w w3:=d2.trans (c3.mono d2.size);cases h4:P0 t [b0,b1,b2,b3,b4,b5,b6,b7]with
    | true =>
     have H5:Hid (0=E):=HE.out▸(KS (YF HK.out h2 h3 h4)).symm;go_wp2
     go_ret;exact⟨AC H5.out,d3⟩
    | false =>
     have H5:Hid (5=E):=HE.out▸(DP (fun h=>by
      have:=(ER t [b0,b1,b2,b3,b4,b5,b6,b7]).2 ⟨h.low,h.top⟩;rw[h4]at this
      cases this)).symm
     go_wp2
     go_ret;exact⟨AC H5.out,d3⟩
   ·rw[decide_eq_false h3];have H5:Hid (5=E):=HE.out▸(DP (fun h=>h3 ⟨h.t0,h.t1⟩)).symm;go_wp2
    go_ret;exact⟨AC H5.out,bb⟩
  ·rw[decide_eq_false h2];have H5:Hid (5=E):=HE.out▸(DP (fun h=>h2 ⟨h.s0,h.s1⟩)).symm;go_wp2
   go_ret;exact⟨AC H5.out,bb⟩
 ·have HE:Hid (EF key s t [b0,b1,b2,b3,b4,b5,b6,b7]=5):=DP fun h=>h1 h.key;have h1':¬ (key.length:Int)=32:=by omega
  simp only[chA,List.map]at bb ⊢;go_enter func87,ntmps87
  go_wp2
  go_ret;exact⟨AC HE.out.symm,bb⟩
theorem FO{k:Value}{s t:Int}{l:List Bool}(hl:l.length=8):(prog.info? 55).map (·.size)=some (chA k s t l).size:=by rw[Ji,hl];kernel_rfl
theorem LU{w:World}{k:Value}{key:List Int}(hk:Sl w k key)(s t:Int)(l:List Bool):(chA k s t l).all (·.oneCell')=true:=by
 obtain⟨a,c,rfl⟩:=hk.shape;simp[chA,Value.oneCell']
theorem WK(vk:Value)(key:List Int)(w:World)(hk:Sl w vk key) :
  Calls prog 95 #[vk] w fun e w'=>∃ v',e=.returned (.tuple #[.agg (chA v' 0 0 noB),.int .i64 (if key.length=32 then 0 else 1)])∧w'.ownsRow 0 5 1 v' (if key.length=32 then key else[]).length ((if key.length=32 then key else[]).map (Value.int .u8))∧Below w.heap.size w w':=by
 obtain⟨ak,ck,rfl⟩:=hk.shape;have hkl:=hk.len;by_cases h1:key.length=32
 ·rw[if_pos h1,if_pos h1];rw[h1]at hk ⊢
  have bb:Below w.heap.size w (w.alloc (.cells (chA (.slice none 0 0) 0 0 noB) 55)):=(Below.refl _ _).alloc (Nat.le_refl _) _;have rr:=heap_alloc_new w (.cells (chA (.slice none 0 0) 0 0 noB) 55);have hz:(w.alloc (.cells (chA (.slice none 0 0) 0 0 noB) 55)).heap.size=w.heap.size+1:=by simp
  go_enter func95,ntmps95
  go_wp2_with fail
  refine(KU _ key _ (hk.below bb)).mono ?_;rintro e w1 ⟨v1,rfl,o1,c1⟩;rw[hz]at o1
  have s1:=Sl.ofOwns o1 hk.len hk.byte;have r1:=(c1.block w.heap.size (by rw[hz];omega)).trans rr;have d1:Below w.heap.size w w1:=bb.trans (c1.mono (by rw[hz];omega));have hi:=FO (k:=v1) (s:=0) (t:=0) FU;have ho:=LU s1 0 0 noB;clear c1 rr bb hz;have hold:(chA (.slice none 0 0) 0 0 noB).size=(chA v1 0 0 noB).size:=by rw[Ji,Ji]
  obtain⟨a1,c1,hv1⟩:=s1.shape;rw[h1]at hv1
  subst hv1;go_wp2_with (refine wpList_store_row rfl 55 (.tmp 2) (.tmp 10) rfl w.heap.size (chA (.slice a1 32 c1) 0 0 noB) rfl rfl 55 _ r1 hi hold ho ?_)
  have r2:=setRow_heap w1 w.heap.size _ (chA (.slice a1 32 c1) 0 0 noB) 55 _ r1;have d3:Below w.heap.size w (w1.setRow w.heap.size (chA (.slice a1 32 c1) 0 0 noB)):=below_setRow d1 (Nat.le_refl _) _;have s2:(w1.setRow w.heap.size (chA (.slice a1 32 c1) 0 0 noB)).ownsRow 0 5 1 (.slice a1 32 c1) key.length (key.map (Value.int .u8)) :=
   B1 (FY o1 fun k hk'=>setRow_other _ _ _ _ (by have:=(o1.lt k hk').1;omega)) (Nat.zero_le _)
  exact bodyPost_ret (GJ rfl _ _ w.heap.size 55 _ (0,0) _ rfl r2 underlying55 rfl hi) rfl ⟨.slice a1 32 c1,rfl,h1▸s2,d3⟩
 ·rw[if_neg h1,if_neg h1];have h1':¬ (key.length:Int)=32:=by omega
  go_enter func95,ntmps95
  go_wp2
  exact bodyPost_ret (GJ rfl _ _ w.heap.size 55 (chA (.slice none 0 0) 0 0 noB) (0,0) _ rfl (heap_alloc_new _ _) underlying55 rfl (FO FU)) rfl ⟨.slice none 0 0,rfl,World.ownsRow_nil _ _ _ _,(Below.refl _ _).alloc (Nat.le_refl _) _⟩
structure Bx(w W:World)(k:Value)(s t:Int)(l:List Bool):Prop where
 row:W.heap[w.heap.size]?=some (.cells (chA k s t l) 55 (0,0))
 bel:Below w.heap.size w W
theorem Bx.new(w:World)(k:Value)(s t:Int)(l:List Bool):Bx w (w.alloc (.cells (chA k s t l) 55)) k s t l:=⟨heap_alloc_new _ _,(Below.refl _ _).alloc (Nat.le_refl _) _⟩
theorem Bx.lt{w W:World}{k:Value}{s t:Int}{l:List Bool}(h:Bx w W k s t l):w.heap.size<W.heap.size:=(Array.getElem?_eq_some_iff.1 h.row).1
theorem Bx.step{w W W':World}{k:Value}{s t:Int}{l:List Bool}(h:Bx w W k s t l)(hb:Below W.heap.size W W'):Bx w W' k s t l :=
 ⟨(hb.block _ h.lt).trans h.row,h.bel.trans (hb.mono h.bel.size)⟩
theorem Bx.c0{w W:World}{k:Value}{s t:Int}{l:List Bool}(h:Bx w W k s t l):W.cell? ⟨w.heap.size,0,none⟩=some k:=(cell_of_row _ _ 0 _ _ _ h.row).trans (Qw k s t l)
end Go.Proofs.YtakgfdbjgeopdaaGreatDoor
