/- Part 17 of the walk: what the functions of the program do, one by one. -/
import Derived.Test.YtakgfdbjgeopdaaGreatDoorZ16
set_option maxRecDepth 100000
set_option maxHeartbeats 4000000
open Go.Proofs.Tryz
set_option linter.unusedVariables false
namespace Go.Proofs.YtakgfdbjgeopdaaGreatDoor
open Go.RowKit
structure Base(w0:World)(g:Gh)(w:World):Prop where
 b:Below w0.heap.size w0 w
 z:∀ k,k<w0.heap.size→g.t k=.z
theorem Base.ch{w0:World}{B:Nat}{T:List Tg}{g g':Gh}{w w':World}(h:Base w0 g w)(c:Cg B T g w g' w')(hz:Tg.z∉T):Base w0 g' w' :=
 have hs:∀ k,k<w0.heap.size→k<w.heap.size:=fun k hk=>Nat.lt_of_lt_of_le hk h.b.size
 ⟨⟨c.os.trans h.b.os,c.tape.trans h.b.tape,c.output.trans h.b.output,Nat.le_trans h.b.size c.size,fun k hk=>(c.zc hz (hs k hk) (h.z k hk)).trans (h.b.block k hk)⟩,fun k hk=>(c.tag (hs k hk) (by rw[h.z k hk];intro h;cases h)).trans (h.z k hk)⟩
structure Tabs(w:World):Prop where
 t:AI w
 n:NTab w
 q:C1 w
theorem Base.tt{w0:World}{g:Gh}{w:World}(h:Base w0 g w)(t:Tabs w0):AI w:=t.t.below h.b
theorem Base.tn{w0:World}{g:Gh}{w:World}(h:Base w0 g w)(t:Tabs w0):NTab w:=t.n.below h.b
theorem Base.tq{w0:World}{g:Gh}{w:World}(h:Base w0 g w)(t:Tabs w0):C1 w:=t.q.below t.q.pos h.b
theorem CX{g:Gh}{w':World}{B:Nat}{y:Value}{l:List Vt}(h:w'.ownsRow B 175 8 y l.length (vtL l))(hg:∀ b,B≤b→g.t b=.z)(hl:l.length≤2199023255488):∃ y3:S3,y=y3.v∧y3.n=l.length∧FSv g w' y3 l:=by
 have hs:=Sv.ofOwns h hl;rcases h.2 with⟨rfl,h0⟩|⟨b,cap,cur,rfl,hb,_⟩
 ·exact⟨s30,rfl,h0.symm,hs,fun hn=>absurd (List.eq_nil_of_length_eq_zero h0) hn⟩
 ·exact⟨⟨some ⟨b,0,none⟩,l.length,cap⟩,rfl,rfl,hs,fun _ a ha=>by simp only[Option.some.injEq]at ha;subst ha;exact hg b hb⟩
theorem Es{g:Gh}{w':World}{B:Nat}{y:Value}{l:List Int}(h:w'.ownsRow B 5 1 y l.length (l.map (Value.int .u8)))(hg:∀ b,B≤b→g.t b=.z)(hl:l.length≤140737488351232)(hb:∀ x∈l,0≤x∧x<256):∃ y3:S3,y=y3.v∧y3.n=l.length∧FSl g w' y3 l:=by
 rcases h.2 with⟨rfl,h0⟩|⟨b,cap,cur,rfl,hbb,hh,hc,_,hcs,ht⟩
 ·have hn:l=[]:=List.eq_nil_of_length_eq_zero h0;subst hn;exact⟨s30,rfl,rfl,⟨⟨none,0,rfl,Nat.le_refl _,fun _=>rfl,.inl rfl⟩,by simp,by simp⟩,fun hn=>absurd rfl hn⟩
 ·refine⟨⟨some ⟨b,0,none⟩,l.length,cap⟩,rfl,rfl,⟨⟨_,_,rfl,hc,fun h=>(by cases h),.inr ⟨b,0,rfl,rl hh,fun i hi=>?_⟩⟩,hl,hb⟩,fun _ a ha=>by simp only[Option.some.injEq]at ha;subst ha;exact hg b hbb⟩;have h1:(l.map (Value.int .u8))[i]?=some (.int .u8 (l.getD i 0)):=by rw[List.getElem?_map,List.getElem?_eq_getElem hi,List.getD_eq_getElem?_getD,List.getElem?_eq_getElem hi];rfl
  rw[← ht,List.getElem?_take]at h1
  split at h1
  ·rw[cell_of_row _ _ _ _ _ _ hh,Nat.zero_add];simpa using h1
  ·cases h1
theorem SR{d:List Int}{s:Int}{may:Prop}[Decidable may] {b:List Int} (h:BH d s may b=0):CN d s∧d.length+(b.length+5)≤100000∧may:=by
 unfold BH at h;by_cases hr:DH d s (b.length+5)≠0
 ·rw[if_pos hr]at h;exact absurd h hr
 ·rw[if_neg hr]at h
  have hm:may:=Decidable.byContradiction fun hm=>by rw[if_neg hm]at h;cases h
  have hr':DH d s (b.length+5)=0:=by simpa using hr
  unfold DH at hr';by_cases ht:CN d s
  ·rw[if_neg (fun g=>g ht)]at hr'
   refine⟨ht,?_,hm⟩;rcases Nat.lt_or_ge 100000 (d.length+(b.length+5))with h2|h2
   ·rw[if_pos h2]at hr';cases hr'
   ·exact h2
  ·rw[if_pos ht]at hr';cases hr'
theorem Hb{d:List Int}{s:Int}{may:Prop}[Decidable may] {b:List Int} (h:d.length≤140737488351232):(Da d s may b).length≤140737488351232:=by
 unfold Da;split
 ·rename_i h1
  have:=(SR h1).2.1;rw[List.length_append,GI];omega
 ·simp
theorem Fy{d:List Int}{s:Int}{may:Prop}[Decidable may] {b:List Int} (h:∀ x∈d,0≤x∧x<256) (hb:∀ x∈b,0≤x∧x<256) (hl:b.length≤255):∀ x∈Da d s may b,0≤x∧x<256:=by
 unfold Da;split
 ·intro x hx;rcases List.mem_append.1 hx with h1|h1
  ·exact h x h1
  ·exact JL hb hl x h1
 ·intro x hx;cases hx
theorem YH{a:Acc}{b:Bal}(h:BN a b=0):Ew a b=b∧Ev a b=a.vs:=⟨if_pos h,if_pos h⟩
theorem Qn{a:Acc}{v:Vt}(h:AW a v=0):BT a v=v.b∧CO a v=Bo a.vs v:=⟨if_pos h,if_pos h⟩
end Go.Proofs.YtakgfdbjgeopdaaGreatDoor
namespace Go.Proofs.YtakgfdbjgeopdaaGreatDoor
open Go.ChangeShapes Go.WideShapes Go.ChangeAt Go.RowKit
theorem bU{W:World}(h:laidMetH prog Rows.mootRefusesRow.laid W):Tabs W∧LWTab W∧LBTab W:=by
 have h':laidMet prog Rows.mootRefusesRow.laid W:=h;obtain⟨ps,⟨g0,t0,cs0,fuel0,p0,q0,hg0,ht0,hvar0,hd0,⟨g1,t1,cs1,fuel1,p1,q1,hg1,ht1,hvar1,hd1,⟨g2,t2,cs2,fuel2,p2,q2,hg2,ht2,hvar2,hd2,h4,_⟩,_⟩,_⟩,_⟩:=h';have h5:=Xl h4;obtain rfl:=Option.some.inj (TJ.symm.trans hg0);obtain rfl:=Option.some.inj (Pi.symm.trans ht0);obtain rfl:=Option.some.inj (ZK.symm.trans hg1);obtain rfl:=Option.some.inj (TK.symm.trans ht1);obtain rfl:=Option.some.inj (XD.symm.trans hg2);obtain rfl:=Option.some.inj (RA.symm.trans ht2);exact⟨⟨UY hvar1 hd1,WH hvar2 hd2,UQ hvar0 hd0⟩,h5.1,h5.2⟩
def Hd(os:Os)(W:World):Prop :=
 W={ World.holding prog os ⟨#[],#[],[]⟩with heap:=(((((World.holding prog os ⟨#[],#[],[]⟩).heap.modify 4 (Uj So)).modify 3 (Uj (Ps.map (Value.int .u32)).toArray)).modify 0 (Uj (Lr.map (Value.int .i64)).toArray)).modify 2 (Ue MQ)).modify 1 (Ue OI) }
theorem Wi(os:Os):∃ W,Hd os W:=⟨_,rfl⟩
end Go.Proofs.YtakgfdbjgeopdaaGreatDoor
namespace Go.Proofs.YtakgfdbjgeopdaaGreatDoor
open Go.RowKit
section
variable{P:Program}{fn:Func}{R:Ending→World→Prop}{B:Nat}{T:List Tg}{g:Gh}{w:World}
def Ua:List Kt→Bool|.c (.loop _)::_=>true|_=>false
def ZQ:List Kt→Code|.c (.loop b)::_=>b|_=>.skip
def isJ:List Kt→Bool|.j _::_=>true|_=>false
def jK:List Kt→Act→World→Prop|.j J::_=>J|_=>fun _ _=>False
def YO(s:Xs)(n:Nat)(J:Act→World→Prop)(e:List (Nat × Value))(z:Nat→Value)(L:List Sh):Xs:=⟨.c (ZQ s.K)::.j J::s.K.tail,⟨n,e,z⟩,L⟩
theorem BE{s:Xs}(n:Nat)(e0:List (Nat × Value))(m:List Bool)(L0:List Sh)(Inv:Nat→Gh→World→List (Nat × Value)→List Sh→Prop)(hl:Ua s.K=true)(hn:s.f.n=n)(he:e0.map (fun p=>lk s.f.z s.f.e p.1)=e0.map (·.2))(hL:BX (BK m s.L)=L0)
  (k:Nat)(h0:Kn B g w s.L→Inv k g w e0 L0)
  (round:∀ k g w e z L,Inv k g w e L→∀ J:Act→World→Prop,(∀ k' g' w' e' z' L',k'<k→Inv k' g' w' e' L'→Kn B g' w' L'→J (⟨n,e',z'⟩:Fm).act w')→GG P fn R B T (YO s n J e z L) g w):GG P fn R B T s g w:=by
 refine Ae fun hK=>gFm e0 he fun z=>?_;obtain⟨K,f,L⟩:=s;simp only at hn;subst hn;have hL':BX (BK m L)=L0:=hL;have hc:GG P fn R B T ⟨K,⟨f.n,e0,z⟩,BX (BK m L)⟩ g w→GG P fn R B T ⟨K,⟨f.n,e0,z⟩,L⟩ g w:=fun h=>⟨fun hK=>h.ex (hK.sub (CA m L)).clr⟩;refine hc ?_;rw[hL'];cases K with
 | nil=>cases hl
 | cons t K =>
  cases t with
  | c x =>
   cases x with
   | loop b=>exact ZJ Inv (fun k g w e z L hI J hJ=>round k g w e z L hI J hJ) (h0 hK)
   | _=>cases hl
  | _=>cases hl
theorem Cr{s:Xs}(J:Act→World→Prop)(n:Nat)(e:List (Nat × Value))(m:List Bool)(L':List Sh)(hi:isJ s.K=true)(hJ:jK s.K=J)(hn:s.f.n=n)(he:e.map (fun p=>lk s.f.z s.f.e p.1)=e.map (·.2))(hL:BX (BK m s.L)=L')(h:∀ z,Kn B g w s.L→Kn B g w L'→J (⟨n,e,z⟩:Fm).act w):GG P fn R B T s g w:=by
 refine Ae fun hK0=>gFm e he fun z=>⟨fun hK=>?_⟩;obtain⟨K,f,L⟩:=s;simp only at hn hJ hL hi hK0;subst hn;have hK':Kn B g w L':=by rw[← hL];exact(hK.sub (CA m L)).clr
 cases K with
 | nil=>cases hi
 | cons t K =>
  cases t with
  | j J'=>simp only[jK]at hJ;rw[hJ];exact h z hK0 hK'
  | _=>cases hi
def Ke(s:Xs)(i:Nat):Xs:=match s.K with|.x ops (u+1) Ld e L0::K=>⟨.y ops u Ld e L0 i::K,s.f,s.L⟩|_=>s
def Zf(s:Xs)(i j:Nat):Bool:=match s.K with|.x ops (_+1) Ld _ _::_=>(match Region.ready .any ops Ld with|[k,l]=>Nat.beq k i&&Nat.beq l j|_=>false)|_=>false
theorem Cs{s:Xs}(i j:Nat)(hb:Zf s i j=true)(h1:GG P fn R B T (Ke s i) g w)(h2:GG P fn R B T (Ke s j) g w):GG P fn R B T s g w:=by
 refine⟨fun hK=>?_⟩;obtain⟨K,f,L⟩:=s;have e1:=h1.ex;have e2:=h2.ex;unfold Ke at e1 e2;unfold Zf at hb;cases K with
 | nil=>cases hb
 | cons t K =>
  cases t with
  | x ops u Ld e L0 =>
   cases u with
   | zero=>cases hb
   | succ u =>
    simp only at e1 e2 hb;have hr:Region.ready .any ops Ld=[i,j]:=by
     split at hb
     ·rename_i k l hk
      simp only[Bool.and_eq_true]at hb;rw[hk,Nat.eq_of_beq_eq_true hb.1,Nat.eq_of_beq_eq_true hb.2]
     ·cases hb
    exact ce hr (e1 hK) (e2 hK)
  | _=>cases hb
def VY(s:Xs)(J:Act→World→Prop):Xs:=match s.K with|t::K=>⟨t::.j J::K,s.f,s.L⟩|[]=>s
theorem Df(Q:Exit→Act→World→Prop):Exit.then (Q .normal) Q=Q:=by
 funext e a w
 cases e<;>rfl
theorem BD{s:Xs}(n:Nat)(Inv:Gh→World→List (Nat × Value)→List Sh→Prop)(hs:s.K.isEmpty=false)(h1:∀ J:Act→World→Prop,(∀ g' w' e z L,Inv g' w' e L→Kn B g' w' L→J (⟨n,e,z⟩:Fm).act w')→GG P fn R B T (VY s J) g w)
  (h2:∀ g' w' e z L,Inv g' w' e L→GG P fn R B T ⟨s.K.tail,⟨n,e,z⟩,L⟩ g' w'):GG P fn R B T s g w:=by
 obtain⟨K,f,L⟩:=s;cases K with
 | nil=>cases hs
 | cons t K =>
  have h3:=h1 (Kq P (bodyPost P fn R) K .normal) (fun g' w' e z L hI hK=>(h2 g' w' e z L hI).ex hK);refine⟨fun hK=>?_⟩;have h4:=h3.ex hK;unfold VY at h4;simp only at h4;cases t with
  | c x=>simp only[Kq,Df]at h4 ⊢;exact h4
  | b id=>simp only[Kq,Df]at h4 ⊢;exact h4
  | o ops is=>simp only[Kq,Df]at h4 ⊢;exact h4
  | x ops m Ld e L0=>simp only[Kq,Df]at h4 ⊢;exact h4
  | y ops m Ld e L0 i=>simp only[Kq,Df]at h4 ⊢;exact h4
  | j J=>simp only[Kq,Df]at h4 ⊢;exact h4
def zL(L:List Sh)(k:Nat):List Sh:=L.set k { L.getD k default with t:=.z,w:=false }
theorem ZL{s:Xs}(k:Nat)(b:Nat)(hk:(BX s.L)[k]?.map (fun x=>(x.g,x.t))=some (b,.l))(h:∀ g',Cg B [] g w g' w→GG P fn R B T ⟨s.K,s.f,zL (BX s.L) k⟩ g' w):GG P fn R B T s g w:=by
 refine⟨fun hK0=>?_⟩;have hK:=hK0.clr;generalize hL:BX s.L=L at *;have hwf:∀ x∈L,x.w=false:=fun x hx=>by rw[← hL]at hx;obtain⟨y,_,rfl⟩:=List.mem_map.1 hx;rfl
 have hkl:k<L.length:=by
  cases hx:L[k]? with
  | none=>rw[hx]at hk;cases hk
  | some x=>exact(List.getElem?_eq_some_iff.1 hx).1
 have hg:L.getD k default=L[k]:=by rw[List.getD_eq_getElem?_getD,List.getElem?_eq_getElem hkl];rfl
 rw[List.getElem?_eq_getElem hkl]at hk
 simp only[Option.map_some,Option.some.injEq,Prod.mk.injEq]at hk;obtain⟨hb,ht⟩:=hk;have hrow:=hK.row _ (List.getElem_mem hkl);have hd:∀ n (hn:n<L.length),n≠k→L[n].g≠b:=fun n hn hne he=>by
  have:=hK.two hn hkl hne (by rw[hb];exact he);rw[ht]at this
  cases this.2.1
 let g':Gh:=⟨fun c=>if c=b then .z else g.t c,g.k⟩
 have hgt:g.t b=.l:=by rw[← hb,hrow.2.1];exact ht
 have hBb:B≤b:=by rw[← hb];exact hrow.2.2.1 ht
 refine(h g' ⟨rfl,rfl,rfl,Nat.le_refl _,fun c hc=>?_,fun _ _=>Nat.le_refl _,fun _ _ _ _=>rfl,fun _ _ _ _=>rfl,fun _ _ _ _=>rfl⟩).ex ⟨fun x hx=>?_,?_,fun c hc=>?_,hK.base⟩
 ·show(if c=b then _ else _)=_∨(_∧_∧(if c=b then _ else _)=_);by_cases he:c=b
  ·subst he;right;exact⟨hgt,hBb,if_pos rfl⟩
  ·left;exact if_neg he
 ·unfold zL at hx;simp only at hx;rw[hg]at hx
  obtain⟨n,hn,rfl⟩:=List.getElem_of_mem hx;have hn':n<L.length:=by simpa using hn
  rw[List.getElem_set];split
  ·refine⟨hrow.1,?_,fun h=>(by cases h),fun h=>absurd rfl h⟩;show(if L[k].g=b then _ else _)=_;rw[if_pos hb]
  ·rename_i hne
   have h1:=hK.row _ (List.getElem_mem hn');refine⟨h1.1,?_,h1.2.2⟩;show(if L[n].g=b then _ else _)=_;rw[if_neg (hd n hn' (fun h=>hne h.symm))];exact h1.2.1
 ·show(zL L k).Pairwise _;unfold zL;rw[hg,List.pairwise_iff_getElem];intro i j hi hj hij he;have hi':i<L.length:=by simpa using hi
  have hj':j<L.length:=by simpa using hj
  rw[List.getElem_set,List.getElem_set]at he ⊢
  by_cases h1:k=i
  ·rw[if_pos h1]at he ⊢
   rw[if_neg (by omega)]at he ⊢
   exact absurd he.symm (by show L[j].g≠L[k].g;rw[hb];exact hd j hj' (by omega))
  ·rw[if_neg h1]at he ⊢
   by_cases h2:k=j
   ·rw[if_pos h2]at he ⊢
    exact absurd he (by show L[i].g≠L[k].g;rw[hb];exact hd i hi' (by omega))
   ·rw[if_neg h2]at he ⊢
    exact hK.two hi' hj' (by omega) he
 ·have:=hK.new c hc;show(if c=b then _ else _)=_∧_;refine⟨?_,this.2⟩;split
  ·rfl
  ·exact this.1
end
def gS:Gh:=⟨fun _=>.z,fun _=>0⟩
section
variable{P:Program}{fn:Func}{R:Ending→World→Prop}{B:Nat}{T:List Tg}{g:Gh}{w:World}
def aR(s:Xs)(i j l:Nat):Bool:=match s.K with|.x ops (_+1) Ld _ _::_=>(match Region.ready .any ops Ld with|[a,b,c]=>Nat.beq a i&&(Nat.beq b j&&Nat.beq c l)|_=>false)|_=>false
theorem TL{s:Xs}(i j l:Nat)(hb:aR s i j l=true)(h1:GG P fn R B T (Ke s i) g w)(h2:GG P fn R B T (Ke s j) g w)(h3:GG P fn R B T (Ke s l) g w):GG P fn R B T s g w:=by
 refine⟨fun hK=>?_⟩;obtain⟨K,f,L⟩:=s;have e1:=h1.ex;have e2:=h2.ex;have e3:=h3.ex;unfold Ke at e1 e2 e3;unfold aR at hb;cases K with
 | nil=>cases hb
 | cons t K =>
  cases t with
  | x ops u Ld e L0 =>
   cases u with
   | zero=>cases hb
   | succ u =>
    simp only at e1 e2 e3 hb;have hr:Region.ready .any ops Ld=[i,j,l]:=by
     split at hb
     ·rename_i a b c hk
      simp only[Bool.and_eq_true]at hb;rw[hk,Nat.eq_of_beq_eq_true hb.1,Nat.eq_of_beq_eq_true hb.2.1,Nat.eq_of_beq_eq_true hb.2.2]
     ·cases hb
    refine⟨fun h0=>absurd (hr▸h0) (by simp),hr▸(fun q hq=>?_)⟩;rcases(show q=i∨q=j∨q=l by simpa using hq)with rfl|rfl|rfl
    ·exact e1 hK
    ·exact e2 hK
    ·exact e3 hK
  | _=>cases hb
def QQ:List Sh→List Sh
 | [a,b]=>[b,a]
 | a::l=>a::QQ l
 | []=>[]
theorem Ge:∀ L:List Sh,(QQ L).Perm L
 | []=>.refl _
 | [a]=>by simp[QQ]
 | [a,b]=>.swap _ _ _
 | a::b::c::l=>(Ge (b::c::l)).cons a
theorem La{s:Xs}(h:GG P fn R B T ⟨s.K,s.f,QQ s.L⟩ g w):GG P fn R B T s g w:=by
 refine⟨fun hK=>h.ex ⟨fun x hx=>hK.row x ((Ge s.L).mem_iff.1 hx),?_,hK.new,hK.base⟩⟩;refine(Ge s.L).symm.pairwise hK.nod ?_;intro x y hxy e;have:=hxy e.symm;exact⟨this.2,this.1⟩
theorem bD{s:Xs}{r i:Nat}{e:TypeId}{sz:Nat}{x:S3}{xs:List Value}(hO:OwnS g w (.n r i) false e sz x xs)(hT:s.L.all (fun y=>y.t.ne (.n r i))=true)(h:∀ g',Cg B [.n r i] g w g' w→OwnS g' w (.n r i) true e sz x xs→GG P fn R B T s g' w):GG P fn R B T s g w:=by
 refine⟨fun hK=>?_⟩;rcases hO.ex with h1|⟨b,cur,h1,h2,h3,h4,h5,h6,h7,h8⟩
 ·exact(h g (Cg.refl _ _ _ _) ⟨hO.len,.inl h1⟩).ex hK
 ·have h80:g.k b=0:=h8;have hlt:b<w.heap.size:=(Array.getElem?_eq_some_iff.1 h2).1;refine(h (ZI g b xs.length) ⟨rfl,rfl,rfl,Nat.le_refl _,fun _ _=>.inl rfl,fun d hd=>?_,fun d hd hd1 _=>if_neg (fun e=>hd1 (by rw[e,h7];exact List.mem_singleton.2 rfl)),fun _ _ _ _=>rfl,fun _ _ _ _=>rfl⟩ ⟨hO.len,.inr ⟨b,cur,h1,h2,h3,h4,h5,h6,h7,if_pos rfl⟩⟩).ex ⟨fun y hy=>?_,hK.nod,fun d hd=>?_,hK.base⟩
  ·show g.k d≤(if d=b then _ else g.k d);split
   ·rename_i e;rw[e,h80];exact Nat.zero_le _
   ·exact Nat.le_refl _
  ·obtain⟨k1,k2,k3,k4⟩:=hK.row y hy;refine⟨k1,k2,k3,fun hz=>?_⟩;show(if y.g=b then _ else g.k y.g)=0;rw[if_neg (fun e=>Tg.ne_ne (List.all_eq_true.1 hT y hy) (by rw[← k2,e,h7]))];exact k4 hz
  ·have:=hK.new d hd;refine⟨this.1,?_⟩;show(if d=b then _ else g.k d)=0;rw[if_neg (by omega)];exact this.2
end
theorem Tk{P:Program}{s:Xs}{i':Nat}{S:Sem Value}{v:Value}{W:World}(h:Dv s i'=some (S>>=fun v=>pure (.value v)))(hr:S.run P W=.ok v W):Dj P s i' W=some (.ok (.value v) W):=by
 unfold Dj;unfold Dv at h;cases hx:opN s i' with
 | none=>rw[hx]at h;cases h
 | some x =>
  rw[hx]at h
  simp only[Option.map_some,Option.some.injEq]at h ⊢;rw[h,Sem.run_bind,hr,Result.andThen_ok];rfl
section
variable{P:Program}{W:World}
theorem q8z(ts:Array TypeId)(t:TypeId)(a b:Int):(Builtin.max_ ts t #[iv a,iv b]).run P W=.ok (iv (max a b)) W:=by
 rw[run_max_int2]
 congr 2
 rw[Int.max_def];by_cases h:a<b
 ·rw[if_pos h,if_pos (by omega)]
 ·rw[if_neg h];by_cases h2:a≤b
  ·rw[if_pos h2];omega
  ·rw[if_neg h2]
theorem aw(ts:Array TypeId)(t:TypeId)(a b:Int):(Builtin.min_ ts t #[iv a,iv b]).run P W=.ok (iv (min a b)) W:=by
 rw[run_min_int2]
 congr 2
 rw[Int.min_def];by_cases h:b<a
 ·rw[if_pos h,if_neg (by omega)]
 ·rw[if_neg h,if_pos (by omega)]
theorem B7{x y:Operand}{t:TypeId}(a b:Int)(hk:P.underlying t=some (.int .i64))(h:-9223372036854775808≤a+b∧a+b≤9223372036854775807):(do Go.eqGuard .add t x y (iv a) (iv b);Go.binOp .add t (iv a) (iv b):Sem Value).run P W=.ok (iv (a+b)) W:=by
 have hw:IntKind.i64.wrap (a+b)=a+b:=by rw[IntKind.wrap_i64];omega
 simp[Go.eqGuard,Go.binOp,go_sem,hw]
theorem bP{x y:Operand}{t:TypeId}(a b:Int)(hk:P.underlying t=some (.int .i64))(h:-9223372036854775808≤a-b∧a-b≤9223372036854775807):(do Go.eqGuard .sub t x y (iv a) (iv b);Go.binOp .sub t (iv a) (iv b):Sem Value).run P W=.ok (iv (a-b)) W:=by
 have hw:IntKind.i64.wrap (a-b)=a-b:=by rw[IntKind.wrap_i64];omega
 simp[Go.eqGuard,Go.binOp,go_sem,hw]
end
theorem Qt(a b:Bal):decide (a.r=b.r∧a.n=b.n)=decide (a=b):=decide_eq_decide.2 (Bal.eq_iff a b)
theorem bF{W:World}{x y:Operand}(a b:Bal):(do Go.eqGuard .eql 112 x y (.agg #[iv a.r,iv a.n]) (.agg #[iv b.r,iv b.n]);Go.binOp .eql 112 (.agg #[iv a.r,iv a.n]) (.agg #[iv b.r,iv b.n]):Sem Value).run prog W=.ok (.bool (decide (a=b))) W:=by
 have h1:=Wh a.r a.n b.r b.n W;rw[Qt]at h1
 have hg:(Go.eqGuard .eql 112 x y (.agg #[iv a.r,iv a.n]) (.agg #[iv b.r,iv b.n])).run prog W=.ok () W:=by kernel_rfl
 rw[Sem.run_bind,hg,Result.andThen_ok];exact h1
theorem YB(a b a' b':Int):∀ w,(binOp .neq 112 (.agg #[.int .i64 a,.int .i64 b]) (.agg #[.int .i64 a',.int .i64 b'])).run prog w=.ok (.bool (!decide (a=a'∧b=b'))) w:=by
 intro w;rw[run_neq_struct,run_equalIn_agg w 9999 _ _ _ (by kernel_rfl) (by kernel_rfl)];unfold Program.fieldsOf;rw[underlying112];have h3:=underlying3;simp[Op.eqFields,go_sem,h3]
 repeat' split
 all_goals simp_all
theorem az{W:World}{x y:Operand}(a b:Bal):(do Go.eqGuard .neq 112 x y (.agg #[iv a.r,iv a.n]) (.agg #[iv b.r,iv b.n]);Go.binOp .neq 112 (.agg #[iv a.r,iv a.n]) (.agg #[iv b.r,iv b.n]):Sem Value).run prog W=.ok (.bool (!decide (a=b))) W:=by
 have h1:=YB a.r a.n b.r b.n W;rw[Qt]at h1
 have hg:(Go.eqGuard .neq 112 x y (.agg #[iv a.r,iv a.n]) (.agg #[iv b.r,iv b.n])).run prog W=.ok () W:=by kernel_rfl
 rw[Sem.run_bind,hg,Result.andThen_ok];exact h1
theorem Qy(a b:Cmd):decide (a.k=b.k∧a.c=b.c∧a.s=b.s∧a.n=b.n∧a.v=b.v)=decide (a=b):=decide_eq_decide.2 (Cmd.eq_iff a b)
theorem bG{W:World}{x y:Operand}(a b:Cmd):(do Go.eqGuard .eql 25 x y (.agg #[iv a.k,iv a.c,iv a.s,iv a.n,iv a.v]) (.agg #[iv b.k,iv b.c,iv b.s,iv b.n,iv b.v]);Go.binOp .eql 25 (.agg #[iv a.k,iv a.c,iv a.s,iv a.n,iv a.v]) (.agg #[iv b.k,iv b.c,iv b.s,iv b.n,iv b.v]):Sem Value).run prog W=.ok (.bool (decide (a=b))) W:=by
 have h1:=Q3 a.k a.c a.s a.n a.v b.k b.c b.s b.n b.v W;rw[Qy]at h1
 have hg:(Go.eqGuard .eql 25 x y (.agg #[iv a.k,iv a.c,iv a.s,iv a.n,iv a.v]) (.agg #[iv b.k,iv b.c,iv b.s,iv b.n,iv b.v])).run prog W=.ok () W:=by kernel_rfl
 rw[Sem.run_bind,hg,Result.andThen_ok];exact h1
theorem Lx{W:World}{x y:Operand}(a b:Bal)(h:a≠b):(do Go.eqGuard .neq 112 x y (.agg #[iv a.r,iv a.n]) (.agg #[iv b.r,iv b.n]);Go.binOp .neq 112 (.agg #[iv a.r,iv a.n]) (.agg #[iv b.r,iv b.n]):Sem Value).run prog W=.ok (.bool true) W:=by rw[az,decide_eq_false h];rfl
theorem Lw{W:World}{x y:Operand}(a b:Bal)(h:a=b):(do Go.eqGuard .neq 112 x y (.agg #[iv a.r,iv a.n]) (.agg #[iv b.r,iv b.n]);Go.binOp .neq 112 (.agg #[iv a.r,iv a.n]) (.agg #[iv b.r,iv b.n]):Sem Value).run prog W=.ok (.bool false) W:=by rw[az,decide_eq_true h];rfl
theorem five{j:Nat}(h:j<5):j=0∨j=1∨j=2∨j=3∨j=4:=by omega
theorem Fe:∀ ts:List Tol,(ts.flatMap Kd).length=ts.length*5
 | []=>rfl
 | t::r=>by rw[List.flatMap_cons,List.length_append,Fe r,List.length_cons];show 5+_=_;omega
section
variable{P:Program}{fn:Func}{R:Ending→World→Prop}{B:Nat}{T:List Tg}{g:Gh}{w:World}
theorem qR{s:Xs}(T':List Tg)(m:Nat)(h:List Nat)(hk:∀ gs g' w',Cg B T' g w g' w'→GG P fn R B T (rn0 P T' gs m s h).s g' w')(hob:∀ gs,(rn0 P T' gs m s h).o.map Ob.l'=(rn0 P T' gs m s h).o.map Ob.r':=by intro _;kernel_rfl):GG P fn R B T s g w:=Yv T' m h hob hk
theorem qV{s:Xs}(i:Nat)(v:Value){S:Sem Value}(hr:S.run P w=.ok v w)(hk:GG P fn R B T (nxt s i v s.L).s g w)(hs:Dv s i=some (S>>=fun v=>pure (.value v)):=by kernel_rfl)(hob:(nxt s i undef s.L).o.map Ob.l'=(nxt s i undef s.L).o.map Ob.r':=by kernel_rfl):GG P fn R B T s g w:=Wm i v (fun _=>Tk hs hr) hob hk
theorem qT{s:Xs}(i:Nat)(v:Value){S:Sem Value}(hr:∀ W,S.run P W=.ok v W)(hk:GG P fn R B T (tkN s i v false).s g w)(hs:Dv s i=some (S>>=fun v=>pure (.value v)):=by kernel_rfl)(hob:(tkN s i undef false).o.map Ob.l'=(tkN s i undef false).o.map Ob.r':=by kernel_rfl):GG P fn R B T s g w:=Nm i v false (fun W _=>Tk hs (hr W)) hob hk
theorem qU{s:Xs}(i:Nat)(v:Value){S:Sem Value}(hr:∀ W,(true=true→AL (UZ s) W)→S.run P W=.ok v W)(hk:GG P fn R B T (tkN s i v true).s g w)(hs:Dv s i=some (S>>=fun v=>pure (.value v)):=by kernel_rfl)(hob:(tkN s i undef true).o.map Ob.l'=(tkN s i undef true).o.map Ob.r':=by kernel_rfl):GG P fn R B T s g w:=Nm i v true (fun W h=>Tk hs (hr W h)) hob hk
theorem qI{s:Xs}(b t:Bool)(hb:b=t)(h:GG P fn R B T (KW s t) g w)(hc:Qz s=.bool b:=by kernel_rfl):GG P fn R B T s g w:=gIf b t hb hc h
theorem qC{s:Xs}(i:Nat){f:FuncId}{av:Array Value}{C:Ending→World→Prop}(hc:Calls P f av w C)(hk:∀ e w',C e w'→∃ v,e=.returned v∧Below w.heap.size w w'∧GG P fn R B T (nxt s i v s.L).s g w')(hr:∀ W,Dj P s i W=some (.ok (.enter f av) W):=by intro _;kernel_rfl)(hd:OX s i=true:=by kernel_rfl)(hob:(nxt s i undef s.L).o.map Ob.l'=(nxt s i undef s.L).o.map Ob.r':=by kernel_rfl):GG P fn R B T s g w:=Yt i f av hr hd hob hc hk
theorem qG{s:Xs}(i:Nat)(T':List Tg)(m:List Bool){f:FuncId}{av:Array Value}{C:Ending→World→Prop}(hc:Calls P f av w C)(hk:∀ e w',C e w'→∃ v g',e=.returned v∧Cg w.heap.size T' g w g' w'∧(∀ b,w'.heap.size≤b→g'.t b=.z∧g'.k b=0)∧GG P fn R B T (nxt s i v (BK m s.L)).s g' w')(hr:∀ W,Dj P s i W=some (.ok (.enter f av) W):=by intro _;kernel_rfl)(hd:OX s i=true:=by kernel_rfl)(hob:(nxt s i undef (BK m s.L)).o.map Ob.l'=(nxt s i undef (BK m s.L)).o.map Ob.r':=by kernel_rfl)(hT:(BK m s.L).all (fun x=>T'.all fun t=>x.t.ne t)=true:=by kernel_rfl):GG P fn R B T s g w:=Ph i f av T' m hr hd hob hT hc hk
theorem qE{s:Xs}(v:Value)(h:Kn B g w s.L→R (.returned v) w)(hr:Kn B g w s.L→(results fn s.f.act.tmps).run P w=.ok v w:=by intro _;kernel_rfl)(hs:Ng s.K=true:=by kernel_rfl):GG P fn R B T s g w:=R9 v hs hr h
theorem qB{s:Xs}{J:Act→World→Prop}{n:Nat}{e:List (Nat × Value)}(m:List Bool){L':List Sh}(h:∀ z,Kn B g w s.L→Kn B g w L'→J (⟨n,e,z⟩:Fm).act w)(hi:isJ s.K=true:=by kernel_rfl)(hJ:jK s.K=J:=by kernel_rfl)(hn:s.f.n=n:=by kernel_rfl)(he:e.map (fun p=>lk s.f.z s.f.e p.1)=e.map (·.2):=by kernel_rfl)(hL:BX (BK m s.L)=L':=by kernel_rfl):GG P fn R B T s g w:=Cr J n e m L' hi hJ hn he hL h
theorem Kn.cel{L:List Sh}(h:Kn B g w L){i b:Nat}{cs:Array Value}(hx:(L[i]?).map (fun x=>(x.g,Ce x.o,Du x.o))=some (b,cs,true)):∃ e,w.heap[b]?=some (.cells cs e (0,0)):=by
 cases hi:L[i]? with
 | none=>rw[hi]at hx;cases hx
 | some x =>
  rw[hi]at hx
  have h1:=(h.row x (List.mem_of_getElem? hi)).1;obtain⟨xg,xo,xt,xw⟩:=x;simp only[Option.map_some,Option.some.injEq,Prod.mk.injEq]at hx h1;obtain⟨rfl,rfl,hp⟩:=hx;rw[h1];unfold Du at hp;split at hp
  ·exact⟨_,rfl⟩
  ·cases hp
theorem Gc{ty:TypeId}(h:EY P ty=true):∃ d,P.underlying ty=some d∧d.isRow=true:=by
 unfold EY at h;split at h
 ·rename_i d hd
  exact⟨d,hd,h⟩
 ·cases h
theorem qE1{s:Xs}(p:Tmp)(ty:TypeId)(i b:Nat)(cs:Array Value)(h:Kn B g w s.L→R (.returned (.agg cs)) w)(hx:(s.L[i]?).map (fun x=>(x.g,Ce x.o,Du x.o))=some (b,cs,true):=by kernel_rfl)(hf:fn.results=#[.cell p ty]:=by kernel_rfl)(hp:s.f.act.tmps.getD p undef=pt b 0:=by kernel_rfl)(hu:EY P ty=true:=by kernel_rfl)(hi:(P.info? ty).map (·.size)=some cs.size:=by kernel_rfl)(hs:Ng s.K=true:=by kernel_rfl):GG P fn R B T s g w :=
 R9 _ hs (fun K=>let ⟨e,he⟩:=K.cel hx;let ⟨d,h1,h2⟩:=Gc hu;Vq hf _ _ b e cs (0,0) d hp he h1 (by cases d<;>first|rfl|cases h2) hi) h
theorem qE2{s:Xs}(p u:Tmp)(ty:TypeId)(i b:Nat)(cs:Array Value)(v:Value)(h:Kn B g w s.L→R (.returned (.tuple #[.agg cs,v])) w)(hx:(s.L[i]?).map (fun x=>(x.g,Ce x.o,Du x.o))=some (b,cs,true):=by kernel_rfl)(hf:fn.results=#[.cell p ty,.tmp u]:=by kernel_rfl)(hp:s.f.act.tmps.getD p undef=pt b 0:=by kernel_rfl)(hv:s.f.act.tmps.getD u undef=v:=by kernel_rfl)(hu:EY P ty=true:=by kernel_rfl)(hi:(P.info? ty).map (·.size)=some cs.size:=by kernel_rfl)(hs:Ng s.K=true:=by kernel_rfl):GG P fn R B T s g w :=
 R9 _ hs (fun K=>let ⟨e,he⟩:=K.cel hx;let ⟨d,h1,h2⟩:=Gc hu;by rw[← hv];exact CU hf _ _ b e cs (0,0) d hp he h1 (by cases d<;>first|rfl|cases h2) hi) h
theorem qE3{s:Xs}(p u u':Tmp)(ty:TypeId)(i b:Nat)(cs:Array Value)(v v':Value)(h:Kn B g w s.L→R (.returned (.tuple #[.agg cs,v,v'])) w)(hx:(s.L[i]?).map (fun x=>(x.g,Ce x.o,Du x.o))=some (b,cs,true):=by kernel_rfl)(hf:fn.results=#[.cell p ty,.tmp u,.tmp u']:=by kernel_rfl)(hp:s.f.act.tmps.getD p undef=pt b 0:=by kernel_rfl)(hv:s.f.act.tmps.getD u undef=v:=by kernel_rfl)(hv':s.f.act.tmps.getD u' undef=v':=by kernel_rfl)(hu:EY P ty=true:=by kernel_rfl)(hi:(P.info? ty).map (·.size)=some cs.size:=by kernel_rfl)(hs:Ng s.K=true:=by kernel_rfl):GG P fn R B T s g w :=
 R9 _ hs (fun K=>let ⟨e,he⟩:=K.cel hx;let ⟨d,h1,h2⟩:=Gc hu;by rw[← hv,← hv'];exact Ix hf _ _ b e cs (0,0) d hp he h1 (by cases d<;>first|rfl|cases h2) hi) h
theorem qE4{s:Xs}(p p':Tmp)(ty ty':TypeId)(i b j b':Nat)(cs cs':Array Value)(h:Kn B g w s.L→R (.returned (.tuple #[.agg cs,.agg cs'])) w)(hx:(s.L[i]?).map (fun x=>(x.g,Ce x.o,Du x.o))=some (b,cs,true):=by kernel_rfl)(hx':(s.L[j]?).map (fun x=>(x.g,Ce x.o,Du x.o))=some (b',cs',true):=by kernel_rfl)(hf:fn.results=#[.cell p ty,.cell p' ty']:=by kernel_rfl)(hp:s.f.act.tmps.getD p undef=pt b 0:=by kernel_rfl)(hp':s.f.act.tmps.getD p' undef=pt b' 0:=by kernel_rfl)(hu:EY P ty=true:=by kernel_rfl)(hu':EY P ty'=true:=by kernel_rfl)(hi:(P.info? ty).map (·.size)=some cs.size:=by kernel_rfl)(hi':(P.info? ty').map (·.size)=some cs'.size:=by kernel_rfl)(hs:Ng s.K=true:=by kernel_rfl):GG P fn R B T s g w :=
 R9 _ hs (fun K=>let ⟨e,he⟩:=K.cel hx;let ⟨e',he'⟩:=K.cel hx';let ⟨d,h1,h2⟩:=Gc hu;let ⟨d',h3,h4⟩:=Gc hu';ZB hf _ _ b b' e e' cs cs' (0,0) (0,0) d d' hp he h1 (by cases d<;>first|rfl|cases h2) hi hp' he' h3 (by cases d'<;>first|rfl|cases h4) hi') h
theorem qE5{s:Xs}(p p' u:Tmp)(ty ty':TypeId)(i b j b':Nat)(cs cs':Array Value)(v:Value)(h:Kn B g w s.L→R (.returned (.tuple #[.agg cs,.agg cs',v])) w)(hx:(s.L[i]?).map (fun x=>(x.g,Ce x.o,Du x.o))=some (b,cs,true):=by kernel_rfl)(hx':(s.L[j]?).map (fun x=>(x.g,Ce x.o,Du x.o))=some (b',cs',true):=by kernel_rfl)(hf:fn.results=#[.cell p ty,.cell p' ty',.tmp u]:=by kernel_rfl)(hp:s.f.act.tmps.getD p undef=pt b 0:=by kernel_rfl)(hp':s.f.act.tmps.getD p' undef=pt b' 0:=by kernel_rfl)(hv:s.f.act.tmps.getD u undef=v:=by kernel_rfl)(hu:EY P ty=true:=by kernel_rfl)(hu':EY P ty'=true:=by kernel_rfl)(hi:(P.info? ty).map (·.size)=some cs.size:=by kernel_rfl)(hi':(P.info? ty').map (·.size)=some cs'.size:=by kernel_rfl)(hs:Ng s.K=true:=by kernel_rfl):GG P fn R B T s g w :=
 R9 _ hs (fun K=>let ⟨e,he⟩:=K.cel hx;let ⟨e',he'⟩:=K.cel hx';let ⟨d,h1,h2⟩:=Gc hu;let ⟨d',h3,h4⟩:=Gc hu';by rw[← hv];exact ZC hf _ _ b b' e e' cs cs' (0,0) (0,0) d d' hp he h1 (by cases d<;>first|rfl|cases h2) hi hp' he' h3 (by cases d'<;>first|rfl|cases h4) hi') h
theorem qN{s:Xs}{i nb ob:Nat}{x:NX}{p:Nod}(h:NodeAt g w i nb ob x p)(hk:GG P fn R B T ⟨s.K,s.f,BX s.L++[⟨nb,.cells (Ao i ob p x) 134,.n 0 i,false⟩]⟩ g w)(hT:s.L.all (fun y=>(Tg.n 0 i).ne y.t)=true:=by kernel_rfl):GG P fn R B T s g w:=Gv nb _ 0 i h.row h.tag h.kap hT hk
theorem qO{s:Xs}{ob:Nat}{lt tl:S3}{ls:List Let}{ts:List Tol}(h:OutAt g w ob lt tl ls ts)(hk:GG P fn R B T ⟨s.K,s.f,BX s.L++[⟨ob,.cells #[lt.v,tl.v] 104,.n 50 0,false⟩]⟩ g w)(hT:s.L.all (fun y=>(Tg.n 50 0).ne y.t)=true:=by kernel_rfl):GG P fn R B T s g w:=Gv ob _ 50 0 h.row h.tag h.kap hT hk
theorem Kn.nd{L:List Sh}{i nb ob:Nat}{x:NX}{p:Nod}(h:Kn B g w L)(k:Nat)(f1:FSl g w x.tape p.d)(f2:FSv g w x.votes p.vo.vs)(f3:∀ j,j<5→FSv g w (x.hv j) (p.rnd.heard j).vs)(f4:∃ vs,OwnS g w (.n 1 i) true 1 1 x.synced vs∧Pends g w nb vs p.pend)(f5:OwnS g w (.n 2 i) false 25 5 x.queue (cmL p.rnd.queue))(f6:OwnS g w (.n 3 i) true 25 5 x.agreed (cmL p.agreed))(f7:OwnS g w (.n 4 i) false 25 5 x.wants (cmL p.wants))(f8:SS g w i p.asked x.asked)(f9:p.up=true→∃ b,x.asked=some b)(hx:L[k]?=some ⟨nb,.cells (Ao i ob p x) 134,.n 0 i,false⟩:=by kernel_rfl):NodeAt g w i nb ob x p :=
 have q:=h.isN k nb _ 0 i hx
 ⟨q.1,q.2.1,q.2.2,f1,f2,f3,f4,f5,f6,f7,f8,f9⟩
theorem Kn.ndu{L:List Sh}{i nb ob:Nat}{x x0:NX}{p p0:Nod}{g0:Gh}{w0:World}{C:Nat}{T0:List Tg}(h:Kn B g w L)(k:Nat)(hN:NodeAt g0 w0 i nb ob x0 p0)(c:Cg C T0 g0 w0 g w)(hx:L[k]?=some ⟨nb,.cells (Ao i ob p x) 134,.n 0 i,false⟩:=by kernel_rfl)(hz:Tg.z∉T0:=by simp)(hr:∀ r,1≤r→r<6→Tg.n r i∉T0:=by simp;try omega)(e1:x=x0:=by rfl)(e2:p.d=p0.d:=by rfl)(e3:p.vo.vs=p0.vo.vs:=by rfl)(e4:p.rnd.heard=p0.rnd.heard:=by rfl)(e5:p.pend=p0.pend:=by rfl)(e6:p.rnd.queue=p0.rnd.queue:=by rfl)(e7:p.agreed=p0.agreed:=by rfl)(e8:p.wants=p0.wants:=by rfl)(e9:p.asked=p0.asked:=by rfl)(e10:p.up=p0.up:=by rfl):NodeAt g w i nb ob x p:=by
 have q:=h.isN k nb _ 0 i hx;subst e1;obtain⟨vs,h2,h3⟩:=hN.pend;exact⟨q.1,q.2.1,q.2.2,by rw[e2];exact hN.tape.ch c hz,by rw[e3];exact hN.votes.ch c hz,by rw[e4];exact fun j hj=>(hN.heard j hj).ch c hz,by rw[e5];exact⟨vs,h2.ch c (hr 1 (by omega) (by omega)) (by simp),h3.ch c hz⟩,by rw[e6];exact hN.queue.ch c (hr 2 (by omega) (by omega)) (by simp),by rw[e7];exact hN.agreed.ch c (hr 3 (by omega) (by omega)) (by simp),by rw[e8];exact hN.wants.ch c (hr 4 (by omega) (by omega)) (by simp),by rw[e9];exact hN.asked.ch c (hr 5 (by omega) (by omega)),by rw[e10];exact hN.upm⟩
theorem Kn.od{L:List Sh}{ob:Nat}{lt tl:S3}{ls:List Let}{ts:List Tol}(h:Kn B g w L)(k:Nat)(f1:∃ bs:List Nat,OwnS g w (.n 51 0) false 178 1 lt (bs.map (pt · 0))∧Lets g w bs ls)(f2:OwnS g w (.n 52 0) false 140 5 tl (ts.flatMap Kd))(hx:L[k]?=some ⟨ob,.cells #[lt.v,tl.v] 104,.n 50 0,false⟩:=by kernel_rfl):OutAt g w ob lt tl ls ts :=
 have q:=h.isN k ob _ 50 0 hx
 ⟨q.1,q.2.1,q.2.2,f1,f2⟩
end
end Go.Proofs.YtakgfdbjgeopdaaGreatDoor
