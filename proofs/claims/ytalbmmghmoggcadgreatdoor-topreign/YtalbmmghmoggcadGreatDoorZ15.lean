/- Part 15 of the walk. -/
import Derived.Test.YtalbmmghmoggcadGreatDoorZ14
import Derived.Test.YtalbmmghmoggcadGreatDoorZ11
set_option maxRecDepth 100000
set_option maxHeartbeats 4000000
open Go.Proofs.Tryz
set_option linter.unusedVariables false
namespace Go.Proofs.YtalbmmghmoggcadGreatDoor
section
def pick(n many:Int):Int:=if n<0 then(-(n+1))%many else n%many
theorem CE(n many:Int)(hm:0<many):0<=pick n many/\pick n many<many:=by
 unfold pick;split
 .exact⟨mw _ (by omega),l6 _ hm⟩
 .exact⟨mw _ (by omega),l6 _ hm⟩
def wK(a:Int):Int:=1+pick a 5/2
def wV(a e:Int):Int:=if wK a=1 then pick e 1000 else 0
theorem YO(a e:Int):0<=wV a e/\wV a e<=1000:=by
 have:=CE e 1000 (by omega);unfold wV;split<;>omega
def acN(k:Int)(n:Int):Lac:=⟨k,n,0,0,[]⟩
def Eu:List Lac:=(List.range 5).map λn:Nat=>acN 9 (n:Int)
def fN:List Lac:=(List.range 5).map (λn:Nat=>acN 3 (n:Int))++[acN 7 0]
def Ct:Nat->List Lac
 | 0=>[]
 | m+1=>Ct m++fN
def Gt(m:Nat):List Lac:=Eu++Ct m
end
section
open Go.RowKit
theorem btr{w w1 w2:World}(a:Bw w w1)(b:Bw w1 w2):Bw w w2:=a.trans (b.mono a.size)
def lB(L:List Sh):List Nat:=L.filterMap λx=>match x.t with|.l=>some x.g|_=>none
def gK(L:List Sh):Gh:=⟨λb=>if(lB L).elem b then .l else .z,λ_=>0⟩
def zl(L:List Sh):Bool:=L.all λx=>match x.t with|.n _ _=>false|_=>true
theorem KV{L:List Sh}{b:Nat}:b∈lB L↔∃ x∈L,x.t=.l/\x.g=b:=by
 unfold lB;rw[List.mem_filterMap];constructor
 .rintro⟨x,hx,h⟩;cases ht:x.t<;>rw[ht]at h<;>simp at h;exact⟨x,hx,ht,h⟩
 .rintro⟨x,hx,ht,rfl⟩;exact⟨x,hx,by rw[ht]⟩
section
variable{P:Program}{fn:Func}{R:Ending->World->Prop}{B:Nat}{T:List Tg}{g:Gh}{w:World}
section
variable{L L':List Sh}{S:Sem Value}{f:FuncId}{s:Xs}{w':World}
theorem Kn.re(h:Kn B g w L)(hz:zl L=true):Kn B (gK L) w L:=by
 refine⟨λx hx=>?_,h.nod,λb hb=>⟨?_,rfl⟩,h.base⟩
 .have h1:=h.row x hx;refine⟨h1.1,?_,h1.2.2.1,λ_=>rfl⟩;show(if(lB L).elem x.g then Tg.l else Tg.z)=x.t;cases ht:x.t with
  | l=>rw[if_pos (by rw[kX];exact I' (KV.2 ⟨x,hx,ht,rfl⟩))]
  | n r i=>have:=jS.1 hz x hx;rw[ht]at this;cases this
  | z =>
   rw[if_neg];rw[kX];intro hc;obtain⟨y,hy,hyt,hyg⟩:=KV.1 (jn hc);have hne:x≠y:=λe=>by rw[e,hyt]at ht;cases ht
   have:(x.g=y.g->(x.t=.z/\x.w=false)/\y.t=.z/\y.w=false)\/(y.g=x.g->(y.t=.z/\y.w=false)/\x.t=.z/\x.w=false):=by
    obtain⟨i,hi,rfl⟩:=kw hx;obtain⟨j,hj,rfl⟩:=kw hy;rcases lI i j with h1|h1|h1
    .exact .inl (jN.1 h.nod i j hi hj h1)
    .subst h1;exact absurd rfl hne
    .exact .inr (jN.1 h.nod j i hj hi h1)
   rcases this with h2|h2
   .have:=(h2 hyg.symm).2.1;rw[hyt]at this;cases this
   .have:=(h2 hyg).1.1;rw[hyt]at this;cases this
 .show(if(lB L).elem b then Tg.l else Tg.z)=.z;rw[if_neg];rw[kX];intro hc;obtain⟨y,hy,_,hyg⟩:=KV.1 (jn hc);have:=(H'.1 (h.row y hy).1).1;omega
def GK(P:Program)(fn:Func)(R:Ending->World->Prop)(B:Nat)(s:Xs)(w:World):Prop:=GG P fn R B [] s (gK s.L) w
theorem kIn{args:Array Value}(hf:P.funcs[f]?=some fn)(h:GK P fn R w.heap.size ⟨[.c (OK fn)],⟨fn.ntmps,NH 0 args.toList,λ_=>undef⟩,[]⟩ w)(hb:fn.body.isSome=true:=by kernel_rfl)(hn:Nat.ble args.size fn.ntmps=true:=by kernel_rfl):Calls P f args w R:=gIn [] (gK []) hf hb hn (λ_ _=>⟨rfl,rfl⟩) h
theorem ZJ{g':Gh}(c:Cg B [] (gK s.L) w g' w')(hK:Kn B g w s.L)(hK':Kn B g' w' L')(hs:(L'.take s.L.length).map (λx=>(x.g,x.o))=s.L.map (λx=>(x.g,x.o))):Bw w w':=by
 refine⟨c.os,c.tape,c.output,c.size,λb hb=>?_⟩;by_cases hc:b∈lB s.L
 .obtain⟨x,hx,_,rfl⟩:=KV.1 hc;have h1:(x.g,x.o)∈(L'.take s.L.length).map (λx=>(x.g,x.o)):=by rw[hs];exact ju.2 ⟨x,hx,rfl⟩
  obtain⟨y,hy,he⟩:=ju.1 h1;injection he with e1 e2
  have h2:=(hK'.row y (jb hy)).1;rw[<- e1,h2,e2,e1];exact(hK.row x hx).1.symm
 .refine c.same b hb M' (λh=>?_);have:(if(lB s.L).elem b then Tg.l else Tg.z)=.l:=h;rw[if_neg (by rw[kX];simpa using hc)]at this
  cases this
theorem kR(m:Nat)(h:List Nat)(hk:∀ gs w',Bw w w'->GK P fn R B (rn0 P [] gs m s h).s w')(hob:∀ gs,(rn0 P [] gs m s h).o.map Ob.l'=(rn0 P [] gs m s h).o.map Ob.r':=by intro _;kernel_rfl)(hz:∀ gs,zl (rn0 P [] gs m s h).s.L=true:=by intro _;kernel_rfl)(hs:∀ gs,((rn0 P [] gs m s h).s.L.take s.L.length).map (λx=>(x.g,x.o))=s.L.map (λx=>(x.g,x.o)):=by intro _;kernel_rfl):GK P fn R B s w :=
 Ag λhK=>ZK [] m h hob λgs g' w' c=>⟨λhK'=>(hk gs w' (ZJ c hK hK' (hs gs))).ex (hK'.re (hz gs))⟩
structure Kept(L:List Sh)(w w':World):Prop where
 size:w.heap.size<=w'.heap.size
 rows:AP L w
 same:∀ b,b<w.heap.size->b∉lB L->w'.heap[b]?=w.heap[b]?
theorem kF(m:Nat)(h:List Nat)(hk:∀ gs w',Below B w w'->Kept s.L w w'->GK P fn R B (rn0 P [] gs m s h).s w')(hob:∀ gs,(rn0 P [] gs m s h).o.map Ob.l'=(rn0 P [] gs m s h).o.map Ob.r':=by intro _;kernel_rfl)(hz:∀ gs,zl (rn0 P [] gs m s h).s.L=true:=by intro _;kernel_rfl):GK P fn R B s w :=
 Ag λhK=>ZK [] m h hob λgs g' w' c=>⟨λhK'=>(hk gs w' ⟨c.os,c.tape,c.output,c.size,λb hb=>c.same b (Z' hb hK.base) M' (λ_=>hb)⟩ ⟨c.size,hK.rows,λb hb hn=>c.same b hb M' λh=>by
  have h2:(if(lB s.L).elem b then Tg.l else Tg.z)=.l:=h;rw[if_neg (by rw[kX];simpa using hn)]at h2
  cases h2⟩).ex (hK'.re (hz gs))⟩
def noU(L:List Sh):Bool:=L.all λx=>match x.t,x.o with|.l,.cells c _ _=>c.all (λv=>match v with|.int .u8 _=>false|_=>true)|.l,_=>false|_,_=>true
theorem Sl.kept{x:Value}{l:List Int}(h:Sl w x l)(k:Kept L w w')(hno:noU L=true:=by kernel_rfl):Sl w' x l:=by
 obtain⟨⟨a,cap,hv,hc,hn,h1⟩,h2,h3⟩:=h;refine⟨⟨a,cap,hv,hc,hn,?_⟩,h2,h3⟩;rcases h1 with h1|⟨b,off,ha,hbs,hcell⟩
 .exact .inl h1
 .by_cases hl:l=[]
  .exact .inl hl
  .refine .inr ⟨b,off,ha,Z' hbs k.size,λi hi=>?_⟩;have hb:b∉lB L:=by
    intro hb;obtain⟨y,hy,hyt,rfl⟩:=KV.1 hb;have hr:=k.rows y hy;have hu:=jS.1 hno y hy;have hi0:0<l.length:=List.length_pos_iff.2 hl;have hc0:=hcell 0 hi0;rw[hyt]at hu
    cases ho:y.o with
    | cells c e fr =>
     rw[ho]at hu hr
     rw[cell_of_row _ _ _ _ _ _ hr]at hc0
     have:=Array.all_eq_true.1 hu (off+0) (H'.1 hc0).1;rw[(H'.1 hc0).2]at this
     cases this
    | _=>rw[ho]at hu;cases hu
   rw[World.cell?_of_block (w:=w) (k.same b hbs hb)];exact hcell i hi
theorem cI(s:Xs)(i:Nat)(v:Value)(hob:(nxt s i undef s.L).o.map Ob.l'=(nxt s i undef s.L).o.map Ob.r'):(nxt s i v s.L).s.L=s.L:=by
 obtain⟨K,f,L⟩:=s;unfold nxt;cases K with
 | nil=>rfl
 | cons t K=>cases t<;>first|rfl|(simp only;repeat' split)<;>rfl
theorem gU(s:Xs)(i:Nat)(v:Value)(ld:Bool):(tkN s i v ld).s.L=s.L:=by
 obtain⟨K,f,L⟩:=s;unfold tkN;cases K with
 | nil=>rfl
 | cons t K=>cases t<;>first|rfl|(simp only;repeat' split)<;>rfl
theorem GK.of{s':Xs}(h:GK P fn R B s' w)(e:s'.L=s.L):GG P fn R B [] s' (gK s.L) w:=by rw[<- e];exact h
theorem kV(i:Nat)(v:Value)(hr:S.run P w=.ok v w)(hk:GK P fn R B (nxt s i v s.L).s w)(hs:De s i=some (S>>=λv=>pure (.value v)):=by kernel_rfl)(hob:(nxt s i undef s.L).o.map Ob.l'=(nxt s i undef s.L).o.map Ob.r':=by kernel_rfl):GK P fn R B s w:=qV i v hr (hk.of (cI s i v hob)) hs hob
theorem kT(i:Nat)(v:Value)(hr:∀ W,S.run P W=.ok v W)(hk:GK P fn R B (tkN s i v false).s w)(hs:De s i=some (S>>=λv=>pure (.value v)):=by kernel_rfl)(hob:(tkN s i undef false).o.map Ob.l'=(tkN s i undef false).o.map Ob.r':=by kernel_rfl):GK P fn R B s w:=qT i v hr (hk.of (gU s i v false)) hs hob
theorem Zr(s:Xs)(t:Bool):(K9 s t).L=s.L:=by unfold K9;split<;>rfl
theorem kI(b t:Bool)(hb:b=t)(h:GK P fn R B (K9 s t) w)(hc:OZ s=.bool b:=by kernel_rfl):GK P fn R B s w:=qI b t hb (h.of (Zr s t)) hc
theorem kC(i:Nat){av:Array Value}{C:Ending->World->Prop}(hc:Calls P f av w C)(hk:∀ e w',C e w'->∃ v,e=.returned v/\Bw w w'/\GK P fn R B (nxt s i v s.L).s w')(hr:∀ W,CW P s i W=some (.ok (.enter f av) W):=by intro _;kernel_rfl)(hd:Mf s i=true:=by kernel_rfl)(hob:(nxt s i undef s.L).o.map Ob.l'=(nxt s i undef s.L).o.map Ob.r':=by kernel_rfl):GK P fn R B s w:=qC i hc (λe w' h=>let ⟨v,h1,h2,h3⟩:=hk e w' h;⟨v,h1,h2,h3.of (cI s i v hob)⟩) hr hd hob
theorem kE(v:Value)(h:R (.returned v) w)(hr:Kn B (gK s.L) w s.L->(results fn s.f.act.tmps).run P w=.ok v w:=by intro _;kernel_rfl)(hs:Mg s.K=true:=by kernel_rfl):GK P fn R B s w:=qE v (λ_=>h) hr hs
theorem Xd(n:Nat)(Inv:World->List (Nat × Value)->List Sh->Prop)(h1:∀ J:Act->World->Prop,(∀ w' e z L,Inv w' e L->Kn B (gK L) w' L->J (⟨n,e,z⟩:Fm).act w')->GK P fn R B (Wi s J) w)(h2:∀ w' e z L,Inv w' e L->GK P fn R B ⟨s.K.tail,⟨n,e,z⟩,L⟩ w')(hs:s.K.isEmpty=false:=by kernel_rfl):GK P fn R B s w:=by
 refine BX n (λg' w' e L=>Inv w' e L/\g'=gK L) hs (λJ hJ=>?_) ?_
 .have:=h1 J λw' e z L hI hK=>hJ (gK L) w' e z L ⟨hI,rfl⟩ hK;exact this.of (by obtain⟨K,f,L⟩:=s;unfold Wi;cases K<;>rfl)
 .rintro g' w' e z L ⟨hI,rfl⟩;exact h2 w' e z L hI
theorem kB{J:Act->World->Prop}{n:Nat}{e:List (Nat × Value)}(m:List Bool)(h:∀ z,Kn B (gK L') w L'->J (⟨n,e,z⟩:Fm).act w)(hi:isJ s.K=true:=by kernel_rfl)(hJ:jK s.K=J:=by kernel_rfl)(hn:s.f.n=n:=by kernel_rfl)(he:e.map (λp=>lk s.f.z s.f.e p.1)=e.map (·.2):=by kernel_rfl)(hL:B0 (AF m s.L)=L':=by kernel_rfl)(hz:zl L'=true:=by kernel_rfl):GK P fn R B s w:=qB m (λz _ K=>h z (K.re hz)) hi hJ hn he hL
theorem U5(i j:Nat)(h1:GK P fn R B (IX s i) w)(h2:GK P fn R B (IX s j) w)(hb:bO s i j=true:=by kernel_rfl):GK P fn R B s w :=
 have e:∀ i,(IX s i).L=s.L:=λi=>by unfold IX;split<;>rfl
 CN i j hb (h1.of (e i)) (h2.of (e j))
end
end
section
def TO:List Tg:=[.n 50 0,.n 51 0,.n 52 0]
variable{b1 b2 b3 i k lb nb ob:Nat}{c:Cmd}{g:Gh}{l:Let}{ls:List Let}{p:Nod}{ts:List Tol}{w:World}{x:S3}
theorem Ym{x:NX}{lt tl:S3}(hN:NodeAt g w i nb ob x p)(hO:OutAt g w ob lt tl ls ts)(hg:Iy g w)(hb:ls.length<100000000)(l:Let)(vs wh:S3)(hv:FSv g w vs l.votes)(hw:Rc g w wh l.what)(to:Nat) :
  Calls prog 111 #[pt nb 0,iv (to:Int),.agg (EQ l vs wh)] w λe w'=>∃ g' lt',e=.returned (.tuple #[])/\OutAt g' w' ob lt' tl (ls++[{ l with src:=i,dst:=to }]) ts/\Cg w.heap.size TO g w g' w'/\Iy g' w':=by
 obtain⟨bs,hL,hLs⟩:=hO.lets;have hln:lt.n=ls.length:=by have:=hL.len;have:=hLs.len;simp at *;omega
 refine gI (fn:=f111) TO g func111 hg ?_;refine qN hN ?_;refine qO hO ?_;refine qR [] 29 [0,0,0,2,0,2,0,15,0,2,4,6,0,8,10,12,14,0,16,18,20,1,23,0,0] λs1 g1 w1 c1=>?_;refine JI 12 (x:=lt) 92 92 169 1 8 (.pointer none) ⟨(s1 1),0,none⟩ 1 1 [pt (s1 0) 0] (hL.ch c1) (by kernel_rfl) (by kernel_rfl) (by kernel_rfl) underlying92 (by kernel_rfl) (by kernel_rfl) (by decide) (by decide) rfl (by simp[Value.oneCell']) (λK=>BL K 3 (s1 1) [pt (s1 0) 0] 169 .z true (by kernel_rfl)) (by rw[hln];unfold maxLen;omega) (by rw[hln];omega) ?_;intro y2 g2 w2 a2 n2 cc2 G2;have c2:=cc2 w.heap.size [.n 51 0] (O'.2 rfl);refine qR [.n 50 0] 4 [26,28,31,1,1] λs3 g3 w3 c3=>?_;refine qE (.tuple #[]) λK=>?_;obtain⟨q1,q2,q3⟩:=K.isN 1 ob (.cells #[S3.v y2,S3.v tl] 94) 50 0 (by kernel_rfl);obtain⟨q4,q5⟩:=K.isZ 2 (s1 0) (.cells (EQ { l with src:=i,dst:=to } vs wh) 168) false (by kernel_rfl);have hz:∀ r,Tg.z∉[Tg.n r 0]:=λr=>by simp
 refine⟨_,y2,rfl,⟨q1,q2,q3,⟨bs++[(s1 0)],?_,?_⟩,(((hO.told.ch c1).ch c2).ch c3)⟩,(((c1.nil TO).trans (c2.mono (by simp[TO]))).trans (c3.mono (by simp[TO]))),K.new⟩
 .rw[iS];exact a2.ch c3
 .refine(((hLs.ch c1).ch c2 (hz _)).ch c3 (hz _)).snoc ⟨vs,wh,⟨q4,q5⟩,(((hv.ch c1).ch c2 (hz _)).ch c3 (hz _)),(((hw.ch c1).ch c2 (hz _)).ch c3 (hz _))⟩
theorem AM(h:NS i nb ob g w p ls ts)(hb:p.pend.length<100000000)(fv:Fn)(cv:Array Value)(q:Pend)(hv:Km g w nb (.func fv #[] cv) q) :
  Calls prog 83 #[pt nb 0,.func fv #[] cv] w (NP i nb ob g w (.tuple #[]) (p.wait q) ls ts):=by
 obtain⟨x,lt,tl,hN,hO,hg⟩:=h;obtain⟨vs,hP,hPs⟩:=hN.pend;have hn:x.synced.n=p.pend.length:=by have:=hP.len;have:=hPs.len;simp at *;omega
 refine gI (fn:=f83) (TN i) g func83 hg ?_;refine qN hN ?_;refine qO hO ?_;refine qR [] 9 [0,0,0] λs1 g1 w1 c1=>?_;refine JI 8 (x:=x.synced) 106 106 1 1 8 (.nilFunc) ⟨(s1 0),0,none⟩ 1 1 [.func fv #[] cv] (hP.ch c1) (by kernel_rfl) (by kernel_rfl) (by kernel_rfl) underlying106 (by kernel_rfl) (by kernel_rfl) (by decide) (by decide) rfl (by simp[Value.oneCell']) (λK=>BL K 2 (s1 0) [.func fv #[] cv] 1 .z true (by kernel_rfl)) (by rw[hn];unfold maxLen;omega) (by rw[hn];omega) ?_;intro y2 g2 w2 a2 n2 cc2 G2;have c2:=cc2 w.heap.size [.n 1 i] (O'.2 rfl);refine qR [.n 0 i] 5 [0,1] λs3 g3 w3 c3=>?_;refine qE (.tuple #[]) λK=>?_;have C4:=((c1.nil ([.n 1 i,.n 0 i]:List Tg)).m c2).m c3;have Z4:Tg.z∉([.n 1 i,.n 0 i]:List Tg):=by simp
 exact⟨_,rfl,⟨{ x with synced:=y2 },lt,tl,K.nd 0 (hN.tape.ch C4 Z4) (hN.votes.ch C4 Z4) (Bl hN.heard C4 Z4) ⟨vs++[.func fv #[] cv],a2.ch c3,(hPs.ch C4 Z4).snoc (hv.ch C4 Z4)⟩ (hN.queue.ch C4) (hN.agreed.ch C4) (hN.wants.ch C4) (hN.asked.ch C4) hN.upm,hO.ch C4 Z4 (by simp<;>omega),K.new⟩,(((c1.nil (TN i)).trans (c2.mono (by simp[TN]))).trans (c3.mono (by simp[TN])))⟩
theorem Qv(h:NS i nb ob g w p ls ts)(hb:ts.length<100000000)(c:Cmd)(ae aa:Int) :
  Calls prog 80 #[pt nb 0,.agg (cmC c),.agg #[iv ae,iv aa]] w (NP i nb ob g w (.tuple #[]) p ls (ts++[⟨i,c.c,c.s,ae,aa⟩])):=by
 obtain⟨x,lt,tl,hN,hO,hg⟩:=h;have hn:tl.n=ts.length:=by have h1:=hO.told.len;rw[FR]at h1;omega
 refine gI (fn:=f80) (TN i) g func80 hg ?_;refine qN hN ?_;refine qO hO ?_;refine qR [] 28 [0,0,0,0,25,0,2,4,6,0,8,10,12,14,0,16,18,20,1,22,24,26,28,0,30,32,2,34,36,2,38,3,40,43,0,0] λs1 g1 w1 c1=>?_;refine JI 22 (x:=tl) 41 41 129 5 40 (.agg #[iv 0,iv 0,iv 0,iv 0,iv 0]) ⟨(s1 2),0,none⟩ 1 1 [iv (i:Int),iv c.c,iv c.s,iv ae,iv aa] (hO.told.ch c1) (by kernel_rfl) (by kernel_rfl) (by kernel_rfl) underlying41 (by kernel_rfl) (by kernel_rfl) (by decide) (by decide) rfl (by simp[Value.oneCell']) (λK=>BL K 4 (s1 2) [iv (i:Int),iv c.c,iv c.s,iv ae,iv aa] 129 .z true (by kernel_rfl)) (by rw[hn];unfold maxLen;omega) (by rw[hn];omega) ?_;intro y2 g2 w2 a2 n2 cc2 G2;have c2:=cc2 w.heap.size [.n 52 0] (O'.2 rfl);refine qR [.n 50 0] 4 [46,48,51,1,1] λs3 g3 w3 c3=>?_;refine qE (.tuple #[]) λK=>?_;have C4:=((c1.nil ([.n 52 0,.n 50 0]:List Tg)).m c2).m c3;have Z4:Tg.z∉([.n 52 0,.n 50 0]:List Tg):=by simp
 exact⟨_,rfl,⟨x,lt,y2,K.ndu 0 hN C4,K.od 1 (Dz hO.lets C4 Z4 (by simp)) (by rw[List.flatMap_append];exact a2.ch c3),K.new⟩,(((c1.nil (TN i)).trans (c2.mono (by simp[TN]))).trans (c3.mono (by simp[TN])))⟩
theorem JW(h:NS i nb ob g w p ls ts)(lb:Nat)(l:Let)(hl:Cu g w lb l) :
  Calls prog 72 #[pt nb 0,pt lb 0] w (NP i nb ob g w (.tuple #[]) { p with rounds:=max p.rounds l.bal.r } ls ts):=by
 obtain⟨x,lt,tl,hN,hO,hg⟩:=h;refine gI (fn:=f72) (TN i) g func72 hg ?_;refine qN hN ?_;refine qO hO ?_;obtain⟨vs,wh,hl1,hl2,hl3⟩:=hl;refine BW ⟨lb,_,.z,false⟩ (λ_=>⟨hl1.r,hl1.z,λh=>(by cases h),λh=>absurd rfl h⟩) (by kernel_rfl) ?_;refine qR [] 12 [15,0,2,4,6,8,10,0,12,14,16,18,20,2] λs1 g1 w1 c1=>?_;refine qT 11 (iv (max p.rounds l.bal.r)) (λ_=>(go #[3,3] 3 p.rounds l.bal.r)) ?_;refine qR [.n 0 i] 5 [24,26,28,31,0,1] λs2 g2 w2 c2=>?_;refine qE (.tuple #[]) λK=>?_;have C3:=(c1.nil ([.n 0 i]:List Tg)).trans (c2);exact⟨_,rfl,⟨x,lt,tl,K.ndu 0 hN C3,hO.ch C3 (hn:=by simp<;>omega),K.new⟩,((c1.nil (TN i)).trans (c2.mono (by simp[TN])))⟩
theorem Fe(h:NS i nb ob g w p ls ts)(hb:ls.length<100000000)(l:Let)(vs wh:S3)(hv:FSv g w vs l.votes)(hw:Rc g w wh l.what)(to:Nat) :
  Calls prog 111 #[pt nb 0,iv (to:Int),.agg (EQ l vs wh)] w (NP i nb ob g w (.tuple #[]) p (ls++[{ l with src:=i,dst:=to }]) ts):=by
 obtain⟨x,lt,tl,hN,hO,hg⟩:=h;refine(Ym hN hO hg hb l vs wh hv hw to).mono ?_;rintro e w' ⟨g',lt',rfl,h1,h2,h3⟩;exact⟨g',rfl,⟨x,lt',tl,hN.ch h2 (by simp[TO]) (λr hr=>by simp[TO];omega),h1,h3⟩,h2.mono (by simp[TO,TN])⟩
def BZ(i:Nat)(l:Let)(k:Nat):List Let:=((List.range k).filter λj=>decide (j≠i)).map λto=>{ l with src:=i,dst:=to }
theorem Yq(h:k≠i):BZ i l (k+1)=BZ i l k++[{ l with src:=i,dst:=k }]:=by unfold BZ;rw[kr,kG,iS];simp[h]
theorem Yo(h:k=i):BZ i l (k+1)=BZ i l k:=by unfold BZ;rw[kr,kG,iS];simp[h]
theorem Yp(i:Nat)(l:Let)(k:Nat):(BZ i l k).length<=k:=by unfold BZ;rw[jc];exact iP (List.length_filter_le _ _) (by simp)
theorem DN(h:NS i nb ob g w p ls ts)(hb:ls.length<90000000)(l:Let)(vs wh:S3)(hv:FSv g w vs l.votes)(hw:Rc g w wh l.what) :
  Calls prog 86 #[pt nb 0,.agg (EQ l vs wh)] w (NP i nb ob g w (.tuple #[]) p (ls++BZ i l 5) ts):=by
 obtain⟨x,lt,tl,hN,hO,hg⟩:=h;refine gI (fn:=f86) (TN i) g func86 hg ?_;refine qN hN ?_;refine qO hO ?_;refine qR [] 9 [0,0] λs1 g1 w1 c1=>?_;refine BI 19 [(0,pt nb 0),(3,pt (s1 0) 0),(5,iv 0)] [false,false,true] [⟨(s1 0),.cells #[iv (l.kind:Int),iv (l.src:Int),iv (l.dst:Int),iv l.bal.r,iv l.bal.n,iv l.vote.slot,iv l.vote.b.r,iv l.vote.b.n,iv l.vote.w.k,iv l.vote.w.c,iv l.vote.w.s,iv l.vote.w.n,iv l.vote.w.v,S3.v vs,iv (l.slot:Int),S3.v wh] 168,.z,false⟩] (λk g' w' e L=>∃ j:Nat,k=5-j/\j<=5/\e=[(0,pt nb 0),(3,pt (s1 0) 0),(5,iv (j:Int))]/\L=[⟨(s1 0),.cells #[iv (l.kind:Int),iv (l.src:Int),iv (l.dst:Int),iv l.bal.r,iv l.bal.n,iv l.vote.slot,iv l.vote.b.r,iv l.vote.b.n,iv l.vote.w.k,iv l.vote.w.c,iv l.vote.w.s,iv l.vote.w.n,iv l.vote.w.v,S3.v vs,iv (l.slot:Int),S3.v wh] 168,.z,false⟩]/\NS i nb ob g' w' p (ls++BZ i l j) ts/\Cg w.heap.size (TN i) g w g' w') (by kernel_rfl) (by kernel_rfl) (by kernel_rfl) (by kernel_rfl) 5 (λK=>?_) ?_
 .have C2:=c1;refine⟨0,rfl,by omega,rfl,rfl,?_,c1.nil _⟩;rw[show BZ i l 0=[]from rfl,jy];exact(nsC hN hO C2 K)
 .rintro k gr wr _ zr _ ⟨j,rfl,hj,rfl,rfl,hM,hC⟩ J hJ;have hs:=Yp i l j;obtain⟨xr,ltr,tlr,hNr,hOr,hgr⟩:=hM;refine qN hNr ?_;refine qO hOr ?_;refine qR [] 5 [] λs3 g3 w3 c3=>?_;by_cases h1:j<5
  .refine qI (decide ((j:Int)<5)) true (I' (by omega)) ?_;refine qR [] 17 [1] λs4 g4 w4 c4=>?_;by_cases h2:(j:Int)≠(i:Int)
   .refine qI (((j:Int) != (i:Int))) true (by simpa using h2) ?_;refine qR [] 4 [0] λs5 g5 w5 c5=>?_;have C0:=(((hC.n c3).n c4).n c5);refine Ag λK=>?_;have N6:NS i nb ob g5 w5 p (ls++BZ i l j) ts:=(nsC hNr hOr ((c3.n c4).n c5) K);refine qG 3 (TN i) [true,false,false] (Fe N6 (by simp;omega) l vs wh (hv.ch C0 (Bi i)) (hw.ch C0 (Bi i)) j) ?_;rintro e' w6 ⟨g6,rfl,M6,c6⟩;refine⟨_,g6,rfl,c6,M6.new,?_⟩;replace c6:=c6.ret (B:=w.heap.size);rw[iR,<- Yq (by omega)]at M6
    obtain⟨x6,lt6,tl6,hN6,hO6,hg6⟩:=M6;refine qN hN6 ?_;refine qO hO6 ?_;refine qR [] 3 [] λs8 g8 w8 c8=>?_;refine qV 0 (iv ((j:Int)+1)) (AD (x:=(.tmp 5)) (y:=(.const (iv 1))) (j:Int) 1 underlying3 (by omega)) ?_;refine qR [] 2 [] λs9 g9 w9 c9=>?_;refine qB [true,false,false] λz K0 K=>hJ (5-(j+1)) _ _ _ z _ (by omega) ⟨j+1,rfl,by omega,rfl,rfl,?_,((((((hC.n c3).n c4).n c5).trans c6).n c8).n c9)⟩ K;have hst:NS i nb ob g9 w9 p (ls++BZ i l (j+1)) ts:=(nsC hN6 hO6 (c8.n c9) K0);exact hst
   .refine qI (((j:Int) != (i:Int))) false (by simpa using h2) ?_;refine qR [] 3 [] λs11 g11 w11 c11=>?_;refine qV 0 (iv ((j:Int)+1)) (AD (x:=(.tmp 5)) (y:=(.const (iv 1))) (j:Int) 1 underlying3 (by omega)) ?_;refine qR [] 2 [] λs12 g12 w12 c12=>?_;refine qB [true,false,false] λz K0 K=>hJ (5-(j+1)) _ _ _ z _ (by omega) ⟨j+1,rfl,by omega,rfl,rfl,?_,((((hC.n c3).n c4).n c11).n c12)⟩ K;have hst:NS i nb ob g12 w12 p (ls++BZ i l j) ts:=(nsC hNr hOr (((c3.n c4).n c11).n c12) K0);exact(by simpa[Yo (show j=i by omega)]using hst)
  .refine qI (decide ((j:Int)<5)) false (D' (by omega)) ?_;refine qR [] 1 [] λs14 g14 w14 c14=>?_;obtain rfl:j=5:=by omega
   exact qF hNr hOr (c3.n c14) ((hC.n c3).n c14)
theorem MY(h:NS i nb ob g w p ls ts) :
  Calls prog 113 #[pt nb 0] w λe w'=>e=.returned (.bool p.leads)/\Bw w w':=by
 obtain⟨x,lt,tl,hN,hO,hg⟩:=h;refine gI (fn:=f113) (TN i) g func113 hg ?_;refine qN hN ?_;refine qO hO ?_;refine qR [] 13 [24,0,2,4,6,8,10,0,12] λs1 g1 w1 c1=>?_;by_cases h1:p.rnd.bal=Cc
 .refine qT 7 (.bool false) (λ_=>(Nl (x:=(.tmp 8)) (y:=(.tmp 9)) p.rnd.bal Cc h1)) ?_;refine qR [] 17 [16,18,20,22,24,26,28,30,32,34,36,38,40,42,44,46] λs2 g2 w2 c2=>?_;exact qE (.bool false) λK=>⟨(by rw[show p.leads=false from D' (λh=>h.1 h1)]),Cg.below (c1.trans c2) (λ_ _=>M')⟩
 .refine qT 7 (.bool true) (λ_=>(Nm (x:=(.tmp 8)) (y:=(.tmp 9)) p.rnd.bal Cc h1)) ?_;refine qR [] 13 [16,18,20,22,24,26,28,0,30,32,34,36,38,40,0] λs4 g4 w4 c4=>?_;refine qT 21 (.bool (decide (p.rnd.bal=p.vo.p))) (λ_=>(i6 (x:=(.tmp 17)) (y:=(.tmp 23)) p.rnd.bal p.vo.p)) ?_;refine qR [] 3 [44,46] λs5 g5 w5 c5=>?_;exact qE (.bool (decide (p.rnd.bal=p.vo.p))) λK=>⟨(by rw[show p.leads=decide (p.rnd.bal=p.vo.p)from jZ.2 ⟨λh=>h.2,λh=>⟨h1,h⟩⟩]),Cg.below ((c1.trans c4).trans c5) (λ_ _=>M')⟩
theorem Lu(h:NS i nb ob g w p ls ts)(hb:p.pend.length<100000000)(to:Nat)(e:Int) :
  Calls prog 109 #[pt nb 0,iv (to:Int),iv e] w (NP i nb ob g w (.tuple #[]) (p.refuse to e) ls ts):=by
 obtain⟨x,lt,tl,hN,hO,hg⟩:=h;refine gI (fn:=f109) (TN i) g func109 hg ?_;refine qN hN ?_;refine qO hO ?_;refine qR [] 11 [0,0,0,0] λs1 g1 w1 c1=>?_;by_cases h1:e=7
 .refine qI (e != 7) false (by simpa using h1) ?_;refine qR [] 15 [2,0,0,0,4,0,2] λs2 g2 w2 c2=>?_;refine Ag λK=>?_;obtain⟨z1,z2⟩:=K.isZ 2 (s1 0) (.cells #[pt nb 0] 97) false (by kernel_rfl);obtain⟨z3,z4⟩:=K.isZ 3 (s1 1) (.cells #[iv (to:Int)] 3) false (by kernel_rfl);obtain⟨z5,z6⟩:=K.isZ 4 (s2 0) (.cells #[iv p.vo.p.r,iv p.vo.p.n] 102) true (by kernel_rfl);have N3:NS i nb ob g2 w2 p ls ts:=(nsC hN hO (c1.n c2) K);refine qS0 2 [false,false,true,true,true] (AM N3 hb _ _ (.refuse to p.vo.p) ⟨(s1 0),(s1 1),(s2 0),rfl,⟨z1,z2⟩,⟨z3,z4⟩,⟨z5,z6⟩⟩) λg3 w3 x3 lt3 tl3 hN3 hO3 c3=>?_;refine qR [] 1 [] λs5 g5 w5 c5=>?_;refine qE (.tuple #[]) λK=>?_;rw[show p.refuse to e=p.wait (.refuse to p.vo.p)from if_pos h1];exact⟨_,rfl,(nsC hN3 hO3 c5 K),((((c1.nil (TN i)).n c2).trans (c3)).n c5)⟩
 .refine qI (e != 7) true (by simpa using h1) ?_;refine qE (.tuple #[]) λK=>?_;rw[show p.refuse to e=p from if_neg h1];exact⟨_,rfl,(nsC hN hO c1 K),(c1.nil (TN i))⟩
def gh0:Gh:=⟨λ_=>.z,λ_=>0⟩
def Pw(l:List Cmd)(c:Cmd):Int:=if c∈l then(l.idxOf c:Int)else -1
theorem Px:∀ {l:List Cmd} {j:Nat},l[j]?=some c->l.idxOf c<=j
 | [],j,h=>by cases h
 | d::l,0,h=>by simp only[jT,X']at h;subst h;simp
 | d::l,j+1,h=>by
  have:=Px (l:=l) (j:=j) (by simpa using h);rw[List.idxOf_cons];cases d==c<;>simp<;>omega
theorem ZR(l:List Cmd)(c:Cmd):decide (0<=Pw l c)=decide (c∈l):=by
 unfold Pw;by_cases hm:c∈l
 .rw[if_pos hm,I' hm];exact I' (by omega)
 .rw[if_neg hm,D' hm];rfl
theorem WU{l:List Cmd}{j:Nat}(h:l[j]?=some c)(hb:∀ i,i<j->l[i]?≠some c):Pw l c=(j:Int):=by
 have hm:c∈l:=jg h;have hj:j<l.length:=(Q'.1 h).1;unfold Pw;rw[if_pos hm]
 congr 1
 have h1:l.idxOf c<l.length:=List.idxOf_lt_length_iff.2 hm;have h2:l[l.idxOf c]?=some c:=by rw[E' h1,List.getElem_idxOf h1]
 rcases lI (l.idxOf c) j with h3|h3|h3
 .exact absurd h2 (hb _ h3)
 .exact h3
 .have:=Px h;omega
theorem MV{l:List Cmd}(h:RdC w x l)(hb:l.length<100000000)(c:Cmd) :
  Calls prog 124 #[x.v,.agg #[iv c.k,iv c.c,iv c.s,iv c.n,iv c.v]] w λe w'=>e=.returned (iv (Pw l c))/\Bw w w':=by
 have hn:=h.len;refine gI (fn:=f124) [] gh0 func124 (λ_ _=>⟨rfl,rfl⟩) ?_;refine qR [] 13 [0,0] λs1 g1 w1 c1=>?_;refine BI 19 [(0,S3.v x),(3,pt (s1 0) 0),(7,iv (x.n:Int)),(8,iv 0)] [true] [⟨(s1 0),.cells #[iv c.k,iv c.c,iv c.s,iv c.n,iv c.v] 25,.z,false⟩] (λk g' w' e L=>∃ j:Nat,k=l.length-j/\j<=l.length/\e=[(0,S3.v x),(3,pt (s1 0) 0),(7,iv (x.n:Int)),(8,iv (j:Int))]/\L=[⟨(s1 0),.cells #[iv c.k,iv c.c,iv c.s,iv c.n,iv c.v] 25,.z,false⟩]/\(∀ i,i<j->l[i]?≠some c)/\Cg w.heap.size [] gh0 w g' w') (by kernel_rfl) (by kernel_rfl) (by kernel_rfl) (by kernel_rfl) l.length (λK=>?_) ?_
 .exact⟨0,rfl,by omega,rfl,rfl,λi hi=>absurd hi (by omega),c1⟩
 .rintro k gr wr _ zr _ ⟨j,rfl,hj,rfl,rfl,hI,hC⟩ J hJ;refine qR [] 5 [] λs2 g2 w2 c2=>?_;by_cases h1:j<l.length
  .refine qI ((decide ((j:Int)<(x.n:Int)))) true (I' (by omega)) ?_;obtain⟨cj,hcj⟩:∃ cj,l[j]?=some cj:=⟨_,E' h1⟩;rcases h.ex with h2|⟨bx,ox,hxa,hbx,hcell⟩
   .exact absurd h1 (by rw[h2];simp)
   refine qR [] 13 [6,0,0,2,4] λs3 g3 w3 c3=>?_;refine qT 3 (pt bx (ox+5*j)) (λ_=>(Lr hxa j (by omega))) ?_;have hW:=Cg.below (hC.trans (c2.trans c3)) (λ_ _=>M');refine qV 4 (.agg #[iv cj.k,iv cj.c,iv cj.s,iv cj.n,iv cj.v]) (Ou cj λi u hu=>(hW.cell (p:=⟨bx,ox+5*j+i,none⟩) hbx).trans (by rw[jI];exact hcell _ u (NO hcj hu))) ?_;refine qT 5 (.bool (decide (c=cj))) (λ_=>(i7 (x:=(.tmp 11)) (y:=(.tmp 15)) c cj)) ?_;refine qR [] 1 [] λs6 g6 w6 c6=>?_;by_cases h3:c=cj
   .refine qI (decide (c=cj)) true (I' h3) ?_;refine qR [] 5 [] λs7 g7 w7 c7=>?_;exact qE (iv (j:Int)) λK=>⟨by rw[WU (by rw[h3];exact hcj) hI],Cg.below (hC.trans (((c2.trans c3).trans c6).trans c7)) (λ_ _=>M')⟩
   .refine qI (decide (c=cj)) false (D' h3) ?_;refine qR [] 3 [] λs8 g8 w8 c8=>?_;refine qV 0 (iv ((j:Int)+1)) (AD (x:=(.tmp 8)) (y:=(.const (iv 1))) (j:Int) 1 underlying3 (by omega)) ?_;refine qR [] 2 [] λs9 g9 w9 c9=>?_;refine qB [true] λz K0 K=>hJ (l.length-(j+1)) _ _ _ z _ (by omega) ⟨j+1,rfl,by omega,rfl,rfl,λi hi=>?_,hC.trans ((((c2.trans c3).trans c6).trans c8).trans c9)⟩ K;rcases jt i j with h4|h4
    .exact hI i h4
    .rw[show i=j by omega,hcj];intro h5;exact h3 (by simpa using h5.symm)
  .refine qI ((decide ((j:Int)<(x.n:Int)))) false (D' (by omega)) ?_;refine qR [] 5 [] λs10 g10 w10 c10=>?_;have hne:c∉l:=λhm=>by obtain⟨i,hi⟩:=jG.1 hm;exact hI i (by have:=(Q'.1 hi).1;omega) hi
   exact qE (iv (-1)) λK=>⟨by unfold Pw;rw[if_neg hne],Cg.below (hC.trans (c2.trans c10)) (λ_ _=>M')⟩
theorem EL{l:List Cmd}(h:RdC w x l)(hb:l.length<100000000)(c:Cmd) :
  Calls prog 78 #[x.v,.agg #[iv c.k,iv c.c,iv c.s,iv c.n,iv c.v]] w λe w'=>e=.returned (.bool (decide (c∈l)))/\Bw w w':=by
 refine gI (fn:=f78) [] gh0 func78 (λ_ _=>⟨rfl,rfl⟩) ?_;refine qR [] 9 [0,0,0] λs1 g1 w1 c1=>?_;have hB1:=Cg.below c1 (λ_ _=>M');refine qC 2 (MV (h.below hB1) hb c) ?_;rintro e' w2 ⟨rfl,b2⟩;refine⟨_,rfl,b2,?_⟩;have c2:=Cg.ofBelow (B:=w.heap.size) (T:=[]) (g:=g1) b2;refine qR [] 3 [] λs3 g3 w3 c3=>?_;exact qE (.bool (decide (0<=Pw l c))) λK=>⟨by rw[ZR],Cg.below ((c1.trans c2).trans c3) (λ_ _=>M')⟩
theorem Td(h:NS i nb ob g w p ls ts)(hd:p.done<=p.agreed.length) :
  Calls prog 57 #[pt nb 0] w λe w'=>∃ y:S3,e=.returned y.v/\RdC w' y (p.agreed.take p.done)/\Bw w w':=by
 obtain⟨x,lt,tl,hN,hO,hg⟩:=h;have hn:=hN.agreed.num;have hr:=hN.agreed.rd;refine gI (fn:=f57) (TN i) g func57 hg ?_;refine qN hN ?_;refine qO hO ?_;refine qR [] 16 [12,0,2,4,6,8,0,10,12,14,16,18,0] λs1 g1 w1 c1=>?_;refine qT 10 (S3.v (x.agreed.cut 0 p.done)) (λ_=>(gE x.agreed p.done (by have:=hr.cap;omega))) ?_;refine qR [] 2 [22] λs2 g2 w2 c2=>?_;have hB:=Cg.below (c1.trans c2) (λ_ _=>M');exact qE (S3.v (x.agreed.cut 0 p.done)) λK=>⟨_,rfl,(hr.below hB).take hd,hB⟩
theorem Ir(h:NS i nb ob g w p ls ts)(hb:ls.length<100000000)(to slot:Nat)(hs:slot<=p.agreed.length) :
  Calls prog 121 #[pt nb 0,iv (to:Int),iv (slot:Int)] w (NP i nb ob g w (.tuple #[]) p (ls++[{ Cy 5 with src:=i,dst:=to,slot:=slot,what:=p.agreed.drop slot }]) ts):=by
 obtain⟨x,lt,tl,hN,hO,hg⟩:=h;have hn:=hN.agreed.num;refine gI (fn:=f121) (TN i) g func121 hg ?_;refine qN hN ?_;refine qO hO ?_;refine qR [] 10 [0] λs1 g1 w1 c1=>?_;refine qV 9 (S3.v (x.agreed.cut slot x.agreed.n)) (eA x.agreed slot (by omega)) ?_;refine qR [] 1 [] λs2 g2 w2 c2=>?_;refine Ag λK=>?_;have C4:=c1.n c2;have N3:NS i nb ob g2 w2 p ls ts:=(nsC hN hO C4 K);refine qS0 11 [false,false] (Fe N3 hb { Cy 5 with slot:=slot,what:=p.agreed.drop slot } s30 (x.agreed.cut slot x.agreed.n) ⟨Sv.nil _,λh=>absurd rfl h⟩ ((hN.agreed.rc.drop hs).ch C4) to) λg3 w3 x3 lt3 tl3 hN3 hO3 c3=>?_;refine qR [] 1 [] λs5 g5 w5 c5=>?_;exact qF hN3 hO3 c5 ((((c1.nil (TN i)).n c2).trans (c3)).n c5)
theorem MZ(h:NS i nb ob g w p ls ts)(slot:Nat)(what:List Cmd)(wh:S3)(hw:Rc g w wh what)(hs:slot<=p.agreed.length)(hb:p.agreed.length<100000000)(hb2:what.length<100000000) :
  Calls prog 112 #[pt nb 0,iv (slot:Int),wh.v] w (NP i nb ob g w (.tuple #[]) (p.learn slot what) ls ts):=by
 obtain⟨x,lt,tl,hN,hO,hg⟩:=h;have hn:=hN.agreed.num;have hm:=hw.len;have hcp:=hw.cap;refine gI (fn:=f112) (TN i) g func112 hg ?_;refine qN hN ?_;refine qO hO ?_;refine qR [] 9 [0] λs1 g1 w1 c1=>?_;refine qV 7 (iv ((x.agreed.n-slot:Nat):Int)) (gG (x:=(.tmp 12)) (y:=(.tmp 13)) x.agreed.n slot underlying3 (by omega) (by omega)) ?_;refine qR [] 9 [] λs2 g2 w2 c2=>?_;by_cases h1:x.agreed.n-slot<wh.n
 .refine qI ((decide (((x.agreed.n-slot:Nat):Int)<(wh.n:Int)))) true (I' (by omega)) ?_;obtain⟨k,hk⟩:∃ k,k=x.agreed.n-slot:=⟨_,rfl⟩;have hkl:k<what.length:=by omega
  obtain⟨bw,ow,hwa⟩:=hw.addr hkl;refine qR [] 9 [13,0,2,4,6,8,10,0,12,14] λs3 g3 w3 c3=>?_;refine qT 8 (.slice (some ⟨bw,ow+5*(x.agreed.n-slot),none⟩) (wh.n-(x.agreed.n-slot)) (wh.c-(x.agreed.n-slot))) (λ_=>(gA hwa (x.agreed.n-slot) (by omega) hcp)) ?_;have C5:=(c1.n c2).n c3;refine JI 9 (x:=x.agreed) 37 37 25 5 40 (.agg #[iv 0,iv 0,iv 0,iv 0,iv 0]) ⟨bw,ow+5*(x.agreed.n-slot),none⟩ (wh.n-(x.agreed.n-slot)) (wh.c-(x.agreed.n-slot)) (cmL (what.drop (x.agreed.n-slot))) (hN.agreed.ch C5) (by kernel_rfl) (by kernel_rfl) (by kernel_rfl) underlying37 (by kernel_rfl) (by kernel_rfl) (by decide) (by omega) (by rw[Bu,iQ];omega) (NQ _) (λK=>gd hwa (hw.ch C5) _ (by omega)) (by unfold maxLen;omega) (by omega) ?_;intro y6 g6 w6 a6 n6 cc6 G6;have c6:=cc6 w.heap.size [.n 3 i] (O'.2 rfl);refine qR [.n 0 i] 5 [20,22,24,27,0,1] λs7 g7 w7 c7=>?_;refine qE (.tuple #[]) λK=>?_;have C8:=((((c1.nil ([.n 3 i,.n 0 i]:List Tg)).n c2).n c3).m c6).m c7;have Z8:Tg.z∉([.n 3 i,.n 0 i]:List Tg):=by simp
  exact⟨_,rfl,⟨{ x with agreed:=y6 },lt,tl,K.nd 0 (hN.tape.ch C8 Z8) (hN.votes.ch C8 Z8) (Bl hN.heard C8 Z8) (BP hN.pend C8 Z8 (by simp)) (hN.queue.ch C8) (by rw[show(p.learn slot what).agreed=p.agreed++what.drop (x.agreed.n-slot)from by unfold Nod.learn;rw[hn],Cd];exact a6.ch c7) (hN.wants.ch C8) (hN.asked.ch C8) hN.upm,hO.ch C8 Z8 (by simp<;>omega),K.new⟩,(((((c1.nil (TN i)).n c2).n c3).trans (c6.mono (by simp[TN]))).trans (c7.mono (by simp[TN])))⟩
 .refine qI ((decide (((x.agreed.n-slot:Nat):Int)<(wh.n:Int)))) false (D' (by omega)) ?_;refine qR [] 1 [] λs9 g9 w9 c9=>?_;refine qE (.tuple #[]) λK=>?_;rw[show p.learn slot what=p from by unfold Nod.learn;rw[jD (by omega),jy]];exact⟨_,rfl,(nsC hN hO ((c1.n c2).n c9) K),(((c1.nil (TN i)).n c2).n c9)⟩
theorem Qk(h:NS i nb ob g w p ls ts)(hb:ls.length<90000000){b2 b3:Nat}(h1:Box g w b1 #[pt nb 0] 97) :
  Calls prog 97 #[pt b1 0] w (NP i nb ob g w (.tuple #[]) p (ls++BZ i (Cy 6) 5) ts):=by
 obtain⟨x,lt,tl,hN,hO,hg⟩:=h;refine gI (fn:=f97) (TN i) g func97 hg ?_;refine qN hN ?_;refine qO hO ?_;refine BW ⟨b1,.cells #[pt nb 0] 97,.z,false⟩ (λ_=>⟨h1.r,h1.z,λh=>(by cases h),λh=>absurd rfl h⟩) (by kernel_rfl) ?_;refine qR [] 3 [2] λs1 g1 w1 c1=>?_;refine qS 2 [false,false,true] hN hO c1 (λN2=>DN N2 hb (Cy 6) s30 s30 ⟨Sv.nil _,λh=>absurd rfl h⟩ (Rc.nil _ _)) λg2 w2 x2 lt2 tl2 hN2 hO2 c2=>?_;refine qR [] 1 [] λs4 g4 w4 c4=>?_;exact qF hN2 hO2 c4 (((c1.nil (TN i)).trans (c2)).n c4)
theorem Ox{to:Nat}{b:Bal}(h:NS i nb ob g w p ls ts)(hb:ls.length<90000000)(h1:Box g w b1 #[pt nb 0] 97)(h2:Box g w b2 #[iv (to:Int)] 3)(h3:Box g w b3 #[iv b.r,iv b.n] 102)  :
  Calls prog 146 #[pt b1 0,pt b2 0,pt b3 0] w (NP i nb ob g w (.tuple #[]) p (ls++[{ Cy 2 with bal:=b,src:=i,dst:=to }]) ts):=by
 obtain⟨x,lt,tl,hN,hO,hg⟩:=h;refine gI (fn:=f146) (TN i) g func146 hg ?_;refine qN hN ?_;refine qO hO ?_;refine BW ⟨b1,.cells #[pt nb 0] 97,.z,false⟩ (λ_=>⟨h1.r,h1.z,λh=>(by cases h),λh=>absurd rfl h⟩) (by kernel_rfl) ?_;refine BW ⟨b2,.cells #[iv (to:Int)] 3,.z,false⟩ (λ_=>⟨h2.r,h2.z,λh=>(by cases h),λh=>absurd rfl h⟩) (by kernel_rfl) ?_;refine BW ⟨b3,.cells #[iv b.r,iv b.n] 102,.z,false⟩ (λ_=>⟨h3.r,h3.z,λh=>(by cases h),λh=>absurd rfl h⟩) (by kernel_rfl) ?_;refine qR [] 5 [2,3,4] λs1 g1 w1 c1=>?_;refine qS 4 [false,false,true,true,true] hN hO c1 (λN2=>Fe N2 (by omega) { Cy 2 with bal:=b } s30 s30 ⟨Sv.nil _,λh=>absurd rfl h⟩ (Rc.nil _ _) to) λg2 w2 x2 lt2 tl2 hN2 hO2 c2=>?_;refine qR [] 1 [] λs4 g4 w4 c4=>?_;exact qF hN2 hO2 c4 (((c1.nil (TN i)).trans (c2)).n c4)
theorem He(h:NS i nb ob g w p ls ts)(hb:ls.length<90000000){b3:Nat}(h1:Box g w b1 #[pt nb 0] 97)(h2:Box g w b2 #[pt lb 0] 169)(hl:Cu g w lb l) :
  Calls prog 116 #[pt b1 0,pt b2 0] w (NP i nb ob g w (.tuple #[]) p (ls++[{ Cy 4 with vote:=l.vote,src:=i,dst:=l.src }]) ts):=by
 obtain⟨x,lt,tl,hN,hO,hg⟩:=h;refine gI (fn:=f116) (TN i) g func116 hg ?_;refine qN hN ?_;refine qO hO ?_;refine BW ⟨b1,.cells #[pt nb 0] 97,.z,false⟩ (λ_=>⟨h1.r,h1.z,λh=>(by cases h),λh=>absurd rfl h⟩) (by kernel_rfl) ?_;refine BW ⟨b2,.cells #[pt lb 0] 169,.z,false⟩ (λ_=>⟨h2.r,h2.z,λh=>(by cases h),λh=>absurd rfl h⟩) (by kernel_rfl) ?_;obtain⟨vs,wh,hl1,hl2,hl3⟩:=hl;refine BW ⟨lb,.cells (EQ l vs wh) 168,.z,false⟩ (λ_=>⟨hl1.r,hl1.z,λh=>(by cases h),λh=>absurd rfl h⟩) (by kernel_rfl) ?_;refine qR [] 11 [10,0,2,2,3,4,6,8,4,10,3,12,14,16,4,18] λs1 g1 w1 c1=>?_;refine qS 10 [false,false,true,true,true] hN hO c1 (λN2=>Fe N2 (by omega) { Cy 4 with vote:=l.vote } s30 s30 ⟨Sv.nil _,λh=>absurd rfl h⟩ (Rc.nil _ _) l.src) λg2 w2 x2 lt2 tl2 hN2 hO2 c2=>?_;refine qR [] 1 [] λs4 g4 w4 c4=>?_;exact qF hN2 hO2 c4 (((c1.nil (TN i)).trans (c2)).n c4)
theorem LF(h:NS i nb ob g w p ls ts)(hb:ls.length<90000000){b3:Nat}(h1:Box g w b1 #[pt nb 0] 97)(h2:Box g w b2 #[pt lb 0] 169)(hl:Cu g w lb l) :
  Calls prog 118 #[pt b1 0,pt b2 0] w (NP i nb ob g w (.tuple #[]) p (ls++[{ Cy 6 with slot:=p.agreed.length,src:=i,dst:=l.src }]) ts):=by
 obtain⟨x,lt,tl,hN,hO,hg⟩:=h;refine gI (fn:=f118) (TN i) g func118 hg ?_;refine qN hN ?_;refine qO hO ?_;refine BW ⟨b1,.cells #[pt nb 0] 97,.z,false⟩ (λ_=>⟨h1.r,h1.z,λh=>(by cases h),λh=>absurd rfl h⟩) (by kernel_rfl) ?_;refine BW ⟨b2,.cells #[pt lb 0] 169,.z,false⟩ (λ_=>⟨h2.r,h2.z,λh=>(by cases h),λh=>absurd rfl h⟩) (by kernel_rfl) ?_;obtain⟨vs,wh,hl1,hl2,hl3⟩:=hl;refine BW ⟨lb,.cells (EQ l vs wh) 168,.z,false⟩ (λ_=>⟨hl1.r,hl1.z,λh=>(by cases h),λh=>absurd rfl h⟩) (by kernel_rfl) ?_;have hn:=hN.agreed.num;refine qR [] 13 [12,0,2,2,3,4,6,8,4,10,2,12,14,16,18,0,20,22] λs1 g1 w1 c1=>?_;refine qS 12 [false,false,true,true,true] hN hO c1 (λN2=>(show{ Cy 6 with slot:=x.agreed.n,src:=i,dst:=l.src }=({ Cy 6 with slot:=p.agreed.length,src:=i,dst:=l.src }:Let)from by rw[hn])▸Fe N2 (by omega) { Cy 6 with slot:=x.agreed.n } s30 s30 ⟨Sv.nil _,λh=>absurd rfl h⟩ (Rc.nil _ _) l.src) λg2 w2 x2 lt2 tl2 hN2 hO2 c2=>?_;refine qR [] 1 [] λs4 g4 w4 c4=>?_;exact qF hN2 hO2 c4 (((c1.nil (TN i)).trans (c2)).n c4)
theorem IU(h:NS i nb ob g w p ls ts)(hb:ls.length<90000000){b3:Nat}(h1:Box g w b1 #[pt nb 0] 97)(h2:Box g w b2 #[pt lb 0] 169)(hl:Cu g w lb l)(hs:l.slot<=p.agreed.length) :
  Calls prog 120 #[pt b1 0,pt b2 0] w (NP i nb ob g w (.tuple #[]) p (ls++[{ Cy 5 with src:=i,dst:=l.src,slot:=l.slot,what:=p.agreed.drop l.slot }]) ts):=by
 obtain⟨x,lt,tl,hN,hO,hg⟩:=h;refine gI (fn:=f120) (TN i) g func120 hg ?_;refine qN hN ?_;refine qO hO ?_;refine BW ⟨b1,.cells #[pt nb 0] 97,.z,false⟩ (λ_=>⟨h1.r,h1.z,λh=>(by cases h),λh=>absurd rfl h⟩) (by kernel_rfl) ?_;refine BW ⟨b2,.cells #[pt lb 0] 169,.z,false⟩ (λ_=>⟨h2.r,h2.z,λh=>(by cases h),λh=>absurd rfl h⟩) (by kernel_rfl) ?_;obtain⟨vs,wh,hl1,hl2,hl3⟩:=hl;refine BW ⟨lb,.cells (EQ l vs wh) 168,.z,false⟩ (λ_=>⟨hl1.r,hl1.z,λh=>(by cases h),λh=>absurd rfl h⟩) (by kernel_rfl) ?_;refine qR [] 10 [9,0,2,2,3,4,6,8,4,10,3,12,14,16,4] λs1 g1 w1 c1=>?_;refine qS 9 [false,false,true,true,true] hN hO c1 (λN2=>Ir N2 (by omega) l.src l.slot hs) λg2 w2 x2 lt2 tl2 hN2 hO2 c2=>?_;refine qR [] 1 [] λs4 g4 w4 c4=>?_;exact qF hN2 hO2 c4 (((c1.nil (TN i)).trans (c2)).n c4)
theorem Gv{x3:S3}{vs0:List Vt}(h:NS i nb ob g w p ls ts)(hb:ls.length<90000000)(h1:Box g w b1 #[pt nb 0] 97)(h2:Box g w b2 #[pt lb 0] 169)(h3:Box g w b3 #[S3.v x3] 103)(hl:Cu g w lb l)(hv:FSv g w x3 vs0) :
  Calls prog 110 #[pt b1 0,pt b2 0,pt b3 0] w (NP i nb ob g w (.tuple #[]) p (ls++[{ Cy 1 with bal:=l.bal,votes:=vs0,what:=p.agreed,src:=i,dst:=l.src }]) ts):=by
 obtain⟨x,lt,tl,hN,hO,hg⟩:=h;refine gI (fn:=f110) (TN i) g func110 hg ?_;refine qN hN ?_;refine qO hO ?_;refine BW ⟨b1,.cells #[pt nb 0] 97,.z,false⟩ (λ_=>⟨h1.r,h1.z,λh=>(by cases h),λh=>absurd rfl h⟩) (by kernel_rfl) ?_;refine BW ⟨b2,.cells #[pt lb 0] 169,.z,false⟩ (λ_=>⟨h2.r,h2.z,λh=>(by cases h),λh=>absurd rfl h⟩) (by kernel_rfl) ?_;refine BW ⟨b3,.cells #[S3.v x3] 103,.z,false⟩ (λ_=>⟨h3.r,h3.z,λh=>(by cases h),λh=>absurd rfl h⟩) (by kernel_rfl) ?_;obtain⟨vs,wh,hl1,hl2,hl3⟩:=hl;refine BW ⟨lb,.cells (EQ l vs wh) 168,.z,false⟩ (λ_=>⟨hl1.r,hl1.z,λh=>(by cases h),λh=>absurd rfl h⟩) (by kernel_rfl) ?_;refine qR [] 17 [16,0,2,2,3,4,6,8,5,10,3,12,14,16,5,18,4,20,2,22,24,26,28,0,30] λs1 g1 w1 c1=>?_;refine Ag λK=>?_;have C3:=c1;have N2:NS i nb ob g1 w1 p ls ts:=(nsC hN hO C3 K);refine qS0 16 [false,false,true,true,true,true] (Fe N2 (by omega) { Cy 1 with bal:=l.bal,votes:=vs0,what:=p.agreed } x3 x.agreed (hv.ch C3) (hN.agreed.rc.ch C3) l.src) λg2 w2 x2 lt2 tl2 hN2 hO2 c2=>?_;refine qR [] 1 [] λs4 g4 w4 c4=>?_;exact qF hN2 hO2 c4 (((c1.nil (TN i)).trans (c2)).n c4)
end
end
end Go.Proofs.YtalbmmghmoggcadGreatDoor
