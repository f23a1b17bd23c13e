/- Part 8 of the walk. -/
import Derived.StillTailTactics
import Derived.Lib.SlBytesRow
import Derived.Test.YthohlalejhgbmaaGreatDoorZ7
set_option maxRecDepth 100000
set_option maxHeartbeats 4000000
open Go.Proofs.Tryz
set_option linter.unusedVariables false
namespace Go.Proofs.YthohlalejhgbmaaGreatDoor
open Go.RowKit
section
def Nb(B:Nat)(y:S3)(l:List Int):Prop:=l≠[]->∀ a,y.a=some a->B<=a.block
variable{B sz:Nat}{e:TypeId}{g:Gh}{l:List Int}{w:World}{x:S3}{xs:List Value}
theorem RT{y:Value}(h:w.ownsRow B 5 1 y l.length (l.map (Value.int .u8)))(f:l.length<=140737488351232)(e:∀ x∈l,0<=x/\x<256):∃ z:S3,y=z.v/\Sl w z.v l/\Nb B z l:=by
 have d:=Sl.kc h f e;rcases h.2 with⟨rfl,h0⟩|⟨b,cap,cur,rfl,hbb,_⟩
 .exact⟨s30,rfl,d,λg=>absurd (Z' h0) g⟩
 .exact⟨⟨some ⟨b,0,none⟩,l.length,cap⟩,rfl,d,λ_ a c=>by simp only[V']at c;subst c;exact hbb⟩
theorem WS(g:Gh)(w:World):FSl g w s30 []:=⟨⟨⟨none,0,rfl,A' _,λ_=>rfl,.inl rfl⟩,by simp,by simp⟩,λh=>absurd rfl h⟩
theorem Lm{y:S3}(h:Sl w y.v l)(n:Nb B y l)(G:∀ b,B<=b->g.t b=.z):FSl g w y l:=⟨h,λd a c=>G _ (n d a c)⟩
structure OwN(B:Nat)(w:World)(e:TypeId)(sz:Nat)(x:S3)(xs:List Value):Prop where
 len:xs.length=x.n*sz
 ex:(x.a=none/\x.n=0/\x.c=0)\/∃ b cur,B<=b/\x.a=some ⟨b,0,none⟩/\w.heap[b]?=some (.cells cur e (0,0))/\x.n<=x.c/\x.c<=maxLen/\cur.size=x.c*sz/\cur.toList.take (x.n*sz)=xs
theorem OwnS.own{c:World}{r:Nat}{p:Bool}(h:OwnS g w (.n 60 r) p e sz x xs)(C:Cg c.heap.size TQ gS c g w):OwN c.heap.size w e sz x xs:=by
 refine⟨h.len,h.ex.imp id λ⟨b,a,f,i,j,k,l,m,o,q⟩=>⟨b,a,?_,f,i,j,k,l,m⟩⟩;refine nB λd=>?_;have:=C.tag d (λ_=>d);rw[o]at this
 cases this
theorem OwN.rv(h:OwN B w e sz x xs):RdV w x sz xs:=by
 rcases h.ex with⟨h1,h2,h3⟩|⟨b,cur,h0,h1,h2,h3,h4,h5,h6⟩
 .exact⟨h.len,by omega,λ_=>h3,.inl h2⟩
 .refine⟨h.len,h3,λh=>(by rw[h1]at h;cases h),.inr ⟨b,0,h1,rl h2,λj u a=>?_⟩⟩;rw[kl,cell_of_row _ _ _ _ _ _ h2];rw[<- h6,kJ]at a
  split at a
  .simpa using a
  .cases a
theorem OwN.fz(h:OwN B w e sz x xs)(G:∀ b,B<=b->g.t b=.z):FzV g w x sz xs :=
 ⟨h.rv,λ_ a c=>by
  rcases h.ex with⟨h1,h2,h3⟩|⟨b,cur,h0,h1,_⟩
  .rw[h1]at c;cases c
  .rw[h1]at c;cases c;exact G _ h0⟩
theorem RdV.fz(h:RdV w x sz xs):FzV gS w x sz xs:=⟨h,λ_ _ _=>rfl⟩
theorem RdV.spot(h:RdV w x sz xs){i:Nat}(d:i<x.n):∃ b off,x.a=some ⟨b,off,none⟩/\b<w.heap.size/\∀ j u,xs[sz*i+j]?=some u->w.cell? ⟨b,off+sz*i+j,none⟩=some u:=by
 rcases h.ex with h1|⟨b,off,h1,h2,h3⟩
 .omega
 .exact⟨b,off,h1,h2,λj u c=>by rw[kM];exact h3 _ u c⟩
theorem OwN.take{l:World}(h:OwN w.heap.size l e sz x xs)(b:Bw w l)(G:∀ b,w.heap.size<=b->g.t b=.z/\g.k b=0)(r:Nat):∃ g',(∀ B,Cg B [] g w g' l)/\(∀ b,l.heap.size<=b->g'.t b=.z/\g'.k b=0)/\OwnS g' l (.n 60 r) true e sz x xs/\∀ b,w.heap.size<=b->(∀ a,x.a=some a->b≠a.block)->g'.t b=.z:=by
 have m:=b.size;rcases h.ex with h1|⟨c,cur,h0,h1,h2,h3,h4,h5,h6⟩
 .exact⟨g,λ_=>Cg.bu b,λd f=>G d (jG m f),⟨h.len,.inl h1⟩,λd f _=>(G d f).1⟩
 .have hc:c<l.heap.size:=rl h2;have i:∀ d,d<w.heap.size->¬ d=c:=λd f e=>by omega
  refine⟨⟨λd=>if d=c then .n 60 r else g.t d,λd=>if d=c then xs.length else g.k d⟩,λ_=>⟨b.os,b.tape,b.output,m,λd f=>.inl (if_neg (i d f)),λd f=>?_,λd f _ _=>if_neg (i d f),λd f _ _=>b.block d f,λd f j _=>World.cell?_of_block (w:=w) (b.block d f)⟩,λd f=>?_,⟨h.len,.inr ⟨c,cur,h1,h2,h3,h4,h5,h6,if_pos rfl,if_pos rfl⟩⟩,λd f o=>(if_neg (o _ h1)).trans (G d f).1⟩
  .show g.k d<=(if d=c then _ else g.k d);rw[if_neg (i d f)];exact A' _
  .have hd2:¬ d=c:=by omega
   show(if d=c then _ else g.t d)=.z/\(if d=c then _ else g.k d)=0;rw[if_neg hd2,if_neg hd2];exact G d (jG m f)
end
section
variable{P:Program}{fn:Func}{R:Ending->World->Prop}{w0:World}{Φ:List Fa}{g:Gh}{w:World}
theorem fH{P:Program}{W:World}(t f e:TypeId)(i:TypeInfo)(c:P.underlying t=some (.slice e))(b:P.info? e=some i)(y:S3)(d:y.n=0):(Builtin.append_ #[t,t] f #[s30.v,y.v]).run P W=.ok s30.v W:=by
 obtain⟨g,k,h⟩:=y;simp only at d;subst d;show(Builtin.append_ #[t,t] f #[.slice none 0 0,.slice g 0 h]).run P W=.ok (.slice none 0 0) W;cases g with
 | none=>simp[Builtin.append_,run_underlying c,sizeOf,typeInfo,b,Builtin.lenOf,run_firstCells_none]
 | some a =>
  have j:=run_firstCells_some (P:=P) W i.size 0 a 0 h [] (by simp) (by simp);simp[Builtin.append_,run_underlying c,sizeOf,typeInfo,b,Builtin.lenOf,run_firstCells_none,j]
theorem jb{s:Xs}(i:Nat)(r:Nat)(y:S3)(news:List Value)(t M e:TypeId)(p a:Nat)(z:Value)(O:AllF g w Φ->RdV w y p news)(Ψ:List Fa)(B:AllF g w Φ->AllF g w Ψ)(I:Ψ.all (λf=>f.ro != some r)=true)(H:Tg.n 60 r∈TQ)
  (Q:∀ u∈news,u.oneCell'=true)(E:y.n<=maxLen)(h:y.n*a<=140737488355328)
  (G:∀ x' g' w',x'.n=y.n->GT P fn R w0 (Fa.ow r e p x' news::Ψ) (nxt s i (S3.v x') s.L).s g' w')(J:0<p:=by decide)
  (N:P.underlying t=some (.slice e):=by kernel_rfl)(d:(P.info? e).map (λi=>(i.zero,i.size,i.bytes))=some (some z,p,a):=by kernel_rfl)(K:Nat.beq z.cells.size p=true:=by kernel_rfl)
  (k:Dd s i=some (Builtin.append_ #[t,t] M #[s30.v,y.v]>>=λv=>pure (.value v)):=by kernel_rfl)(A:(nxt s i undef s.L).o.map Ob.l'=(nxt s i undef s.L).o.map Ob.r':=by kernel_rfl)(S:s.L.all (λy=>[Tg.n 60 r].all λt=>y.t.ne t)=true:=by kernel_rfl):GT P fn R w0 Φ s g w:=by
 refine tF λF C=>?_;have D:=O F;by_cases q:y.n=0
 .obtain⟨inf,hi⟩:∃ inf,P.info? e=some inf:=by cases hh:P.info? e with|none=>rw[hh]at d;cases d|some j=>exact⟨j,rfl⟩
  obtain rfl:news=[]:=Z' (by rw[D.len,q,ng]);refine tV i s30.v (λ_ _=>fH t M e inf N hi y q) ?_ k A;exact tCv (Fa.ow r e p s30 []::Ψ) (λF=>⟨OwnS.nil _ _ _ _ _ _,B F⟩) (G s30 g w q.symm)
 .obtain⟨b,off,ha,_,_⟩:=D.spot (i:=0) (by omega);obtain⟨V,m,c⟩:=y;simp only at ha q E h G k D;subst ha;refine OA i r (x:=s30) (xs:=[]) t M e p a z ⟨b,off,none⟩ m c news (λ_=>OwnS.nil _ _ _ _ _ _) Ψ B I H D.len Q (λF _ j u T=>?_) (by show 0+m<=_;omega) (by show(0+m)*a<=_;rw[kl];exact h) (λx' g' w' U=>?_) (Nat.pos_of_ne_zero q) J N d K k A S
  .rcases(O F).ex with h2|⟨b2,off2,k1,k2,k3⟩
   .exact absurd h2 q
   .cases k1;have:(⟨b,off,none⟩:Addr).add j=⟨b,off+j,none⟩:=by unfold Addr.add;split<;>simp_all
    rw[this];exact k3 j u T
  .rw[lE];exact G x' g' w' (by rw[U];show 0+m=m;omega)
end
theorem btr{w c d:World}(a:Bw w c)(b:Bw c d):Bw w d:=a.trans (b.mono a.size)
def lB(L:List Sh):List Nat:=L.filterMap λx=>match x.t with|.l=>some x.g|_=>none
def gK(L:List Sh):Gh:=⟨λb=>if(lB L).elem b then .l else .z,λ_=>0⟩
def zl(L:List Sh):Bool:=L.all λx=>match x.t with|.n _ _=>false|_=>true
theorem Lg{L:List Sh}{b:Nat}:b∈lB L↔∃ x∈L,x.t=.l/\x.g=b:=by
 unfold lB;rw[List.mem_filterMap];constructor
 .rintro⟨x,hx,h⟩;cases ht:x.t<;>rw[ht]at h<;>simp at h;exact⟨x,hx,ht,h⟩
 .rintro⟨x,hx,ht,rfl⟩;exact⟨x,hx,by rw[ht]⟩
section
variable{P:Program}{fn:Func}{R:Ending->World->Prop}{B:Nat}{T:List Tg}{g:Gh}{w:World}
section
variable{L L':List Sh}{f:FuncId}{s:Xs}{w':World}
theorem Kn.re(h:Kn B g w L)(q:zl L=true):Kn B (gK L) w L:=by
 refine⟨λx d=>?_,h.oX,λb s=>⟨?_,rfl⟩,h.base⟩
 .have h1:=h.row x d;refine⟨h1.1,?_,h1.2.2.1,λ_=>rfl⟩;show(if(lB L).elem x.g then Tg.l else Tg.z)=x.t;cases ht:x.t with
  | l=>rw[if_pos (by rw[mq];exact I' (Lg.2 ⟨x,d,ht,rfl⟩))]
  | n r i=>have:=kW.1 q x d;rw[ht]at this;cases this
  | z =>
   rw[if_neg];rw[mq];intro f;obtain⟨y,m,c,a⟩:=Lg.1 (kr f);have k:x≠y:=λe=>by rw[e,c]at ht;cases ht
   have:(x.g=y.g->(x.t=.z/\x.w=false)/\y.t=.z/\y.w=false)\/(y.g=x.g->(y.t=.z/\y.w=false)/\x.t=.z/\x.w=false):=by
    obtain⟨i,o,rfl⟩:=lX d;obtain⟨j,p,rfl⟩:=lX m;rcases mK i j with h1|h1|h1
    .exact .inl (lA.1 h.oX i j o p h1)
    .subst h1;exact absurd rfl k
    .exact .inr (lA.1 h.oX j i p o h1)
   rcases this with h2|h2
   .have:=(h2 a.symm).2.1;rw[c]at this;cases this
   .have:=(h2 a).1.1;rw[c]at this;cases this
 .show(if(lB L).elem b then Tg.l else Tg.z)=.z;rw[if_neg];rw[mq];intro f;obtain⟨y,m,_,a⟩:=Lg.1 (kr f);have:=(H'.1 (h.row y m).1).1;omega
def GK(P:Program)(fn:Func)(R:Ending->World->Prop)(B:Nat)(s:Xs)(w:World):Prop:=GG P fn R B [] s (gK s.L) w
theorem kIn{a:Array Value}(d:P.funcs[f]?=some fn)(h:GK P fn R w.heap.size ⟨[.c (OP fn)],⟨fn.ntmps,NQ 0 a.toList,λ_=>undef⟩,[]⟩ w)(b:fn.body.isSome=true:=by kernel_rfl)(e:Nat.ble a.size fn.ntmps=true:=by kernel_rfl):Calls P f a w R:=gIn [] (gK []) d b e (λ_ _=>⟨rfl,rfl⟩) h
theorem aB{d:Gh}(c:Cg B [] (gK s.L) w d w')(j:Kn B g w s.L)(a:Kn B d w' L')(p:(L'.take s.L.length).map (λx=>(x.g,x.o))=s.L.map (λx=>(x.g,x.o))):Bw w w':=by
 refine⟨c.os,c.tape,c.output,c.size,λb k=>?_⟩;by_cases e:b∈lB s.L
 .obtain⟨x,hx,_,rfl⟩:=Lg.1 e;have f:(x.g,x.o)∈(L'.take s.L.length).map (λx=>(x.g,x.o)):=by rw[p];exact kn.2 ⟨x,hx,rfl⟩
  obtain⟨y,q,m⟩:=kn.1 f;injection m with e1 e2
  have i:=(a.row y (jU q)).1;rw[<- e1,i,e2,e1];exact(j.row x hx).1.symm
 .refine c.same b k N' (λh=>?_);have:(if(lB s.L).elem b then Tg.l else Tg.z)=.l:=h;rw[if_neg (by rw[mq];simpa using e)]at this
  cases this
theorem kR(m:Nat)(h:List Nat)(e:∀ gs w',Bw w w'->GK P fn R B (rn0 P [] gs m s h).s w')(b:∀ gs,(rn0 P [] gs m s h).o.map Ob.l'=(rn0 P [] gs m s h).o.map Ob.r':=by intro _;kernel_rfl)(i:∀ gs,zl (rn0 P [] gs m s h).s.L=true:=by intro _;kernel_rfl)(f:∀ gs,((rn0 P [] gs m s h).s.L.take s.L.length).map (λx=>(x.g,x.o))=s.L.map (λx=>(x.g,x.o)):=by intro _;kernel_rfl):GK P fn R B s w :=
 Ae λd=>aC [] m h b λgs j w' c=>⟨λa=>(e gs w' (aB c d a (f gs))).ex (a.re (i gs))⟩
structure Kept(L:List Sh)(w w':World):Prop where
 size:w.heap.size<=w'.heap.size
 rows:AN L w
 same:∀ b,b<w.heap.size->b∉lB L->w'.heap[b]?=w.heap[b]?
theorem kF(m:Nat)(h:List Nat)(i:∀ gs w',Below B w w'->Kept s.L w w'->GK P fn R B (rn0 P [] gs m s h).s w')(e:∀ gs,(rn0 P [] gs m s h).o.map Ob.l'=(rn0 P [] gs m s h).o.map Ob.r':=by intro _;kernel_rfl)(k:∀ gs,zl (rn0 P [] gs m s h).s.L=true:=by intro _;kernel_rfl):GK P fn R B s w :=
 Ae λg=>aC [] m h e λgs p w' c=>⟨λd=>(i gs w' ⟨c.os,c.tape,c.output,c.size,λb a=>c.same b (Y' a g.base) N' (λ_=>a)⟩ ⟨c.size,g.rows,λb a j=>c.same b a N' λh=>by
  have f:(if(lB s.L).elem b then Tg.l else Tg.z)=.l:=h;rw[if_neg (by rw[mq];simpa using j)]at f
  cases f⟩).ex (d.re (k gs))⟩
def noU(L:List Sh):Bool:=L.all λx=>match x.t,x.o with|.l,.cells c _ _=>c.all (λv=>match v with|.int .u8 _=>false|_=>true)|.l,_=>false|_,_=>true
theorem Sl.kept{x:Value}{l:List Int}(h:Sl w x l)(k:Kept L w w')(p:noU L=true:=by kernel_rfl):Sl w' x l:=by
 obtain⟨⟨a,g,B,v,A,j⟩,t,u⟩:=h;refine⟨⟨a,g,B,v,A,?_⟩,t,u⟩;rcases j with j|⟨b,off,ha,hbs,hcell⟩
 .exact .inl j
 .by_cases hl:l=[]
  .exact .inl hl
  .refine .inr ⟨b,off,ha,Y' hbs k.size,λi z=>?_⟩;have m:b∉lB L:=by
    intro m;obtain⟨y,s,q,rfl⟩:=Lg.1 m;have r:=k.rows y s;have f:=kW.1 p y s;have n:0<l.length:=List.length_pos_iff.2 hl;have d:=hcell 0 n;rw[q]at f
    cases ho:y.o with
    | cells c e fr =>
     rw[ho]at f r
     rw[cell_of_row _ _ _ _ _ _ r]at d
     have:=Array.all_eq_true.1 f (off+0) (H'.1 d).1;rw[(H'.1 d).2]at this
     cases this
    | _=>rw[ho]at f;cases f
   rw[World.cell?_of_block (w:=w) (k.same b hbs m)];exact hcell i z
theorem dz(s:Xs)(i:Nat)(v:Value)(a:(nxt s i undef s.L).o.map Ob.l'=(nxt s i undef s.L).o.map Ob.r'):(nxt s i v s.L).s.L=s.L:=by
 obtain⟨K,f,L⟩:=s;unfold nxt;cases K with
 | nil=>rfl
 | cons t K=>cases t<;>first|rfl|(simp only;repeat' split)<;>rfl
theorem jd(s:Xs)(i:Nat)(v:Value)(a:Bool):(tkN s i v a).s.L=s.L:=by
 obtain⟨K,f,L⟩:=s;unfold tkN;cases K with
 | nil=>rfl
 | cons t K=>cases t<;>first|rfl|(simp only;repeat' split)<;>rfl
theorem GK.of{a:Xs}(h:GK P fn R B a w)(e:a.L=s.L):GG P fn R B [] a (gK s.L) w:=by rw[<- e];exact h
theorem kV(i:Nat)(v:Value){S:Sem Value}(c:S.run P w=.ok v w)(b:GK P fn R B (nxt s i v s.L).s w)(d:Dd s i=some (S>>=λv=>pure (.value v)):=by kernel_rfl)(a:(nxt s i undef s.L).o.map Ob.l'=(nxt s i undef s.L).o.map Ob.r':=by kernel_rfl):GK P fn R B s w:=qV i v c (b.of (dz s i v a)) d a
theorem kT(i:Nat)(v:Value){S:Sem Value}(c:∀ W,S.run P W=.ok v W)(b:GK P fn R B (tkN s i v false).s w)(d:Dd s i=some (S>>=λv=>pure (.value v)):=by kernel_rfl)(a:(tkN s i undef false).o.map Ob.l'=(tkN s i undef false).o.map Ob.r':=by kernel_rfl):GK P fn R B s w:=qT i v c (b.of (jd s i v false)) d a
theorem ZM(s:Xs)(t:Bool):(KH s t).L=s.L:=by unfold KH;split<;>rfl
theorem kI(b t:Bool)(a:b=t)(h:GK P fn R B (KH s t) w)(c:Pg s=.bool b:=by kernel_rfl):GK P fn R B s w:=qI b t a (h.of (ZM s t)) c
theorem kC(i:Nat){f:FuncId}{b:Array Value}{C:Ending->World->Prop}(c:Calls P f b w C)(g:∀ e w',C e w'->∃ v,e=.returned v/\Bw w w'/\GK P fn R B (nxt s i v s.L).s w')(j:∀ W,CR P s i W=some (.ok (.enter f b) W):=by intro _;kernel_rfl)(d:KM s i=true:=by kernel_rfl)(a:(nxt s i undef s.L).o.map Ob.l'=(nxt s i undef s.L).o.map Ob.r':=by kernel_rfl):GK P fn R B s w:=qC i c (λe w' h=>let ⟨v,h1,h2,h3⟩:=g e w' h;⟨v,h1,h2,h3.of (dz s i v a)⟩) j d a
theorem kE(v:Value)(h:R (.returned v) w)(a:Kn B (gK s.L) w s.L->(results fn s.f.act.tmps).run P w=.ok v w:=by intro _;kernel_rfl)(b:KO s.K=true:=by kernel_rfl):GK P fn R B s w:=qE v (λ_=>h) a b
theorem Xo(n:Nat)(a:World->List (Nat × Value)->List Sh->Prop)(d:∀ J:Act->World->Prop,(∀ w' e z L,a w' e L->Kn B (gK L) w' L->J (⟨n,e,z⟩:Fm).act w')->GK P fn R B (Wn s J) w)(g:∀ w' e z L,a w' e L->GK P fn R B ⟨s.K.tail,⟨n,e,z⟩,L⟩ w')(j:s.K.isEmpty=false:=by kernel_rfl):GK P fn R B s w:=by
 refine BV n (λc w' e L=>a w' e L/\c=gK L) j (λJ h=>?_) ?_
 .have:=d J λw' e z L b i=>h (gK L) w' e z L ⟨b,rfl⟩ i;exact this.of (by obtain⟨K,f,L⟩:=s;unfold Wn;cases K<;>rfl)
 .rintro c w' e z L ⟨b,rfl⟩;exact g w' e z L b
theorem kB{J:Act->World->Prop}{n:Nat}{e:List (Nat × Value)}(m:List Bool){a:List Sh}(h:∀ z,Kn B (gK a) w a->J (⟨n,e,z⟩:Fm).act w)(g:isJ s.K=true:=by kernel_rfl)(b:jK s.K=J:=by kernel_rfl)(i:s.f.n=n:=by kernel_rfl)(d:e.map (λp=>lk s.f.z s.f.e p.1)=e.map (·.2):=by kernel_rfl)(c:BA (AE m s.L)=a:=by kernel_rfl)(j:zl a=true:=by kernel_rfl):GK P fn R B s w:=qB m (λz _ K=>h z (K.re j)) g b i d c
theorem U8(i j:Nat)(a:GK P fn R B (Jg s i) w)(b:GK P fn R B (Jg s j) w)(c:cR s i j=true:=by kernel_rfl):GK P fn R B s w :=
 have e:∀ i,(Jg s i).L=s.L:=λi=>by unfold Jg;split<;>rfl
 CU i j c (a.of (e i)) (b.of (e j))
end
end
section
variable{B base cap g n:Nat}{a:Option Addr}{l la lb:List Int}{v y:Value}{w:World}{x:S3}
theorem Cb{a:World}(h:Below B a w){g:Nat}(c:B<=g)(b:Array Value):Below B a (w.setRow g b) :=
 h.trans ⟨rfl,rfl,rfl,by simp,λk d=>setRow_other w g k b (by omega)⟩
def ptA(g:Nat):Array Value:=#[.pointer (some ⟨g,0,none⟩),.pointer (some ⟨g,1,none⟩),.pointer (some ⟨g,2,none⟩),.pointer (some ⟨g,3,none⟩),.pointer (some ⟨g,4,none⟩)]
theorem bK(g:Nat):(ptA g).all (·.oneCell')=true:=by simp[ptA,Value.oneCell']
def RH:Array Value:=#[.pointer none,.pointer none,.pointer none,.pointer none,.pointer none]
theorem fG(g:Nat):(prog.info? 170).map (·.size)=some (ptA g).size:=by show _=some 5;kernel_rfl
theorem PY(g:Nat)(j:Nat)(a:j<5):∀ W,(Instr.index 170 (.agg (ptA g)) (.int .i64 (j:Int))).run prog W=.ok (.pointer (some ⟨g,j,none⟩)) W:=by
 intro W;rcases(by omega:j=0\/j=1\/j=2\/j=3\/j=4)with rfl|rfl|rfl|rfl|rfl
 all_goals kernel_rfl
theorem GB(g:Nat)(w:World) :
  Calls prog 83 #[.pointer (some ⟨g,0,none⟩)] w λe w'=>e=.returned (.agg (ptA g))/\Bw w w':=by
 have d:Bw w (w.alloc (.cells RH 170)):=(Below.refl _ _).alloc (A' _) _;have i:=heap_alloc_new w (.cells RH 170);have c:=fG g;go_enter func83,ntmps83
 go_wp2_with fail
 refine Ar 16 (by kernel_rfl) (by kernel_rfl) ?_;simp only[kL,kZ,k9,lM]
 repeat (go_big_quiet_step (fail))
 refine wpQuiet_nil ?_;have a:(w.alloc (.cells RH 170)).drew.heap[w.heap.size]?=some (.cells RH 170):=i;have b:Bw w (w.alloc (.cells RH 170)).drew:=d.drew;have f:RH=#[.pointer none,.pointer none,.pointer none,.pointer none,.pointer none]:=rfl;rw[<- f];generalize (w.alloc (.cells RH 170)).drew=W at a b;go_wp2_with (refine wpList_store_row rfl 170 (.tmp 2) (.tmp 18) rfl w.heap.size (ptA g) rfl rfl 170 _ a c rfl (bK g) ?_)
 have h:=setRow_heap W w.heap.size _ (ptA g) 170 _ a;exact bodyPost_ret (v:=.agg (ptA g)) (results_cell_row rfl _ _ w.heap.size 170 _ (0,0) _ rfl h underlying170 rfl c) rfl ⟨rfl,Cb b (A' _) _⟩
theorem Sl.oV(w:World)(b a:Int)(e:TypeId){g:Nat}(f:g=w.heap.size)(c:0<=b/\b<256)(d:a=b):Sl (w.alloc (.cells #[.int .u8 a] e)) (.slice (some ⟨g,0,none⟩) 1 1) [b]:=by
 subst d;exact Sl.one w a e f c
theorem bM(l:List Int)(n:Int)(j:Nat)(a:l.length<=100000):(l++(Ab n).take j).length+1<=140737488355328:=by
 have:((Ab n).take j).length<=4:=by rw[X'];exact Nat.min_le_right _ _
 rw[M'];omega
theorem GE(v:Value)(l:List Int)(n:Int)(B:Nat)(w:World)(x:w.ownsRow B 5 1 v l.length (l.map (Value.int .u8)))(z:B<=w.heap.size)(t:l.length<=100000)(D:0<=n)(E:n<2147483648) :
  Calls prog 84 #[v,.int .i64 n] w λe w'=>∃ v',e=.returned v'/\w'.ownsRow B 5 1 v' (l++Ab n).length ((l++Ab n).map (Value.int .u8))/\Below B w w':=by
 have s:Hid (w.ownsRow B 5 1 v (l++(Ab n).take 0).length ((l++(Ab n).take 0).map (Value.int .u8))):=by unfold Hid;simpa using x
 clear x;go_enter func84,ntmps84
 go_wp2_with fail
 go_loopw [0,5] (λv iv wr=>∃ j:Nat,j<=4/\iv=.int .i64 (3-(j:Int))/\wr.ownsRow B 5 1 v (l++(Ab n).take j).length ((l++(Ab n).take j).map (Value.int .u8))/\Below B w wr) (λ_ iv _=>(intOf iv+1).toNat)
 case atStart=>exact⟨0,by omega,rfl,s.out,Below.refl _ _⟩
 case round =>
  obtain⟨j,C,rfl,a,b⟩:=hrel;clear s;have g:=a.lt;have u:B<=wr.heap.size:=jG z b.size;have p:=bM l n;by_cases A:j<4
  .rcases(by omega:j=0\/j=1\/j=2\/j=3)with rfl|rfl|rfl|rfl
   .rw[show(3:Int)-((0:Nat):Int)=3 from rfl];have m:Hid (l++(Ab n).take 1=l++(Ab n).take 0++[n/16777216%256]):=by unfold Hid;rw[jI];rfl
    have c:=p 0 t;clear p;generalize l++(Ab n).take 0=L at a m c;go_wp2_with (at_builtin;refine Aa _ rfl _ _ 48 rfl B 5 underlying48 Aq _ _ rfl rfl L [n/16777216%256] (a.alloc _) (Sl.oV _ (n/16777216%256) _ _ rfl (by omega) (by omega)) c (by simp;omega) ?_)
    intro r o f d;have i:Below B w o:=(b.alloc u _).grown d (by simp;omega) (λk q=>(g k q).1);have h:Hid (o.ownsRow B 5 1 r (l++(Ab n).take 1).length ((l++(Ab n).take 1).map (Value.int .u8))):=by
     unfold Hid;rw[m.out];simpa using f
    clear f d a g b c m;go_wp2
    go_roundw
    case rel=>exact⟨1,by omega,rfl,h.out,i⟩
    case measure=>simp[intOf]
   .rw[show(3:Int)-((1:Nat):Int)=2 from rfl];have m:Hid (l++(Ab n).take 2=l++(Ab n).take 1++[n/65536%256]):=by unfold Hid;rw[jI];rfl
    have c:=p 1 t;clear p;generalize l++(Ab n).take 1=L at a m c;go_wp2_with (at_builtin;refine Aa _ rfl _ _ 48 rfl B 5 underlying48 Aq _ _ rfl rfl L [n/65536%256] (a.alloc _) (Sl.oV _ (n/65536%256) _ _ rfl (by omega) (by omega)) c (by simp;omega) ?_)
    intro r o f d;have i:Below B w o:=(b.alloc u _).grown d (by simp;omega) (λk q=>(g k q).1);have h:Hid (o.ownsRow B 5 1 r (l++(Ab n).take 2).length ((l++(Ab n).take 2).map (Value.int .u8))):=by
     unfold Hid;rw[m.out];simpa using f
    clear f d a g b c m;go_wp2
    go_roundw
    case rel=>exact⟨2,by omega,rfl,h.out,i⟩
    case measure=>simp[intOf]
   .rw[show(3:Int)-((2:Nat):Int)=1 from rfl];have m:Hid (l++(Ab n).take 3=l++(Ab n).take 2++[n/256%256]):=by unfold Hid;rw[jI];rfl
    have c:=p 2 t;clear p;generalize l++(Ab n).take 2=L at a m c;go_wp2_with (at_builtin;refine Aa _ rfl _ _ 48 rfl B 5 underlying48 Aq _ _ rfl rfl L [n/256%256] (a.alloc _) (Sl.oV _ (n/256%256) _ _ rfl (by omega) (by omega)) c (by simp;omega) ?_)
    intro r o f d;have i:Below B w o:=(b.alloc u _).grown d (by simp;omega) (λk q=>(g k q).1);have h:Hid (o.ownsRow B 5 1 r (l++(Ab n).take 3).length ((l++(Ab n).take 3).map (Value.int .u8))):=by
     unfold Hid;rw[m.out];simpa using f
    clear f d a g b c m;go_wp2
    go_roundw
    case rel=>exact⟨3,by omega,rfl,h.out,i⟩
    case measure=>simp[intOf]
   .rw[show(3:Int)-((3:Nat):Int)=0 from rfl];have m:Hid (l++(Ab n).take 4=l++(Ab n).take 3++[n%256]):=by unfold Hid;rw[jI];rfl
    have c:=p 3 t;clear p;generalize l++(Ab n).take 3=L at a m c;go_wp2_with (at_builtin;refine Aa _ rfl _ _ 48 rfl B 5 underlying48 Aq _ _ rfl rfl L [n%256] (a.alloc _) (Sl.oV _ (n%256) _ _ rfl (by omega) (by omega)) c (by simp;omega) ?_)
    intro r o f d;have i:Below B w o:=(b.alloc u _).grown d (by simp;omega) (λk q=>(g k q).1);have h:Hid (o.ownsRow B 5 1 r (l++(Ab n).take 4).length ((l++(Ab n).take 4).map (Value.int .u8))):=by
     unfold Hid;rw[m.out];simpa using f
    clear f d a g b c m;go_wp2
    go_roundw
    case rel=>exact⟨4,by omega,rfl,h.out,i⟩
    case measure=>simp[intOf]
  .obtain rfl:j=4:=by omega
   rw[show(3:Int)-((4:Nat):Int)=-1 from rfl];have y:Hid _:=a;clear a g p;go_wp2
   go_ret;exact⟨_,rfl,y.out,b⟩
theorem Sl.oJ(h:Sl w (.slice a n cap) l)(k:Nat)(d:k<l.length):∃ bd od,a=some ⟨bd,od,none⟩/\bd<w.heap.size/\w.cell? ⟨bd,od+k,none⟩=some (.int .u8 (l.getD k 0)):=by
 obtain⟨⟨j,c,e,m,o,f⟩,i,g⟩:=h;simp only[Value.slice.injEq]at e;obtain⟨rfl,rfl,rfl⟩:=e;rcases f with rfl|⟨b,off,rfl,hb,hcell⟩
 .simp at d
 .exact⟨b,off,rfl,hb,hcell k d⟩
theorem IY(h:Sl w x.v l):x.n=l.length:=by obtain⟨a,c,b⟩:=h.oc;simp only[S3.v,Value.slice.injEq]at b;exact b.2.1
theorem cS:prog.underlying 48=some (.slice (prog.elem 48)):=by kernel_rfl
theorem slB(h:Sl w x.v l)(a:Nat)(b:a<=l.length):∃ y:S3,(∀ W,(Instr.sliceAt 48 x.v (some (iv (a:Int))) none none).run prog W=.ok y.v W)/\Sl w y.v (l.drop a)/\y.n=l.length-a:=by
 obtain⟨c,d,e,f⟩:=h.from a b;refine⟨⟨c,x.n-a,d⟩,λW=>?_,f,by rw[IY h]⟩;rw[run_sliceAt_slice _ _ _ _ _ _ cS];exact e W
theorem slT(h:Sl w x.v l)(a:Nat)(b:a<=l.length):∃ y:S3,(∀ W,(Instr.sliceAt 48 x.v none (some (iv (a:Int))) none).run prog W=.ok y.v W)/\Sl w y.v (l.take a):=by
 obtain⟨c,d,e,f⟩:=h.ni a b;refine⟨⟨c,a,d⟩,λW=>?_,f⟩;rw[run_sliceAt_slice _ _ _ _ _ _ cS];exact e W
theorem Qj(h:Sl w x.v l)(a:0<l.length):∃ bd od,(∀ W,(Instr.indexAt 48 x.v (iv 0)).run prog W=.ok (pt bd od) W)/\bd<w.heap.size/\w.cell? ⟨bd,od,none⟩=some (.int .u8 (l.getD 0 0)):=by
 obtain⟨j,g,k⟩:=x;have f:g=l.length:=IY h;obtain⟨bd,od,b,c,d⟩:=h.oJ 0 a;subst b;exact⟨bd,od,λW=>L2 (P:=prog) (e:=5) (z:=1) (i:=0) underlying48 (by kernel_rfl) (by kernel_rfl) (by rw[f];exact a) od (by rw[Nat.mul_zero,lU]),c,d⟩
theorem Vb{P:Program}{t:TypeId}{x y:Operand}{m n:Int}{b:Bool}(h:(m==n)=b):(do Go.eqGuard .eql t x y (.int .u8 m) (.int .u8 n);Go.binOp .eql t (.int .u8 m) (.int .u8 n):Sem Value).run P w=.ok (.bool b) w:=by
 subst h;rfl
theorem rUi{n:Int}(h:0<=n/\n<256):(convert 5 3 (.int .u8 n)).run prog w=.ok (iv n) w:=dC (by kernel_rfl) underlying3 (by kernel_rfl) (by rw[IntKind.wrap_i64];omega)
theorem FM(h:w.ownsRow B 5 1 y l.length (l.map (Value.int .u8)))(e:l.length<=140737488351232)(d:∀ x∈l,0<=x/\x<256):∃ z:S3,y=z.v/\Sl w z.v l:=by
 have c:=Sl.kc h e d;obtain⟨a,b,rfl⟩:=c.oc;exact⟨⟨a,l.length,b⟩,rfl,c⟩
theorem Tz(c:Sl w y l):∃ z:S3,y=z.v/\Sl w z.v l:=by
 obtain⟨a,b,rfl⟩:=c.oc;exact⟨⟨a,l.length,b⟩,rfl,c⟩
theorem DZ(w:World):Sl w s30.v []:=⟨⟨none,0,rfl,A' _,λ_=>rfl,.inl rfl⟩,by simp,by simp⟩
theorem Lk(x:Value)(d:List Int)(s:Int)(w:World)(h:Sl w x d) :
  Calls prog 111 #[.agg (tpA x s)] w λe w'=>e=.returned (.bool (decide (AZ d s)))/\Bw w w':=by
 have b:=h.len;obtain⟨f,i,rfl⟩:=h.oc;obtain⟨M,k⟩:∃ M,d.length=M:=⟨_,rfl⟩;have l:Hid (d.length=M):=k;rw[k]at b ⊢
 clear k h;simp only[tpA];have a:Bw w (w.alloc (.cells #[.slice f M i,.int .i64 s] 101)):=(Below.refl _ _).alloc (A' _) _;have j:=heap_alloc_new w (.cells #[.slice f M i,.int .i64 s] 101);generalize o:w.alloc (.cells #[.slice f M i,.int .i64 s] 101)=W0 at a j;have c0:W0.cell? ⟨w.heap.size,0,none⟩=some (.slice f M i):=cell_of_row _ _ 0 _ _ _ j;have c1:W0.cell? ⟨w.heap.size,1,none⟩=some (.int .i64 s):=cell_of_row _ _ 1 _ _ _ j;clear j;have c:Hid (AZ d s↔(M<=100000/\0<=s/\s<=(M:Int))):=by
  unfold Hid AZ;rw[l.out]
 by_cases m:M<=100000
 .have h1i:(M:Int)<=100000:=by omega
  by_cases n:0<=s
  .by_cases h3:s<=(M:Int)
   .go_enter func111,ntmps111
    go_wp2
    go_ret;exact⟨Al (by rw[I' (c.out.2 ⟨m,n,h3⟩)]),a⟩
   .go_enter func111,ntmps111
    go_wp2
    go_ret;exact⟨Al (by rw[D' (λg=>absurd (c.out.1 g).2.2 (by omega))]),a⟩
  .go_enter func111,ntmps111
   go_wp2
   go_ret;exact⟨Al (by rw[D' (λg=>absurd (c.out.1 g).2.1 (by omega))]),a⟩
 .have h1i:¬ (M:Int)<=100000:=by omega
  go_enter func111,ntmps111
  go_wp2
  go_ret;exact⟨Al (by rw[D' (λg=>absurd (c.out.1 g).1 (by omega))]),a⟩
theorem Jo(x:Value)(d:List Int)(s:Int)(n:Nat)(w:World)(h:Sl w x d)(G:n<=d.length) :
  Calls prog 112 #[.agg (tpA x s),.int .i64 (n:Int)] w λe w'=>∃ y,e=.returned (.agg (tpA y (n:Int)))/\w'.ownsRow w.heap.size 5 1 y n ((d.take n).map (Value.int .u8))/\Bw w w':=by
 have i:=h.len;obtain⟨b,c,rfl⟩:=h.oc;obtain⟨M,q⟩:∃ M,d.length=M:=⟨_,rfl⟩;have HM:Hid (d.length=M):=q;have O:Hid (n<=d.length):=G;obtain⟨t,u⟩:∃ t,t=d.take n:=⟨_,rfl⟩;have P:Hid (t=d.take n):=u;rw[<- u];clear u;rw[q]at h i G ⊢
 clear q;simp only[tpA];have v:=heap_alloc2_old w (.cells #[.slice b M c,.int .i64 s] 101) (.cells #[.slice none 0 0,.int .i64 0] 101);have z:=heap_alloc2_new w (.cells #[.slice b M c,.int .i64 s] 101) (.cells #[.slice none 0 0,.int .i64 0] 101);have l:Bw w ((w.alloc (.cells #[.slice b M c,.int .i64 s] 101)).alloc (.cells #[.slice none 0 0,.int .i64 0] 101)):=((Below.refl _ _).alloc (A' _) _).alloc (by simp) _;have f:((w.alloc (.cells #[.slice b M c,.int .i64 s] 101)).alloc (.cells #[.slice none 0 0,.int .i64 0] 101)).heap.size=w.heap.size+2:=by simp
 generalize U:(w.alloc (.cells #[.slice b M c,.int .i64 s] 101)).alloc (.cells #[.slice none 0 0,.int .i64 0] 101)=W0 at v z l f;have s0:=h.ab l;have p:Hid (W0.heap.size=w.heap.size+2):=f;have L:w.heap.size+1<W0.heap.size:=by omega
 have N:w.heap.size<W0.heap.size:=by omega
 clear f;go_enter func112,ntmps112
 go_wp2_with ((with_reducible (refine Dy ?_));at_make;refine Mi _ rfl _ _ 48 rfl W0.heap.size 5 underlying48 Aq n rfl rfl (by omega) (A' _) ?_)
 clear U;intro A o F;have j:Bw W0 A:=(Below.refl _ _).grown F (A' _) (λk r=>by cases r);have J:=(j.block w.heap.size N).trans v;have K:=(j.block (w.heap.size+1) L).trans z;have Y:=s0.ab j;obtain⟨Z,o⟩:=o.out;have C:Hid (A.ownsRow W0.heap.size 5 1 (.slice (some ⟨W0.heap.size,0,none⟩) n n) n Z):=o;have R:=l.trans (j.mono l.size);clear o v z F;have c0:A.cell? ⟨w.heap.size,0,none⟩=some (.slice b M c):=cell_of_row _ _ 0 _ _ _ J;go_wp2_with ((with_reducible (refine Dy ?_));refine Mg _ rfl _ _ 48 48 rfl W0.heap.size 5 underlying48 gQ W0.heap.size n _ rfl C.out _ rfl d O.out Y t P.out ?_)
 intro B H Q;have a:Hid (B.ownsRow W0.heap.size 5 1 (.slice (some ⟨W0.heap.size,0,none⟩) n n) n (t.map (Value.int .u8))):=H;have E:=Q.mono (show w.heap.size+2<=W0.heap.size by have:=p.out;omega);have I:=(E.block (w.heap.size+1) (by omega)).trans K;have S:=R.trans (E.mono (by omega));obtain⟨g,m⟩:∃ g,W0.heap.size=g:=⟨_,rfl⟩;have HG:Hid (W0.heap.size=g):=m;have f:g=w.heap.size+2:=m.symm.trans p.out;have D:Hid (g=w.heap.size+2):=f;rw[m]at a ⊢
 clear H C J K c0 m f L N p;have W:=YU (some ⟨g,0,none⟩) n n (n:Int);go_wp2_with ((with_reducible (refine Dy ?_));refine wpList_store_row rfl 101 (.tmp 4) (.tmp 14) rfl (w.heap.size+1) #[.slice (some ⟨g,0,none⟩) n n,.int .i64 (n:Int)] rfl rfl 101 _ I LW rfl W ?_)
 have X:=setRow_heap B (w.heap.size+1) _ (#[.slice (some ⟨g,0,none⟩) n n,.int .i64 (n:Int)]) 101 _ I;have T:=CG S (show w.heap.size<=w.heap.size+1 by omega) (#[.slice (some ⟨g,0,none⟩) n n,.int .i64 (n:Int)]);have V:(B.setRow (w.heap.size+1) #[.slice (some ⟨g,0,none⟩) n n,.int .i64 (n:Int)]).ownsRow g 5 1 (.slice (some ⟨g,0,none⟩) n n) n (t.map (Value.int .u8)):=Dk a.out (λk r=>setRow_other _ _ _ _ (by have:=(a.out.lt k r).1;have:=D.out;omega));refine bodyPost_ret (YK rfl _ _ (w.heap.size+1) 101 _ (0,0) _ rfl X underlying101 rfl LW) rfl ?_;exact⟨_,rfl,Fq V (by have:=D.out;omega),T⟩
theorem SO:(prog.info? 47).map (·.size)=some 5:=by kernel_rfl
theorem TI:(prog.info? 148).map (·.size)=some 8:=by kernel_rfl
theorem gh{r:Value}{b a:Option Value}(h:∀ W,(Instr.slice 48 v b a none).run prog W=.ok r W)(w:World) :
  (do let x <- Instr.slice 48 v b a none;pure (Next.value x):Sem Next).run prog w=.ok (.value r) w:=by
 simp only[Sem.run_bind,h w,Result.andThen_ok,Sem.run_pure]
theorem Sl.pL(w:World)(b0 a b c c0 c1 d f:Int)(e:TypeId){g:Nat}(l:g=w.heap.size)(n:0<=b0/\b0<256)(o:0<=a/\a<256)(p:0<=b/\b<256)(q:0<=c/\c<256)(h:c0=b0)(i:c1=a)(j:d=b)(k:f=c) :
  Sl (w.alloc (.cells #[.int .u8 c0,.int .u8 c1,.int .u8 d,.int .u8 f] e)) (.slice (some ⟨g,0,none⟩) 4 4) [b0,a,b,c]:=by
 subst h i j k;exact Sl.built w [c0,c1,d,f] e l (by simp) (by intro x m;simp at m;omega)
theorem Qq(w:World)(l:List Int)(e:TypeId){g:Nat}(c:g=w.heap.size){a:Nat}(b:a<=w.heap.size)(d:l.length<=1000):(w.alloc (.cells (l.map (Value.int .u8)).toArray e)).ownsRow a e 1 (.slice (some ⟨g,0,none⟩) l.length l.length) l.length (l.map (Value.int .u8)):=by
 subst c;refine⟨by simp,.inr ⟨w.heap.size,l.length,_,rfl,b,heap_alloc_new _ _,A' _,by unfold maxLen;omega,by simp,by rw[jS (by simp)]⟩⟩
theorem IZ(w:World)(b c:Int)(e:TypeId){g:Nat}(h:g=w.heap.size){a:Nat}(d:a<=w.heap.size)(f:c=b):(w.alloc (.cells #[.int .u8 c] e)).ownsRow a e 1 (.slice (some ⟨g,0,none⟩) 1 1) [b].length ([b].map (Value.int .u8)):=by
 subst f;exact Qq w [c] e h d (by simp)
def CL(ns:List Int):List Int:=ns.flatMap Ab
theorem UN(ns:List Int):(CL ns).length=4*ns.length:=by
 induction ns with
 | nil=>rfl
 | cons n ns ih =>
  show(Ab n++CL ns).length=_;rw[M',Ck,ih,ke];omega
theorem RM(ns:List Int)(n:Int):CL (ns++[n])=CL ns++Ab n:=by simp[CL]
theorem S7(l:List Int)(k:Nat)(a:k<l.length):l.take (k+1)=l.take k++[l.getD k 0]:=by
 rw[jT a,AO a]
theorem FN(v:Value)(l ns:List Int)(B g:Nat)(w:World)(I:w.ownsRow B 5 1 v l.length (l.map (Value.int .u8)))(O:B<=w.heap.size)(T:l.length<=1000)(z:ns.length<=10)(H:∀ x∈ns,0<=x/\x<2147483648)(G:w.heap[g]?=some (.cells (ns.map (Value.int .i64)).toArray 3)) :
  Calls prog 163 #[v,.slice (some ⟨g,0,none⟩) ns.length ns.length] w λe w'=>∃ v',e=.returned v'/\w'.ownsRow B 5 1 v' (l++CL ns).length ((l++CL ns).map (Value.int .u8))/\Below B w w':=by
 obtain⟨N,t⟩:∃ N,ns.length=N:=⟨_,rfl⟩;have D:Hid (ns.length=N):=t;have M:Hid (∀ x∈ns,0<=x/\x<2147483648):=H;rw[t]at z ⊢
 clear t H;have i:Hid (w.ownsRow B 5 1 v (l++CL (ns.take 0)).length ((l++CL (ns.take 0)).map (Value.int .u8))):=by unfold Hid;simpa[CL]using I
 clear I;go_enter func163,ntmps163
 go_wp2_with fail
 go_loopw [0,9] (λv iv wr=>∃ j:Nat,j<=N/\iv=.int .i64 (j:Int)/\Hid (wr.ownsRow B 5 1 v (l++CL (ns.take j)).length ((l++CL (ns.take j)).map (Value.int .u8)))/\wr.heap[g]?=some (.cells (ns.map (Value.int .i64)).toArray 3)/\Below B w wr) (λ_ iv _=>N-(intOf iv).toNat)
 case atStart=>exact⟨0,by omega,rfl,i,G,Below.refl _ _⟩
 case round =>
  obtain⟨j,S,rfl,f,c,a⟩:=hrel;clear i G;by_cases y:j<N
  .have hji:(j:Int)<(N:Int):=by omega
   have b:j<ns.length:=by rw[D.out];exact y
   have o:=f.out.lt;have Q:B<=wr.heap.size:=jG O a.size;have P:=M.out (ns.getD j 0) (by rw[AO b];exact km b);have F:wr.cell? ⟨g,j,none⟩=some (.int .i64 (ns.getD j 0)):=by
    rw[cell_of_row _ _ j _ _ _ c,AO b];simp[List.getElem?_eq_getElem b]
   have s:Hid (ns.take (j+1)=ns.take j++[ns.getD j 0]):=S7 ns j b;have d:(l++CL (ns.take j)).length+4<=140737488355328:=by
    rw[M',UN,X'];omega
   have p:=LM f.out c (by decide);have lg:g<wr.heap.size:=(H'.1 c).1;have K:Hid (∀ n,Ab n=[n/16777216%256,n/65536%256,n/256%256,n%256]):=λn=>rfl;generalize ns.getD j 0=n at P F s;generalize E:l++CL (ns.take j)=L at f d;have C:Hid (l++CL (ns.take j)=L):=E;clear E b;go_wp2_with (at_builtin;refine Aa _ rfl _ _ 48 rfl B 5 underlying48 Aq _ _ rfl rfl L [n/16777216%256,n/65536%256,n/256%256,n%256] (f.out.alloc _) (Sl.pL _ (n/16777216%256) (n/65536%256) (n/256%256) (n%256) _ _ _ _ _ rfl (by omega) (by omega) (by omega) (by omega) (by omega) (by omega) (by omega) (by omega)) d (by simp;omega) ?_)
   intro R A q h;have u:Below B w A:=(a.alloc Q _).grown h (by simp;omega) (λk z=>(o k z).1);have m:A.heap[g]?=some (.cells (ns.map (Value.int .i64)).toArray 3):=by
    rw[h.block g (by simp;omega) (λe=>p g e.symm rfl),heap_alloc_old _ _ lg];exact c
   have r:Hid (A.ownsRow B 5 1 R (l++CL (ns.take (j+1))).length ((l++CL (ns.take (j+1))).map (Value.int .u8))):=by
    unfold Hid;rw[s.out,RM,<- jI,C.out,K.out];simpa using q
   clear q h a d f p o c F s C;go_wp2
   go_roundw
   case rel=>exact⟨j+1,by omega,by go_num,r,m,u⟩
   case measure=>simp[intOf];omega
  .obtain rfl:j=N:=by omega
   have J:ns.take j=ns:=jS (by rw[D.out];exact A' _);rw[J]at f
   clear J;go_wp2
   go_ret;exact⟨_,rfl,f.out,a⟩
theorem Sl.pK(h:Sl w (.slice a n cap) l)(c b m:Nat)(i:c<=b)(d:b<=l.length)(r:m=b-c)(o k:Int)(g:o=(c:Int))(f:k=(b:Int)) :
  ∃ a' c',(∀ W,(Instr.slice 48 (.slice a n cap) (some (.int .i64 o)) (some (.int .i64 k)) none).run prog W=.ok (.slice a' m c') W)/\Sl w (.slice a' m c') ((l.take b).drop c):=by
 subst g;subst f;subst r;have s:=h.oD c b i d;obtain⟨⟨a',j,e,u,v,t⟩,q,p⟩:=h;simp only[Value.slice.injEq]at e;obtain⟨rfl,rfl,rfl⟩:=e;refine⟨_,_,λW=>?_,by simpa[sliced]using s⟩;rw[run_slice_lh (P:=prog) W 48 a _ cap underlying48 .i64 .i64 _ _ (by omega) (by omega) (by omega)];have e:prog.elem 48=5:=by kernel_rfl
 rw[e,He,kx,kx];simp[Result.andThen,sliced]
def lenOf:Value->Nat
 | .slice _ n _=>n
 | _=>0
theorem RW{e:Nat}{a:List Value}(h:w.ownsRow base e 1 v n a):lenOf v=n:=by
 rcases h.2 with⟨rfl,rfl⟩|⟨g,cap,cur,rfl,_⟩<;>rfl
theorem Sb(v:Value)(l:List Int)(w:World)(h:Sl w v l)(hl:l.length<=100000) :
  Calls prog 121 #[v] w λe w'=>∃ v',e=.returned v'/\w'.ownsRow w.heap.size 5 1 v' (pad l).length ((pad l).map (Value.int .u8))/\Bw w w':=by
 have hs:=h;obtain⟨⟨a,a1,rfl,hc,hn,h1⟩,a4,N⟩:=h;clear h1 hn N;obtain⟨i0,hi,S,T,U⟩:=info_parts Aq;go_enter func121,ntmps121
 go_wp2_with (at_make;refine wpList_make_own _ rfl _ _ 48 rfl w.heap.size 5 i0 (.int .u8 0) 1 underlying48 hi S T _ _ _ (l.length+128) rfl rfl (by omega) (by rw[U];omega) (by unfold maxLen;omega) (A' _) ?_)
 intro X F A;have f:Bw w X:=(Below.refl _ _).grown A (A' _) (by simp);have p:X.ownsRow w.heap.size 5 1 (.slice (some ⟨w.heap.size,0,none⟩) 0 (l.length+128)) ([]:List Int).length (([]:List Int).map (Value.int .u8)):=F;clear F A;go_wp2_with (at_builtin;refine Aa _ rfl _ _ 48 rfl w.heap.size 5 underlying48 Aq _ _ rfl rfl [] l p (hs.ab f) (by simp;omega) f.size ?_)
 intro v2 Y G B;have n:Y.ownsRow w.heap.size 5 1 v2 l.length (l.map (Value.int .u8)):=by simpa using G
 have i:Bw w Y:=f.grown B f.size (by simp[Value.ownBlock]);have o:=n.lt;clear p B f G;go_wp2_with (at_builtin;refine Aa _ rfl _ _ 48 rfl w.heap.size 5 underlying48 Aq _ _ rfl rfl l [128] (n.alloc _) (Sl.one _ _ _ rfl (by omega)) (by simp;omega) (by have:=i.size;simp;omega) ?_)
 intro v3 Z H C;have q:Z.ownsRow w.heap.size 5 1 v3 (C6 l 0).length ((C6 l 0).map (Value.int .u8)):=by simpa[C6]using H
 have z:Bw w Z:=(i.alloc i.size _).grown C (by have:=i.size;simp;omega) (λk x=>(o k x).1);clear H C i o n;go_wp2
 go_loopw [3] (λv wr=>∃ j:Nat,j<=EN l.length/\wr.ownsRow w.heap.size 5 1 v (C6 l j).length ((C6 l j).map (Value.int .u8))/\Bw w wr) (λv _=>EN l.length+l.length+1-lenOf v)
 case atStart=>exact⟨0,j' _,q,z⟩
 case round =>
  clear q z;obtain⟨j,hj,b,c⟩:=hrel;obtain⟨g,cp,W,a3,Q,O,t,P⟩:=DM b (by simp[C6]);rw[CX]at W
  subst W;clear t P O;have hz:EN l.length<=63:=by unfold EN;omega
  have d:=b.lt;by_cases u:j<EN l.length
  .have hne:¬ ((l.length+1+j)%64=56):=by unfold EN at u;omega
   go_wp2_with (at_builtin;refine Aa _ rfl _ _ 48 rfl w.heap.size 5 underlying48 Aq _ _ rfl rfl (C6 l j) [0] (b.alloc _) (Sl.one _ _ _ rfl (by omega)) (by rw[CX];simp;omega) (by have:=c.size;simp;omega) ?_)
   intro V w4 I D;have r:w4.ownsRow w.heap.size 5 1 V (C6 l (j+1)).length ((C6 l (j+1)).map (Value.int .u8)):=by rw[<- RZ];simpa using I
   have L:Bw w w4:=(c.alloc c.size _).grown D (by have:=c.size;simp;omega) (λk x=>(d k x).1);have m:=RW r;rw[CX]at m
   have HL:Hid (lenOf V=l.length+1+(j+1)):=m;clear m I D b d c;go_wp2
   go_roundw
   case rel=>exact⟨j+1,u,r,L⟩
   case measure =>
    have m:=HL.out;show EN l.length+l.length+1-lenOf V<EN l.length+l.length+1-(l.length+1+j);rw[m];omega
  .have heq:(l.length+1+j)%64=56:=by unfold EN at u hj;omega
   have a0:Hid ((l.length+1+j)%64=56):=heq;have a2:(((l.length:Int)+1+j)%64 != 56)=false:=by simp;omega
   have y:j=EN l.length:=by omega
   have EJ:Hid (j=EN l.length):=y;clear heq y;go_wp2_with fail
   go_loopw [3,5] (λv s wr=>∃ k:Nat,k<=8/\s=.int .i64 (56-8*(k:Int))/\wr.ownsRow w.heap.size 5 1 v (C6 l j++(Cy l.length).take k).length ((C6 l j++(Cy l.length).take k).map (Value.int .u8))/\Bw w wr) (λ_ s _=>(intOf s+8).toNat)
   case atStart=>exact⟨0,by omega,rfl,by simpa using b,c⟩
   case round =>
    clear b c d Q;obtain⟨k,x,rfl,b,c⟩:=hrel;have d:=b.lt;by_cases R:k<8
    .go_wp2_with (at_builtin;refine Aa _ rfl _ _ 48 rfl w.heap.size 5 underlying48 Aq _ _ rfl rfl _ _ (b.alloc _) (Sl.one _ _ _ rfl ?_) (by rw[M',CX,X'];simp;omega) (by have:=c.size;simp;omega) ?_)
     .omega
     intro v5 w5 J E;have K:w5.ownsRow w.heap.size 5 1 v5 (C6 l j++(Cy l.length).take (k+1)).length ((C6 l j++(Cy l.length).take (k+1)).map (Value.int .u8)):=by
      rw[Mw _ _ R];simpa using J
     have M:Bw w w5:=(c.alloc c.size _).grown E (by have:=c.size;simp;omega) (λk x=>(d k x).1);clear J E b d c;go_wp2
     go_roundw
     case rel=>exact⟨k+1,by omega,by go_num,K,M⟩
     case measure=>simp[intOf];omega
    .obtain rfl:k=8:=by omega
     go_wp2
     go_ret;refine⟨u3,rfl,?_,c⟩;unfold pad;rw[<- EJ.out];exact b
theorem Q5(s:St)(w:World) :
  Calls prog 124 #[.agg s.cells] w λe w'=>∃ v',e=.returned v'/\w'.ownsRow w.heap.size 5 1 v' (NU s).length ((NU s).map (Value.int .u8))/\Bw w w':=by
 obtain⟨K,J,C,D,E⟩:=info_parts Aq;unfold St.cells;go_enter func124,ntmps124
 go_wp2_with (at_make;refine wpList_make_own _ rfl _ _ 48 rfl w.heap.size 5 K (.int .u8 0) 1 underlying48 J C D _ _ _ 32 rfl rfl (by omega) (by rw[E];omega) (by unfold maxLen;omega) (by simp) ?_)
 intro F u o;have r:Bw w F:=((Below.refl _ _).alloc (A' _) _).grown o (by simp) (by simp);have n:F.heap[w.heap.size]?=some (.cells #[.int .u32 (uw s.a),.int .u32 (uw s.b),.int .u32 (uw s.c),.int .u32 (uw s.d),.int .u32 (uw s.e),.int .u32 (uw s.f),.int .u32 (uw s.g),.int .u32 (uw s.h)] 208 (0,0)):=by
  rw[o.block w.heap.size (by simp) (by simp)];exact heap_alloc_new _ _
 have m:F.ownsRow w.heap.size 5 1 (.slice (some ⟨w.heap.size+1,0,none⟩) 0 32) (Ct (s.list.take 0)).length ((Ct (s.list.take 0)).map (Value.int .u8)):=u;clear u o;go_wp2_with (refine wpList_load_row rfl 208 _ rfl w.heap.size rfl 208 _ (0,0) _ n underlying208 rfl (by kernel_rfl) ?_)
 go_loopw [3,8] (λv i wr=>∃ k:Nat,k<=8/\i=.int .i64 k/\wr.ownsRow w.heap.size 5 1 v (Ct (s.list.take k)).length ((Ct (s.list.take k)).map (Value.int .u8))/\Bw w wr) (λ_ i _=>8-(intOf i).toNat)
 case atStart=>exact⟨0,by omega,rfl,m,r⟩
 case round =>
  clear m r n;obtain⟨k,H,rfl,j,q⟩:=hrel;have t:=j.lt;by_cases p:k<8
  .have hix:=Xi s k p;have l:=G7 (s.list.take k);have y:Hid (s.list.take (k+1)=s.list.take k++[s.list.getD k 0#32]):=by
    unfold Hid;rw[jT (by simpa[St.list]using p)];simp[List.getD,List.getElem?_eq_getElem (show k<s.list.length by simpa[St.list]using p)]
   have A:(s.list.take k).length<=8:=by rw[X'];omega
   generalize s.list.take k=pre at j l y A;generalize s.list.getD k 0#32=x at hix y;have L:=D3 x;go_wp2_with (at_builtin;refine Aa _ rfl _ _ 48 rfl w.heap.size 5 underlying48 Aq _ _ rfl rfl (Ct pre) (ER x) (j.alloc _) ?_ (by rw[l];simp[ER];omega) (by have:=q.size;simp;omega) ?_)
   .exact Sl.built wr (ER x) 5 rfl (by simp[ER]) (Jk x)
   intro v' w' I G;have B:w'.ownsRow w.heap.size 5 1 v' (Ct (pre++[x])).length ((Ct (pre++[x])).map (Value.int .u8)):=by
    rw[OR];simpa[G7]using I
   have z:Bw w w':=(q.alloc q.size _).grown G (by have:=q.size;simp;omega) (λk H=>(t k H).1);clear I G j t q;go_wp2
   go_roundw
   case rel=>exact⟨k+1,by omega,by go_num,by rw[y.out];exact B,z⟩
   case measure=>simp[intOf];omega
  .have HK:Hid (k=8):=by unfold Hid;omega
   go_wp2
   go_ret;refine⟨u3,rfl,?_,q⟩;rw[HK.out]at j
   exact j
theorem iU(w:World):(Go.sizeOf 5).run prog w=.ok 1 w:=by
 obtain⟨i,b,_,a,_⟩:=info_parts Aq;simp[sizeOf,typeInfo,b,a]
theorem cE(g n a k:Nat)(c:64*k+64<=64*n)(b:64*n<=a):∀ W,(Instr.slice 48 (.slice (some ⟨g,0,none⟩) (64*n) a) (some (.int .i64 (64*(k:Int)))) (some (.int .i64 (64*(k:Int)+64))) none).run prog W=.ok (.slice (some ⟨g,64*k,none⟩) 64 (a-64*k)) W:=by
 intro W;have:=Lib.run_slice_window (P:=prog) W 48 5 underlying48 iU g 0 (64*n) a (64*k) (64*k+64) (by omega) (by omega);rw[show 64*k+64-64*k=64 by omega,kl]at this
 rw[<- this];rfl
theorem gd{a:Array Value}(s:St)(c:w.heap[g]?=some (.cells a 208 (0,0)))(d:a.size=8):(storeCells ⟨g,0,none⟩ s.cells.toList).run prog w=.ok () (w.setRow g s.cells):=by
 have:=run_storeCells_from (P:=prog) g 208 s.cells.toList 0 a w c (by simp[St.cells];omega) (λv b=>by simp[St.cells]at b;rcases b with rfl|rfl|rfl|rfl|rfl|rfl|rfl|rfl<;>rfl);simpa using this
theorem Sl.pf{b c:Nat}(h:Sl w (.slice (some ⟨b,c,none⟩) n cap) l){g:Nat}(r:g<b)(j:Array Value):Sl (w.setRow g j) (.slice (some ⟨b,c,none⟩) n cap) l:=by
 obtain⟨⟨a,d,e,o,q,f⟩,k,m⟩:=h;refine⟨⟨a,d,e,o,q,?_⟩,k,m⟩;simp only[Value.slice.injEq]at e;obtain⟨rfl,_,_⟩:=e;rcases f with f|⟨b',off',e',hbs,hcell⟩
 .exact .inl f
 .simp only[V',Addr.mk.injEq,and_true]at e';obtain⟨rfl,rfl⟩:=e';refine .inr ⟨b,c,rfl,by simpa using hbs,λi p=>?_⟩;rw[<- hcell i p];exact World.cell?_of_block (w:=w) (setRow_other w g b j (by omega))
theorem ey(l:List Int)(k:Nat)(a:64*k+64<=l.length):((l.drop (64*k)).take 64).length=64:=by
 rw[X',jL];omega
theorem DI(v:Value)(l:List Int)(w:World)(h:Sl w v l)(hl:l.length<=100000)(ht:Ax w) :
  Calls prog 85 #[v] w λe w'=>∃ v',e=.returned v'/\w'.ownsRow w.heap.size 5 1 v' (dig l).length ((dig l).map (Value.int .u8))/\Bw w w':=by
 go_enter func85,ntmps85
 go_wp2_with fail
 generalize d:w.alloc _=W0;have f:Bw w W0:=by rw[<- d];exact(Below.refl _ _).alloc (A' _) _
 have z:W0.heap[w.heap.size]?=some (.cells (Aw start.list) 208 (0,0)):=by rw[<- d];exact heap_alloc_new _ _
 have U:W0.heap.size=w.heap.size+1:=by rw[<- d];simp
 clear d;refine(Sb v l W0 (h.ab f) hl).mono ?_;rintro e Y ⟨vp,rfl,r,m⟩;have F:=Sa l;have y:=XW h.byte;have s:Sl Y vp (pad l):=Sl.kc r (by omega) y;obtain⟨g,E,hv,P,Q,q,_,_⟩:=DM r (by intro e;rw[e]at F;simp at F);subst hv;have u:Bw w Y:=f.trans (m.mono f.size);have A:Y.heap[w.heap.size]?=some (.cells (Aw start.list) 208 (0,0)):=(m.block _ (by omega)).trans z;have G:Hid (dig l=NU (Oa (pad l) ((pad l).length/64))):=rfl;have x:w.heap.size<g:=by omega
 clear f z r m P Q U;generalize pad l=p at G s F y q ⊢;obtain⟨n,R⟩:∃ n,p.length=64*n:=⟨p.length/64,by omega⟩;have HN:Hid (p.length/64=n):=by unfold Hid;omega
 rw[HN.out]at G
 rw[R]at s q ⊢
 have a3:n<=2000:=by omega
 have D:Hid (p.length=64*n):=R;clear R F;go_wp2_with fail
 go_loopw [5] (λi wr=>∃ k:Nat,k<=n/\i=.int .i64 (64*(k:Int))/\wr.heap[w.heap.size]?=some (.cells (Aw (Oa p k).list) 208 (0,0))/\Sl wr (.slice (some ⟨g,0,none⟩) (64*n) E) p/\Bw w wr) (λi _=>64*n-(intOf i).toNat)
 case atStart=>exact⟨0,by omega,rfl,A,s,u⟩
 case round =>
  clear A s u;obtain⟨k,hk,rfl,a,s,t⟩:=hrel;by_cases a2:k<n
  .have hblk:=ey p k (by rw[D.out];omega);have I:Hid (Oa p (k+1)=XC (Oa p k) (Nx ((p.drop (64*k)).take 64))):=rfl;have C:Sl wr (.slice (some ⟨g,64*k,none⟩) 64 (E-64*k)) ((p.drop (64*k)).take 64):=by
    have q1:=Sl.drop (n:=64*n) (off:=0) s (64*k) (by rw[D.out];omega) (E-64*k) (by rw[D.out];omega);rw[kl]at q1
    exact q1.take 64 (by rw[jL,D.out];omega)
   generalize (p.drop (64*k)).take 64=bl at hblk I C;generalize Oa p k=S at I a;have c0:=cell_of_row wr _ 0 _ _ _ a;have c1:=cell_of_row wr _ 1 _ _ _ a;have J:=cell_of_row wr _ 2 _ _ _ a;have K:=cell_of_row wr _ 3 _ _ _ a;have L:=cell_of_row wr _ 4 _ _ _ a;have M:=cell_of_row wr _ 5 _ _ _ a;have N:=cell_of_row wr _ 6 _ _ _ a;have O:=cell_of_row wr _ 7 _ _ _ a;simp only[Aw,St.list,kf,lh,ky,kY,mC]at c0 c1 J K L M N O;have b:w.heap.size<wr.heap.size:=(H'.1 a).1;have X:Ax wr:=ht.ab t;have a1:∀ i,wr.frozen? ⟨w.heap.size,i,none⟩=false:=λi=>frozen_of_row wr _ i _ _ a;have H:Hid _:=a;have HB:Hid (Bw w wr):=t;clear a t;have a0:IntKind.i64.wrap (64*(k:Int)+64)=64*(k:Int)+64:=by simp only[IntKind.wrap,IntKind.bits,IntKind.signed];simp;omega
   have a4:=cE g n E k (by omega) q;go_wp2_with fail
   go_region_with (first
    | (go_at_call 123;refine(O5 _ bl _ (C.ab ((Below.refl _ _).drew)) hblk).mono ?_;rintro e w2 ⟨rfl,c⟩;have B:w.heap.size<w2.heap.size:=Y' b c.size;have d0:=(c.cell (p:=⟨w.heap.size,0,none⟩) b).trans c0;have d1:=(c.cell (p:=⟨w.heap.size,1,none⟩) b).trans c1;have d2:=(c.cell (p:=⟨w.heap.size,2,none⟩) b).trans J;have d3:=(c.cell (p:=⟨w.heap.size,3,none⟩) b).trans K;have d4:=(c.cell (p:=⟨w.heap.size,4,none⟩) b).trans L;have d5:=(c.cell (p:=⟨w.heap.size,5,none⟩) b).trans M;have d6:=(c.cell (p:=⟨w.heap.size,6,none⟩) b).trans N;have d7:=(c.cell (p:=⟨w.heap.size,7,none⟩) b).trans O)
    | (go_at_call 122;refine(UG S (Nx bl) _ (O4 bl) (X.ab ((Below.refl _ _).drew.trans c))).mono ?_;rintro e Z ⟨rfl,o⟩;have a5:w.heap.size<Z.heap.size:=Y' B o.size;have V:=gd (XC S (Nx bl)) (((o.block _ B).trans (c.block _ b)).trans H.out) (by rfl)))
   all_goals
    clear c0 c1 J K L M N O d0 d1 d2 d3 d4 d5 d6 d7 V;have j:Bw wr Z:=((Below.refl wr.heap.size wr).drew.trans c).trans (o.mono c.size);go_wp2
    go_roundw
    case rel =>
     refine⟨k+1,by omega,by go_num,?_,(s.ab j).pf x _,BD (HB.out.trans (j.mono HB.out.size)) (A' _) _⟩;rw[I.out];exact setRow_heap Z _ _ _ 208 _ ((j.block _ b).trans H.out)
    case measure=>simp[intOf];omega
  .have HK:Hid (k=n):=by unfold Hid;omega
   have H:Hid _:=a;have W:(prog.info? 208).map (·.size)=some (Aw (Oa p k).list).size:=by kernel_rfl
   go_wp2_with (refine wpList_load_row rfl 208 _ rfl w.heap.size rfl 208 _ (0,0) _ a underlying208 rfl W ?_)
   refine(Q5 (Oa p k) wr).mono ?_;rintro e w2 ⟨v2,rfl,T,c⟩;go_wp2
   go_ret;refine⟨v2,rfl,?_,t.trans (c.mono t.size)⟩;rw[G.out,<- HK.out];exact AJ T t.size
structure Fresh(w w':World)(v:Value)(l:List Int):Prop where
 sl:Sl w' v l
 nY:Bw w w'
 shape:∃ g cap,v=.slice (some ⟨g,0,none⟩) l.length cap/\w.heap.size<=g/\l.length<=cap
theorem Fresh.kc{d:World}(h:d.ownsRow w.heap.size 5 1 v l.length (l.map (Value.int .u8)))(c:l≠[])(j:l.length<=140737488351232)(i:∀ x∈l,0<=x/\x<256)(a:Bw w d):Fresh w d v l:=by
 obtain⟨g,b,k,e,_,f,_,_⟩:=DM h c;exact⟨Sl.kc h j i,a,g,b,k,e,f⟩
theorem Fc(h:l.length=n+1):l≠[]:=by
 intro e;rw[e]at h;simp at h
theorem gf(v:Value)(l:List Int)(w:World)(h:Sl w v l)(o:l.length<=2000)(k:Ax w) :
  Calls prog 42 #[v] w λe w'=>∃ v',e=.returned (.tuple #[v',.int .i64 0])/\Fresh w w' v' (dig l):=by
 have j:=h;obtain⟨⟨a,c,rfl,n,p,d⟩,g,b⟩:=h;clear d b;go_enter func42,ntmps42
 go_wp2_with fail
 refine(DI _ l w j (by omega) k).mono ?_;rintro e q ⟨m,rfl,i,f⟩;go_wp2
 go_ret2
 exact⟨m,rfl,Fresh.kc i (Fc (Ao l)) (by rw[Ao];omega) (CT l) f⟩
theorem cJ(v:Value)(l:List Int)(w:World)(h:Sl w v l)(o:l.length<=2000)(k:Ax w) :
  Calls prog 42 #[v] w λe w'=>∃ v',e=.returned (.tuple #[v',.int .i64 0])/\w'.ownsRow w.heap.size 5 1 v' 32 ((dig l).map (Value.int .u8))/\Bw w w':=by
 have j:=h;obtain⟨⟨a,d,rfl,n,p,f⟩,i,b⟩:=h;clear f b;go_enter func42,ntmps42
 go_wp2_with fail
 refine(DI _ l w j (by omega) k).mono ?_;rintro e q ⟨m,rfl,c,g⟩;go_wp2
 go_ret2
 rw[Ao]at c
 exact⟨m,rfl,c,g⟩
def dif(la lb:List Int):Nat->Int
 | 0=>0
 | k+1=>bits .or .u8 (dif la lb k) (bits .xor .u8 (la.getD k 0) (lb.getD k 0))
theorem jn{a b:Nat}:a ||| b=0↔a=0/\b=0:=by
 constructor
 .intro h;have c:∀ i,(a ||| b).testBit i=false:=by intro i;rw[h];simp
  constructor
  .apply mY;intro i;have:=c i;rw[Nat.testBit_or]at this;simp at this;simp[this.1]
  .apply mY;intro i;have:=c i;rw[Nat.testBit_or]at this;simp at this;simp[this.2]
 .rintro⟨rfl,rfl⟩;rfl
theorem jh{a b:Nat}:a ^^^ b=0↔a=b:=by
 constructor
 .intro h;have c:∀ i,(a ^^^ b).testBit i=false:=by intro i;rw[h];simp
  apply mY;intro i;have:=c i;rw[Nat.testBit_xor]at this;simpa using this
 .rintro rfl;simp
theorem Wr(q:∀ x∈la,0<=x/\x<256)(r:∀ x∈lb,0<=x/\x<256)(k:Nat) :
  0<=dif la lb k/\dif la lb k<256/\(dif la lb k=0↔∀ i,i<k->la.getD i 0=lb.getD i 0):=by
 induction k with
 | zero=>simp[dif]
 | succ k ih =>
  obtain⟨l,m,o⟩:=ih;have d:=Ai q k;have e:=Ai r k;have f:=u8_xor _ _ d.1 d.2 e.1 e.2;have b:(la.getD k 0).toNat ^^^ (lb.getD k 0).toNat<256:=my (n:=8) (by omega) (by omega);have g:=u8_or (dif la lb k) (((la.getD k 0).toNat ^^^ (lb.getD k 0).toNat:Nat):Int) l m (by omega) (by omega);have a:dif la lb (k+1)=(((dif la lb k).toNat ||| ((la.getD k 0).toNat ^^^ (lb.getD k 0).toNat):Nat):Int):=by
   show bits .or .u8 (dif la lb k) (bits .xor .u8 (la.getD k 0) (lb.getD k 0))=_;rw[f,g];simp
  have c:(dif la lb k).toNat ||| ((la.getD k 0).toNat ^^^ (lb.getD k 0).toNat)<256:=Nat.or_lt_two_pow (n:=8) (by omega) b;refine⟨by rw[a];omega,by rw[a];omega,?_⟩;have j:dif la lb (k+1)=0↔dif la lb k=0/\la.getD k 0=lb.getD k 0:=by
   rw[a];have:=@jn (dif la lb k).toNat ((la.getD k 0).toNat ^^^ (lb.getD k 0).toNat);have p:=@jh (la.getD k 0).toNat (lb.getD k 0).toNat;rw[p]at this
   constructor
   .intro h;have:=this.1 (by omega);omega
   .intro h;have:=this.2 (by omega);omega
  rw[j,o];constructor
  .intro h i s;rcases kt i k with h'|h'
   .exact h.1 i h'
   .obtain rfl:i=k:=by omega
    exact h.2
  .intro h;exact⟨λi s=>h i (by omega),h k (by omega)⟩
theorem ZP(c:∀ x∈la,0<=x/\x<256)(d:∀ x∈lb,0<=x/\x<256)(e:la.length=lb.length):(dif la lb lb.length==0)=decide (la=lb):=by
 rw[nI,decide_eq_true_iff,beq_iff_eq,(Wr c d _).2.2];constructor
 .intro h;apply mo e;intro i b a;have:=h i a
  rwa [AO b,AO a]at this
 .rintro rfl _ _;rfl
theorem In(r s:Value)(f c:List Int)(w:World)(v:Sl w r f)(x:Sl w s c) :
  Calls prog 159 #[r,s] w λe w'=>e=.returned (.bool (decide (f=c)))/\∃ n,w'=w.drewN n:=by
 obtain⟨⟨a,t,rfl,C,E,u⟩,z,g⟩:=v;obtain⟨⟨b,q,rfl,y,B,m⟩,A,h⟩:=x;by_cases l:f.length=c.length
 .rcases u with rfl|⟨ba,oa,rfl,_,hca⟩
  .obtain rfl:c=[]:=Z' (by simpa using l.symm);go_enter func159,ntmps159
   go_wp2
   refine wp_loop_rounds 1 ?_;rw[rounds_succ];go_wp2
   go_ret;exact⟨rfl,0,rfl⟩
  .rcases m with rfl|⟨bb,ob,rfl,_,hcb⟩
   .obtain rfl:f=[]:=Z' (by simpa using l);go_enter func159,ntmps159
    go_wp2
    refine wp_loop_rounds 1 ?_;rw[rounds_succ];go_wp2
    go_ret;exact⟨rfl,0,rfl⟩
   .have HD:Hid ((dif f c c.length==0)=decide (f=c)):=ZP g h l;go_enter func159,ntmps159
    go_wp2
    go_loopw [5,14] (λd i wr=>∃ k n:Nat,k<=c.length/\i=.int .i64 k/\d=.int .u8 (dif f c k)/\wr=w.drewN n) (λ_ i _=>c.length-(intOf i).toNat)
    case atStart=>exact⟨0,0,j' _,rfl,rfl,rfl⟩
    case round =>
     obtain⟨k,n,D,rfl,rfl,rfl⟩:=hrel;by_cases j:k<c.length
     .have hx:=hca k (by omega);have F:=hcb k j;clear hca hcb g h;have p:k<f.length:=by omega
      go_wp2
      go_quiet (fail)
      go_wp2
      go_roundw
      case rel=>exact⟨k+1,_,by omega,by go_num,by simp only[dif,AO p,AO j],rfl⟩
      case measure=>simp[intOf];omega
     .obtain rfl:k=c.length:=by omega
      clear hca hcb;go_wp2
      go_ret;exact⟨Al HD.out,n,rfl⟩
 .have hne:((f.length:Int)==(c.length:Int))=false:=by simp;omega
  have o:decide (f=c)=false:=D' (λe=>l (by rw[e]));go_enter func159,ntmps159
  go_wp2
  go_ret;exact⟨Al o.symm,0,rfl⟩
theorem NA(v:Value)(l:List Int)(w:World)(h:Sl w v l)(p:l.length<=2000)(q:Ax w) :
  Calls prog 166 #[v] w λe w'=>∃ a c,e=.returned (.tuple #[.slice a 4 c,.int .i64 0])/\Sl w' (.slice a 4 c) ((dig l).take 4)/\Bw w w':=by
 go_enter func166,ntmps166
 go_wp2_with fail
 refine(gf v l w h p q).mono ?_;rintro e t ⟨y,rfl,f⟩;obtain⟨g,b,m,s,d⟩:=f.shape;rw[Ao]at m d
 subst m;obtain⟨j,k,n,r⟩:=f.sl.ni 4 (by rw[Ao];decide);have o:=f.nY;clear f;have i:(4:Int)<=(b:Int):=by omega
 replace n:∀ W,(Instr.slice 48 (.slice (some ⟨g,0,none⟩) 32 b) none (some (.int .i64 4)) none).run prog W=.ok (.slice j 4 k) W:=n;go_wp2
 go_ret2
 exact⟨j,k,rfl,r,o⟩
theorem Mr(v:Value)(r:List Int)(w:World)(h:Sl w v r)(ht:Ax w){u:World}(O:Sl u v r) :
  Calls prog 143 #[v] w λe w'=>∃ a n c,e=.returned (.tuple #[.slice a n c,.bool (fbO r).isSome])/\Sl u (.slice a n c) ((fbO r).getD [])/\Bw w w':=by
 have o:=h.len;have P:=Ai h.byte 0;obtain⟨ax,cp,rfl⟩:=h.oc;by_cases B:r=[]
 .subst B;have d:Hid (fbO []=none):=if_pos rfl;rw[d.out];go_enter func143,ntmps143
  go_wp2
  go_ret2
  exact⟨none,0,0,rfl,Sl.nil _ _,Below.refl _ _⟩
 .have hp:0<r.length:=by
   rcases Nat.eq_zero_or_pos r.length with g|g
   .exact absurd (Z' g) B
   .exact g
  obtain⟨bd,od,rfl,F,G⟩:=h.oJ 0 hp;obtain⟨x,f⟩:∃ x:Nat,r.getD 0 0=(x:Int):=⟨(r.getD 0 0).toNat,by omega⟩;have q:(r.getD 0 0).toNat=x:=by rw[f];exact kx _
  rw[f]at G P
  obtain⟨M,D⟩:∃ M,r.length=M:=⟨_,rfl⟩;have b:Hid (r.length=M):=D;have j:Hid ((r.getD 0 0).toNat=x):=q;have hz:(0:Int)<(M:Int):=by omega
  have a2:((M:Int)==0)=false:=by simp;omega
  rw[D]at h O o hp ⊢
  have a3:x<256:=by omega
  have i:Hid (¬ r=[]):=B;clear D f q P B;rw[lU]at G
  by_cases L:M<x+5
  .have d:Hid (fbO r=none):=by
    unfold Hid fbO;rw[if_neg i.out,j.out,b.out,if_pos L]
   rw[d.out];have l:(M:Int)<1+(x:Int)+4:=by omega
   clear i j;go_enter func143,ntmps143
   go_wp2
   go_ret2
   exact⟨none,0,0,rfl,Sl.nil _ _,Below.refl _ _⟩
  .have l:¬ (M:Int)<1+(x:Int)+4:=by omega
   obtain⟨E,N⟩:∃ E:Nat,E=x+1:=⟨_,rfl⟩;have z:Hid (E=x+1):=N;have C:1+(x:Int)=(E:Int):=by omega
   have a0:E+4<=M:=by omega
   have a1:E<=256:=by omega
   have m:1<=E:=by omega
   rw[C]at l
   obtain⟨X,cu,ru,S⟩:=h.ni E (by rw[b.out];omega);obtain⟨V,Z,rf,H⟩:=h.pK E (E+4) 4 (by omega) (by rw[b.out];omega) (by omega) (E:Int) ((E:Int)+4) rfl (by omega);obtain⟨U,Y,rb,Q⟩:=O.pK 1 E x m (by rw[b.out];omega) (by omega) 1 (E:Int) rfl rfl;have hl:(r.take E).length=E:=by rw[X',b.out];omega
   have I:Hid ((r.take (E+4)).drop E=(r.drop E).take 4):=by unfold Hid;rw[mM,show E+4-E=4 by omega]
   rw[I.out]at H
   clear N L m I;go_enter func143,ntmps143
   go_wp2_with fail
   refine(NA (.slice X E cu) (r.take E) w S (by omega) ht).mono ?_;rintro e T ⟨W,cg,rfl,R,A⟩;have y:=H.ab A;have s:=Q;clear S H Q ru G F hl;go_wp2_with fail
   refine(In (.slice W 4 cg) (.slice V 4 Z) ((dig (r.take E)).take 4) ((r.drop E).take 4) T R y).mono ?_;rintro e w2 ⟨rfl,n2,p⟩;have J:Bw T w2:=by rw[p];exact Am (Below.refl _ _) n2
   clear p;have K:=A.trans (J.mono A.size);have t:=s;clear A J s R y rf;by_cases k:(dig (r.take E)).take 4=(r.drop E).take 4
   .have d:Hid (fbO r=some ((r.take E).drop 1)):=by
     unfold Hid fbO;have:=z.out;rw[if_neg i.out,j.out,b.out,if_neg (by omega),<- this,if_neg (λg=>g k)]
    rw[I' k];clear k i j z;go_wp2
    go_ret2
    rw[d.out];exact⟨U,x,Y,rfl,t,K⟩
   .have d:Hid (fbO r=none):=by
     unfold Hid fbO;have:=z.out;rw[if_neg i.out,j.out,b.out,if_neg (by omega),<- this,if_pos k]
    rw[D' k];clear k i j z t;go_wp2
    go_ret2
    rw[d.out];exact⟨none,0,0,rfl,Sl.nil _ _,K⟩
theorem O0(v:Value)(b:List Int)(w:World)(h:Sl w v b)(P:b.length<=255)(U:Ax w) :
  Calls prog 162 #[v] w λe w'=>∃ y,e=.returned (.tuple #[y,.int .i64 0])/\w'.ownsRow w.heap.size 5 1 y (AG b).length ((AG b).map (Value.int .u8))/\Bw w w':=by
 obtain⟨ax,cp,rfl⟩:=h.oc;obtain⟨N,l⟩:∃ N,b.length=N:=⟨_,rfl⟩;have Y:Hid (b.length=N):=l;have z:Hid (D0 b++(dig (D0 b)).take 4=AG b):=rfl;have K:Hid ([(N:Int)]++b=D0 b):=by unfold Hid D0;rw[l];rfl
 have a:Hid ((D0 b).length=N+1/\∀ x∈D0 b,0<=x/\x<256):=⟨by rw[Cj,l],KY h.byte P⟩;rw[l]at h P ⊢
 have V:(N:Int)%256=(N:Int):=by omega
 have o:[(N:Int)].length+b.length<=140737488355328:=by rw[l];simp;omega
 clear l;obtain⟨q,g⟩:∃ q,w.alloc (.cells #[.int .u8 (N:Int)] 5)=q:=⟨_,rfl⟩;have r:Bw w q:=by rw[<- g];exact BT _ _
 have H:q.ownsRow w.heap.size 5 1 (.slice (some ⟨w.heap.size,0,none⟩) 1 1) [(N:Int)].length ([(N:Int)].map (Value.int .u8)):=by rw[<- g];exact IZ w N N 5 rfl (A' _) rfl
 have O:=h.ab r;go_enter func162,ntmps162
 go_wp2_with (at_builtin;refine Aa _ rfl _ _ 48 rfl w.heap.size 5 underlying48 Aq _ _ rfl rfl [(N:Int)] b H O o r.size ?_)
 clear g;intro s t j L;have c:=H.lt;have A:Bw w t:=r.grown L r.size (λk n=>(c k n).1);replace j:t.ownsRow w.heap.size 5 1 s ([(N:Int)]++b).length (([(N:Int)]++b).map (Value.int .u8)):=by simpa using j
 rw[K.out]at j
 have I:=Sl.kc j (by rw[a.out.1];omega) a.out.2;have m:(D0 b).length<=2000:=by rw[a.out.1];omega
 have i:(D0 b).length+((dig (D0 b)).take 4).length<=140737488355328:=by rw[a.out.1,X',Ao];omega
 clear H L c K o O;generalize E:D0 b=F at j I m i z;have d:Hid (t.ownsRow w.heap.size 5 1 s F.length (F.map (Value.int .u8))):=j;clear j E a;go_wp2_with fail
 refine(NA s F t I m (U.ab A)).mono ?_;rintro e X ⟨Z,c4,rfl,J,B⟩;have C:=A.trans (B.mono A.size);have f:Hid (X.ownsRow w.heap.size 5 1 s F.length (F.map (Value.int .u8))):=Dk d.out (λk n=>B.block k (d.out.lt k n).2);have p:=f.out.lt;generalize T:(dig F).take 4=D at J z i;clear d B T I;have G:=C.size;go_wp2_with (at_builtin;refine Aa _ rfl _ _ 48 rfl w.heap.size 5 underlying48 Aq _ _ rfl rfl F D f.out J i G ?_)
 intro W R Q M;have S:Bw w R:=C.grown M C.size (λk n=>(p k n).1);have u:Hid (R.ownsRow w.heap.size 5 1 W (AG b).length ((AG b).map (Value.int .u8))):=by
  unfold Hid;rw[<- z.out];simpa using Q
 clear Q M f p J;go_wp2
 go_ret2
 exact⟨_,rfl,u.out,S⟩
end
section
variable{P:Program}{md:Region.Mode}{ops:Array Oper}{Q:Exit->Act->World->Prop}{S:World->Prop}
theorem UP{i d:Nat}{o:Oper}{a:Act}{w:World}{K:Act->World->Prop}(r:ops[i]?=some o)(B:Region.wanted o (yielded ops a.tmps)=true)(q:o.dst=some d)(s x:Operand)(t:TypeId)
  (n:o.op=.call { callee:=.builtin .append,args:=#[s,x],argTypes:=#[t,t] })
  (b e:Nat)(z:P.underlying t=some (.slice e))(f:(P.info? e).map (λi=>(i.zero,i.size,i.bytes))=some (some (.int .u8 0),1,1))
  (v u:Value)(y:a.eval s=v)(C:a.eval x=u)(l m:List Int)(j:w.ownsRow b e 1 v l.length (l.map (Value.int .u8)))(A:Sl w u m)
  (g:l.length+m.length<=140737488355328)(c:b<=w.heap.size)
  (h:∀ v' w',w'.ownsRow b e 1 v' (l++m).length ((l++m).map (Value.int .u8))->w.grownBy w' v.ownBlock->K (a.put (some d) v') w'):wpOp P ops Q i K a w :=
 wpOp_step r λF p=>by
  rw[if_pos B];obtain⟨v',w',k,D,E⟩:=GH (P:=P) w b t o.type e z f v l j u m A g c;unfold Oper.wp execOp;simp only[n,resolve,invoke,builtin,Sem.run_bind,Sem.run_pure,Result.andThen_ok,mn,kf,lh,y,C,k];exact p _ _ (by rw[q];exact h v' w' D E)
end
section
theorem G8(x:Value)(d:List Int)(s:Int)(k:Nat)(G:k<=1000)(w:World)(h:Sl w x d) :
  Calls prog 136 #[.agg (tpA x s),.int .i64 (k:Int)] w λe w'=>e=.returned (.int .i64 (Hc d s k))/\Bw w w':=by
 have t:=h.len;obtain⟨q,r,rfl⟩:=h.oc;obtain⟨M,B⟩:∃ M,d.length=M:=⟨_,rfl⟩;have z:Hid (d.length=M):=B;rw[B]at h t ⊢
 clear B;simp only[tpA];obtain⟨o,n⟩:∃ o,w.alloc (.cells #[.slice q M r,.int .i64 s] 101)=o:=⟨_,rfl⟩;have c:o.heap[w.heap.size]?=some (.cells #[.slice q M r,.int .i64 s] 101):=by rw[<- n];exact DR _ _
 have A:Bw w o:=by rw[<- n];exact BT _ _
 have i:w.heap.size<o.heap.size:=(H'.1 c).1;have b:=h.ab A;go_enter func136,ntmps136
 go_wp2_with ((with_reducible (refine Dy ?_));(refine wpList_load_row rfl 101 _ rfl w.heap.size rfl 101 _ (0,0) _ c underlying101 rfl LW ?_))
 clear n;refine(Lk (.slice q M r) d s o b).mono ?_;rintro e y ⟨rfl,f⟩;have E:=A.trans (f.mono A.size);have a:=(f.block _ i).trans c;have C:=Y' i f.size;have D:=b.ab f;clear i c b;clear f;by_cases m:AZ d s
 .rw[I' m];have F:M<=100000:=by rw[<- z.out];exact m.1
  have u:=E;by_cases v:100000<M+k
  .have h2i:(100000:Int)<(M:Int)+(k:Int):=by omega
   have p:Hid (Hc d s k=8):=by unfold Hid Hc;rw[if_neg (λg=>g m),z.out,if_pos v]
   clear m v;have j:y.cell? ⟨w.heap.size,0,none⟩=some (.slice q M r):=cell_of_row _ _ 0 _ _ _ a;have l:y.cell? ⟨w.heap.size,1,none⟩=some (.int .i64 s):=cell_of_row _ _ 1 _ _ _ a;go_wp2
   go_ret;exact⟨by rw[p.out];rfl,u⟩
  .have h2i:¬ (100000:Int)<(M:Int)+(k:Int):=by omega
   have p:Hid (Hc d s k=0):=by unfold Hid Hc;rw[if_neg (λg=>g m),z.out,if_neg v]
   clear m v;have j:y.cell? ⟨w.heap.size,0,none⟩=some (.slice q M r):=cell_of_row _ _ 0 _ _ _ a;have l:y.cell? ⟨w.heap.size,1,none⟩=some (.int .i64 s):=cell_of_row _ _ 1 _ _ _ a;go_wp2
   go_ret;exact⟨by rw[p.out];rfl,u⟩
 .rw[D' m];have p:Hid (Hc d s k=5):=if_pos m;clear m;have u:=E;go_wp2
  go_ret;exact⟨by rw[p.out];rfl,u⟩
theorem Mf(x:Value)(d:List Int)(s:Int)(v:Value)(b:List Int)(w:World)(h:Sl w x d)(hv:Sl w v b)(hb:b.length<=255)(hd:d.length<=100000)(ht:Ax w) :
  Calls prog 137 #[.agg (tpA x s),v] w λe w'=>∃ y,e=.returned (.tuple #[.agg (tpA y s),.int .i64 0])/\w'.ownsRow w.heap.size 5 1 y (d++AG b).length ((d++AG b).map (Value.int .u8))/\Bw w w':=by
 have HD:Hid (∀ x∈d,0<=x/\x<256):=h.byte;have a2:Hid (∀ x∈AG b,0<=x/\x<256):=L3 hv.byte hb;have a8:(AG b).length<=260:=by rw[Be];omega
 have a6:=h.len;obtain⟨ax,cp,rfl⟩:=h.oc;obtain⟨M,hM⟩:∃ M,d.length=M:=⟨_,rfl⟩;have HM:Hid (d.length=M):=hM;rw[hM]at h a6 ⊢
 clear hM;simp only[tpA];rw[HM.out]at hd
 obtain⟨i0,b7,c2,c5,c6⟩:=info_parts Aq;obtain⟨U,Q⟩:∃ U,(w.alloc (.cells #[.slice ax M cp,.int .i64 s] 101)).alloc (.cells #[.slice none 0 0,.int .i64 0] 101)=U:=⟨_,rfl⟩;have A:U.heap[w.heap.size]?=some (.cells #[.slice ax M cp,.int .i64 s] 101):=by rw[<- Q];exact LN _ _ _
 have B:U.heap[w.heap.size+1]?=some (.cells #[.slice none 0 0,.int .i64 0] 101):=by rw[<- Q];exact LO _ _ _
 have bb:Bw w U:=by rw[<- Q];exact NB _ _ _
 have t:w.heap.size<U.heap.size:=(H'.1 A).1;have u:(w.heap.size+1)<U.heap.size:=(H'.1 B).1;have I:=ht.ab bb;have E:=h.ab bb;have o:=hv.ab bb;go_enter func137,ntmps137
 go_wp2_with fail
 clear Q;refine(O0 v b U o hb I).mono ?_;rintro e q ⟨y,rfl,oy,a⟩;obtain⟨R,hR⟩:∃ R,AG b=R:=⟨_,rfl⟩;rw[hR]at oy a8 a2
 have HR:Hid (AG b=R):=hR;clear hR;have sy:=Sl.kc oy (by omega) a2.out;obtain⟨N,hN⟩:∃ N,R.length=N:=⟨_,rfl⟩;have HN:Hid (R.length=N):=hN;rw[hN]at oy a8
 clear hN;obtain⟨ay,cy,rfl⟩:=Cd oy;have d1:=bb.trans (a.mono bb.size);have J:=I.ab a;have n:=(a.block _ t).trans A;have m:=Y' t a.size;have C:=(a.block _ u).trans B;have f:=Y' u a.size;have G:=E.ab a;have F:=o.ab a;clear I t A u B E o;clear a;clear oy;have d0:=sy;have a5:w.heap.size+1<q.heap.size:=f;have L:q.cell? ⟨w.heap.size,0,none⟩=some (.slice ax M cp):=cell_of_row _ _ 0 _ _ _ n;go_wp2_with (at_make;refine wpList_make_own _ rfl _ _ 48 rfl q.heap.size 5 i0 (.int .u8 0) 1 underlying48 b7 c2 c5 _ _ _ (M+N) rfl rfl (by omega) (by rw[c6];omega) (by unfold maxLen;omega) (A' _) ?_)
 intro w2 o2 g2;have r:Bw q w2:=(Below.refl _ _).grown g2 (A' _) (λk Y=>by cases Y);clear g2 L;have d7:=r.size;have b5:=r;have d2:=d1.trans (r.mono d1.size);have d5:=J.ab r;have D:=(r.block _ m).trans n;have c7:=Y' m r.size;have a0:=(r.block _ f).trans C;have c8:=Y' f r.size;have H:=G.ab r;have c9:=F.ab r;clear J m n f C G F;clear r;have a1:Hid (w2.ownsRow q.heap.size 5 1 (.slice (some ⟨q.heap.size,0,none⟩) 0 (M+N)) ([]:List Int).length (([]:List Int).map (Value.int .u8))):=o2;have V:=o2.lt;have b8:([]:List Int).length+d.length<=140737488355328:=by rw[HM.out];simp;omega
 clear o2;have O:w2.cell? ⟨w.heap.size,0,none⟩=some (.slice ax M cp):=cell_of_row _ _ 0 _ _ _ D;go_wp2_with (at_builtin;refine Aa _ rfl _ _ 48 rfl q.heap.size 5 underlying48 Aq _ _ rfl rfl [] d a1.out H b8 (by omega) ?_)
 intro v3 l o3 g3;have b3:Below q.heap.size w2 l:=(Below.refl _ _).grown g3 (by omega) (λk Y=>(V k Y).1);have K:Hid (l.ownsRow q.heap.size 5 1 v3 d.length (d.map (Value.int .u8))):=by unfold Hid;simpa using o3
 have d8:=b3.size;have d4:Sl l (.slice ay N cy) R:=d0.ab (show Bw q l from b5.trans b3);have a9:=(b3.block w.heap.size (by omega)).trans D;have b0:=(b3.block (w.heap.size+1) a5).trans a0;have d3:=d2.trans (b3.mono (show w.heap.size<=q.heap.size by omega));have z:w.heap.size+1<l.heap.size:=by omega
 have d6:q.heap.size<=l.heap.size:=by omega
 obtain⟨a3,c3,h3⟩:=Cd K.out;rw[HM.out]at h3
 subst h3;have c1:l.cell? ⟨w.heap.size,1,none⟩=some (.int .i64 s):=cell_of_row _ _ 1 _ _ _ a9;obtain⟨T,hT⟩:∃ T,M+N=T:=⟨_,rfl⟩;have HT:Hid (M+N=T):=hT;clear hT;clear o3 g3 b3 V a1 H O;go_wp2_with fail
 apply YM (λg c Wz=>Wz.heap[w.heap.size+1]?=some (.cells #[.slice g T c,.int .i64 s] 101)/\Wz.ownsRow q.heap.size 5 1 (.slice g T c) T ((d++R).map (Value.int .u8))/\Below (w.heap.size+1) l Wz)
 .intro K2 HK2;have j:Bw l l.drew:=(Below.refl _ _).drew;refine wp_region_held (S:=λw'=>Below (w.heap.size+1) l w') (by kernel_rfl) ?_;have P:(λw'=>Below (w.heap.size+1) l w') l.drew:=j.mono (lV z);refine AP (i:=0) 29 (v:=.slice a3 M c3) rfl rfl (by kernel_rfl) (by kernel_rfl) (by kernel_rfl) (λ_ _ _ h=>h) (nD ⟨by rfl,λ_ _=>by kernel_rfl⟩) P ?_;simp only[Act.put,jH,jM,jN];refine AP (i:=1) 30 (v:=.slice ay N cy) rfl rfl (by kernel_rfl) (by kernel_rfl) (by kernel_rfl) (λ_ _ _ h=>h) (nD ⟨by rfl,λ_ _=>by kernel_rfl⟩) P ?_;simp only[Act.put,jH,jM,jN];refine AP (i:=3) 32 (v:=.pointer (some ⟨w.heap.size,1,none⟩)) rfl rfl (by kernel_rfl) (by kernel_rfl) (by kernel_rfl) (λ_ _ _ h=>h) (nD ⟨by rfl,λ_ _=>by kernel_rfl⟩) P ?_;simp only[Act.put,jH,jM,jN];refine AP (i:=4) 33 (v:=.int .i64 s) rfl rfl (by kernel_rfl) (by kernel_rfl) (by kernel_rfl) (λ_ _ _ h=>h) (VC (by rfl) 3 (.tmp 32) rfl _ underlying3 rfl ⟨w.heap.size,1,none⟩ rfl (.int .i64 s) (λw' c0=>(c0.cell (p:=⟨w.heap.size,1,none⟩) (show w.heap.size<w.heap.size+1 by omega)).trans c1)) P ?_;simp only[Act.put,jH,jM,jN];have od:l.drew.ownsRow q.heap.size 5 1 (.slice a3 M c3) d.length (d.map (Value.int .u8)):=Dk K.out (λk Y=>j.block k (K.out.lt k Y).2);have rd:=(j.block (w.heap.size+1) z).trans b0;have b9:=od.lt;have Z:d.length+R.length<=140737488355328:=by rw[HM.out,HN.out];omega
  refine D4 (i:=2) (by kernel_rfl) (UP (i:=2) (d:=31) rfl (by kernel_rfl) rfl (.tmp 29) (.tmp 30) 48 rfl q.heap.size 5 underlying48 Aq (.slice a3 M c3) (.slice ay N cy) (by kernel_rfl) (by kernel_rfl) d R od (d4.ab j) Z (jG d6 j.size) ?_);intro v4 w4 o4 g4;have b4:Below (w.heap.size+1) l w4:=(j.mono (lV z)).grown g4 (jG (lV z) j.size) (λk Y=>jG (lV a5) (b9 k Y).1);have r4:w4.heap[w.heap.size+1]?=some (.cells #[.slice none 0 0,.int .i64 0] 101):=(g4.block (w.heap.size+1) (Y' z j.size) (λe=>LM od rd (by decide) _ e.symm rfl)).trans rd;have b6:(d++R).length=T:=by rw[M',HM.out,HN.out];exact HT.out
  rw[b6]at o4
  obtain⟨W,X,h4⟩:=Cd o4;subst h4;refine⟨b4,?_⟩;simp only[Act.put,jH,jM,jN];refine AP (i:=5) 34 (v:=.agg #[.slice W T X,.int .i64 s]) rfl rfl (by kernel_rfl) (by kernel_rfl) (by kernel_rfl) (λ_ _ _ h=>h) (nD ⟨by rfl,λ_ _=>by kernel_rfl⟩) b4 ?_;simp only[Act.put,jH,jM,jN];have a7:=YU W T X s;have e7:Below (w.heap.size+1) l (w4.setRow (w.heap.size+1) #[.slice W T X,.int .i64 s]):=CG b4 (A' _) _;have q7:=setRow_heap w4 (w.heap.size+1) _ (#[.slice W T X,.int .i64 s]) 101 _ r4;have o7:=Vr o4 r4 (by decide) (#[.slice W T X,.int .i64 s]);refine D4 (i:=6) (by kernel_rfl) (Tq (i:=6) rfl (by kernel_rfl) rfl 101 (.tmp 4) (.tmp 34) rfl (w.heap.size+1) #[.slice W T X,.int .i64 s] (by kernel_rfl) (by kernel_rfl) 101 _ r4 LW rfl a7 ⟨e7,?_⟩);refine AP (i:=7) 5 (v:=.int .i64 0) rfl rfl (by kernel_rfl) (by kernel_rfl) (by kernel_rfl) (λ_ _ _ h=>h) (nD ⟨by rfl,λ_ _=>by kernel_rfl⟩) e7 ?_;simp only[Act.put,jH,jM,jN];exact wpAnyH_done (by kernel_rfl) (HK2.out W X _ ⟨q7,o7,e7⟩) _
 rintro g c Wz ⟨qR,oR,eR⟩;have dR:=d3.trans (eR.mono (by omega));have b1:Hid ((d++AG b).length=T):=by unfold Hid;rw[HR.out,M',HM.out,HN.out];exact HT.out
 clear a9 b0 c1 K;go_wp2
 refine bodyPost_ret (T2 rfl _ _ (w.heap.size+1) 101 _ (0,0) _ rfl qR underlying101 rfl LW) rfl ?_;rw[b1.out,HR.out];exact⟨_,rfl,Fq oR (by omega),dR⟩
theorem O7(b:Bal)(z:Ad b)(w:World) :
  Calls prog 138 #[.agg (baA b)] w λe w'=>∃ y,e=.returned y/\w'.ownsRow w.heap.size 5 1 y 9 ((Bo b).map (Value.int .u8))/\Bw w w':=by
 obtain⟨n,m⟩:=b;have t:=z;unfold Ad at t;simp only at t;have O:Hid (Ad ⟨n,m⟩):=z;clear z;simp only[baA];obtain⟨d,o⟩:∃ d,w.alloc (.cells #[.int .i64 n,.int .i64 m] 88)=d:=⟨_,rfl⟩;have h:d.heap[w.heap.size]?=some (.cells #[.int .i64 n,.int .i64 m] 88):=by rw[<- o];exact DR _ _
 have v:Bw w d:=by rw[<- o];exact BT _ _
 have f:w.heap.size<d.heap.size:=(H'.1 h).1;obtain⟨i,p⟩:∃ i,d.alloc (.cells #[.int .u8 1] 5)=i:=⟨_,rfl⟩;have u:Bw d i:=by rw[<- p];exact BT _ _
 have B:i.ownsRow d.heap.size 5 1 (.slice (some ⟨d.heap.size,0,none⟩) 1 1) [(1:Int)].length ([(1:Int)].map (Value.int .u8)):=by rw[<- p];exact IZ d 1 1 5 rfl (A' _) rfl
 have E:=v.trans (u.mono v.size);have a:=(u.block _ f).trans h;have c:=Y' f u.size;clear f h;have j:i.cell? ⟨w.heap.size,0,none⟩=some (.int .i64 n):=cell_of_row _ _ 0 _ _ _ a;have l:i.cell? ⟨w.heap.size,1,none⟩=some (.int .i64 m):=cell_of_row _ _ 1 _ _ _ a;obtain⟨r,q⟩:∃ r,i.alloc (.cells #[.int .i64 n,.int .i64 m] 3)=r:=⟨_,rfl⟩;have s:Bw i r:=by rw[<- q];exact BT _ _
 have rn:r.heap[i.heap.size]?=some (.cells ([n,m].map (Value.int .i64)).toArray 3):=by rw[<- q];exact heap_alloc_new _ _
 have N:d.heap.size<=r.heap.size:=jG u.size s.size;have H:=E.trans (s.mono E.size);have C:=(s.block _ c).trans a;have A:=Y' c s.size;have g:=Dk B (λk J=>s.block k (B.lt k J).2);clear c a B;go_enter func138,ntmps138
 go_wp2_with fail
 clear o p q j l;refine(FN (.slice (some ⟨d.heap.size,0,none⟩) 1 1) [1] [n,m] d.heap.size i.heap.size r g N (by simp) (by simp) (by intro x K;simp at K;omega) rn).mono ?_;rintro e M ⟨L,rfl,F,D⟩;have I:=H.trans (D.mono v.size);have G:Hid (M.ownsRow w.heap.size 5 1 L 9 ((Bo ⟨n,m⟩).map (Value.int .u8))):=Fq F v.size;clear F D rn g;go_wp2
 go_ret;exact⟨_,rfl,G.out,I⟩
theorem O9(v:Vt)(hv:Ak v)(x:Value)(w:World)(P:Sl w x (CS v.w.k v.w.c v.w.s v.w.n v.w.v)) :
  Calls prog 156 #[.agg (vtA v),x] w λe w'=>∃ y,e=.returned y/\w'.ownsRow w.heap.size 5 1 y 33 ((Bd v).map (Value.int .u8))/\Bw w w':=by
 obtain⟨p,⟨o,m⟩,⟨G,F,I,H,J⟩⟩:=v;have E:=hv;unfold Ak Ad at E;simp only at E P;obtain⟨a0,a1,-⟩:=E;clear hv;simp only[vtA,vtC];obtain⟨b,z⟩:∃ b,w.alloc (.cells #[.int .i64 p,.int .i64 o,.int .i64 m,.int .i64 G,.int .i64 F,.int .i64 I,.int .i64 H,.int .i64 J] 148)=b:=⟨_,rfl⟩;have i:b.heap[w.heap.size]?=some (.cells #[.int .i64 p,.int .i64 o,.int .i64 m,.int .i64 G,.int .i64 F,.int .i64 I,.int .i64 H,.int .i64 J] 148):=by rw[<- z];exact DR _ _
 have u:Bw w b:=by rw[<- z];exact BT _ _
 have g:w.heap.size<b.heap.size:=(H'.1 i).1;have j:=P.ab u;obtain⟨f,A⟩:∃ f,b.alloc (.cells #[.int .u8 2] 5)=f:=⟨_,rfl⟩;have N:Bw b f:=by rw[<- A];exact BT _ _
 have W:f.ownsRow b.heap.size 5 1 (.slice (some ⟨b.heap.size,0,none⟩) 1 1) [(2:Int)].length ([(2:Int)].map (Value.int .u8)):=by rw[<- A];exact IZ b 2 2 5 rfl (A' _) rfl
 have d1:=u.trans (N.mono u.size);have a:=(N.block _ g).trans i;have d:=Y' g N.size;have l:=j.ab N;clear g i j;have q:f.cell? ⟨w.heap.size,0,none⟩=some (.int .i64 p):=cell_of_row _ _ 0 _ _ _ a;have r:f.cell? ⟨w.heap.size,1,none⟩=some (.int .i64 o):=cell_of_row _ _ 1 _ _ _ a;have t:f.cell? ⟨w.heap.size,2,none⟩=some (.int .i64 m):=cell_of_row _ _ 2 _ _ _ a;obtain⟨K,B⟩:∃ K,f.alloc (.cells #[.int .i64 p,.int .i64 o,.int .i64 m] 3)=K:=⟨_,rfl⟩;have M:Bw f K:=by rw[<- B];exact BT _ _
 have rn:K.heap[f.heap.size]?=some (.cells ([p,o,m].map (Value.int .i64)).toArray 3):=by rw[<- B];exact heap_alloc_new _ _
 have z1:b.heap.size<=K.heap.size:=jG N.size M.size;have d2:=d1.trans (M.mono d1.size);have Y:=(M.block _ d).trans a;have V:=Y' d M.size;have Z:=l.ab M;have h:=Dk W (λk U=>M.block k (W.lt k U).2);clear d a l W;go_enter func156,ntmps156
 go_wp2_with fail
 clear z A B q r t;refine(FN (.slice (some ⟨b.heap.size,0,none⟩) 1 1) [2] [p,o,m] b.heap.size f.heap.size K h z1 (by simp) (by simp) (by intro x P;simp at P;omega) rn).mono ?_;rintro e w3 ⟨v3,rfl,S,T⟩;have d3:=d2.trans (T.mono u.size);have Q:=P.ab d3;have z3:b.heap.size<=w3.heap.size:=jG z1 T.size;have O:=S.lt;have R:Hid ([2]++CL [p,o,m]++CS G F I H J=Bd ⟨p,⟨o,m⟩,⟨G,F,I,H,J⟩⟩):=rfl;have D:([(2:Int)]++CL [p,o,m]).length+(CS G F I H J).length<=140737488355328:=by show 33<=_;decide
 generalize hL:[(2:Int)]++CL [p,o,m]=L at S R D;generalize hC:CS G F I H J=C at Q R D;clear hL hC rn T h;go_wp2_with (at_builtin;refine Aa _ rfl _ _ 48 rfl b.heap.size 5 underlying48 Aq _ _ rfl rfl L C S Q D z3 ?_)
 intro v4 w4 o4 g4;have d4:Bw w w4:=d3.grown g4 (jG u.size z3) (λk U=>jG u.size (O k U).1);have HO:Hid (w4.ownsRow w.heap.size 5 1 v4 33 ((Bd ⟨p,⟨o,m⟩,⟨G,F,I,H,J⟩⟩).map (Value.int .u8))):=by
  have X:w4.ownsRow b.heap.size 5 1 v4 (L++C).length ((L++C).map (Value.int .u8)):=by simpa using o4
  have:=Fq X u.size;rw[R.out]at this
  exact this
 clear o4 g4 S O R;go_wp2
 go_ret;exact⟨_,rfl,HO.out,d4⟩
def IC(l:List Int)(j:Nat):List Int:=(l.take j).flatMap Ab
theorem Ul(l:List Int)(j:Nat)(h:j<l.length):IC l (j+1)=IC l j++Ab (l.getD j 0):=by
 unfold IC;rw[jT h,List.flatMap_append,AO h];simp
theorem Pn(l:List Int)(j:Nat):(IC l j).length<=4*j:=by
 unfold IC;induction l generalizing j with
 | nil=>simp
 | cons x l ih =>
  cases j with
  | zero=>simp
  | succ j =>
   have:=ih j;rw[kL,lT,M',Ck];omega
theorem Uk(k c s n v:Int):IC [k,c,s,n,v] 5=CS k c s n v:=rfl
def Um(k c s n v:Int):List Int:=if AW k c s n v=0 then CS k c s n v else[]
variable{E c k n s:Int}{b:Bal}{base e i nb ob:Nat}{d:List Int}{g:Gh}{l:List Vt}{ls:List Let}{p:Nod}{ts:List Tol}{v:Vt}{w w':World}{x:S3}{xs:List Value}
theorem Oc{v:Int}(h:AW k c s n v=0):Um k c s n v=CS k c s n v:=if_pos h
theorem ZW{v:Int}(h:¬ AW k c s n v=0):Um k c s n v=[]:=if_neg h
def NK:Array Value:=(List.replicate 20 (Value.int .u8 0)).toArray
theorem fh(w:World):(Instr.makeSlice 48 (.int .i64 0) (.int .i64 20)).run prog w=.ok (.slice (some ⟨w.heap.size,0,none⟩) 0 20) (w.alloc (.cells NK 5)):=by
 obtain⟨i,c,d,a,b⟩:=info_parts Aq;rw[run_makeSlice (P:=prog) w 48 5 i (.int .u8 0) underlying48 c d .i64 .i64 0 20 (by omega) (by omega) (by rw[a];decide) (by rw[b];decide) (by omega),a];have e:madeCells (Value.int .u8 0).cells ((20:Int).toNat*1)=NK:=by kernel_rfl
 rw[e];rfl
theorem Bc.num{g:Nat}{v:Int}(h:Bc w g k c s n v)(j:Nat)(e:j<5):w.cell? ⟨g,j,none⟩=some (.int .i64 ([k,c,s,n,v].getD j 0)):=by
 obtain⟨c0,c1,a,b,d⟩:=E6 h.row;rcases(by omega:j=0\/j=1\/j=2\/j=3\/j=4)with rfl|rfl|rfl|rfl|rfl
 .exact c0
 .exact c1
 .exact a
 .exact b
 .exact d
theorem RV{v:Value}{n:Nat}(h:w.ownsRow base e 1 v n xs)(a:∀ k,v.ownBlock=some k->w'.heap[k]?=w.heap[k]?):w'.ownsRow base e 1 v n xs:=by
 refine⟨h.1,?_⟩;rcases h.2 with h2|⟨g,cap,cur,hv,hb,hg,hr⟩
 .exact .inl h2
 .exact .inr ⟨g,cap,cur,hv,hb,(a g (by rw[hv];rfl)).trans hg,hr⟩
theorem Jy{v:Value}{n:Nat}(h:w.ownsRow base e 1 v n xs)(a:Bw w w'):w'.ownsRow base e 1 v n xs :=
 RV h λk b=>a.block k (h.lt k b).2
theorem KN(k c s n v:Int)(w:World)(S:NTab w) :
  Calls prog 41 #[.agg (cmA k c s n v)] w λe w'=>∃ v',e=.returned (.tuple #[v',.int .i64 (AW k c s n v)])/\w'.ownsRow w.heap.size 5 1 v' (Um k c s n v).length ((Um k c s n v).map (Value.int .u8))/\Bw w w':=by
 have q:Bw w (w.alloc (.cells (cmA k c s n v) 47)):=(Below.refl _ _).alloc (A' _) _;have i:=Bc.made w k c s n v;have J:=S.ab q;have hi:=Gi k c s n v;generalize hW:w.alloc (.cells (cmA k c s n v) 47)=W at q i J;clear S;go_enter func41,ntmps41
 go_wp2_with (refine wpList_load_row rfl 47 _ rfl w.heap.size rfl 47 _ (0,0) _ i.row underlying47 rfl hi ?_)
 clear hW;refine(DL k c s n v W J).mono ?_;rintro e a ⟨rfl,F⟩;have H:Bw w a:=q.trans (F.mono q.size);replace i:=i.ab F;clear F q J;by_cases p:AW k c s n v=0
 .have HE:Hid (Um k c s n v=IC [k,c,s,n,v] 5):=(Oc p).trans (Uk k c s n v).symm;have A:=E7 p;have P:Hid (∀ j,j<5->0<=[k,c,s,n,v].getD j 0/\[k,c,s,n,v].getD j 0<2147483648):=by
   unfold Hid;obtain⟨hk,hc⟩:=A;unfold InC at hc;intro j M;rcases(by omega:j=0\/j=1\/j=2\/j=3\/j=4)with rfl|rfl|rfl|rfl|rfl
   .show 0<=k/\k<2147483648;omega
   .show 0<=c/\c<2147483648;omega
   .show 0<=s/\s<2147483648;omega
   .show 0<=n/\n<2147483648;omega
   .show 0<=v/\v<2147483648;omega
  have O:Hid ([k,c,s,n,v].length=5):=rfl;have Y:Hid (AW k c s n v=0):=p;rw[p];clear A p;have u:=fh a;have z:Below a.heap.size a (a.alloc (.cells NK 5)):=(Below.refl _ _).alloc (A' _) _;have x:(a.alloc (.cells NK 5)).ownsRow a.heap.size 5 1 (.slice (some ⟨a.heap.size,0,none⟩) 0 20) ([]:List Int).length (([]:List Int).map (Value.int .u8)) :=
   ⟨rfl,.inr ⟨a.heap.size,20,NK,rfl,A' _,heap_alloc_new _ _,by decide,by simp[maxLen],rfl,rfl⟩⟩
  have h:Hid _:=x;clear x;generalize a.alloc (.cells NK 5)=W2 at u z h;go_wp2_with fail
  refine(GB w.heap.size W2).mono ?_;rintro e U ⟨rfl,G⟩;have f:Hid (U.ownsRow a.heap.size 5 1 (.slice (some ⟨a.heap.size,0,none⟩) 0 20) ([]:List Int).length (([]:List Int).map (Value.int .u8))):=Jy h.out G;have I:Below a.heap.size a U:=z.trans (G.mono z.size);have z3:=I.size;clear h z G u;have N:=i.lt;have R:∀ wr,Below a.heap.size a wr->∀ j,j<5->wr.cell? ⟨w.heap.size,j,none⟩=some (.int .i64 ([k,c,s,n,v].getD j 0)):=λwr hb j M=>(i.ab hb).num j M;have D:Hid _:=R;clear i R;generalize [k,c,s,n,v]=L at HE P D O;have r:a.heap.size<=a.heap.size:=A' _;have o:w.heap.size<=a.heap.size:=H.size;generalize hB:a.heap.size=B at I z3 f D N o;replace r:B<=a.heap.size:=by omega
  clear hB;have l:=PY w.heap.size;go_wp2_with fail
  go_loopw [5,15] (λv iv wr=>∃ j:Nat,j<=5/\iv=.int .i64 (j:Int)/\wr.ownsRow B 5 1 v (IC L j).length ((IC L j).map (Value.int .u8))/\Below B a wr) (λ_ iv _=>(5-intOf iv).toNat)
  case atStart=>exact⟨0,by omega,rfl,f.out,I⟩
  case round =>
   obtain⟨j,M,rfl,d,b⟩:=hrel;by_cases m:j<5
   .have hji:(j:Int)<5:=by omega
    have K:=l j m;have t:=D.out _ b j m;have g:=P.out j m;have C:Hid (IC L (j+1)=IC L j++Ab (L.getD j 0)):=Ul L j (by rw[O.out];omega);have V:=Pn L j;have y:Hid _:=d;have A:B<=wr.heap.size:=jG r b.size;clear d l f;generalize L.getD j 0=X at t g C;go_wp2_with fail
    refine(GE _ _ X B wr y.out A (by omega) g.1 g.2).mono ?_;rintro e w5 ⟨v5,rfl,T,Q⟩;have E:Hid (w5.ownsRow B 5 1 v5 (IC L (j+1)).length ((IC L (j+1)).map (Value.int .u8))):=by unfold Hid;rw[C.out];exact T
    have Z:=b.trans Q;clear T Q y C V t K g;go_wp2
    go_roundw
    case rel=>exact⟨j+1,by omega,by go_num,E.out,Z⟩
    case measure=>simp[intOf];omega
   .obtain rfl:j=5:=by omega
    rw[show((5:Nat):Int)=5 from rfl];have y:Hid _:=d;clear d l f;go_wp2
    go_ret2
    rw[HE.out,Y.out];exact⟨_,rfl,AJ y.out o,H.trans (b.mono o)⟩
 .have HE:Hid (Um k c s n v=[]):=ZW p;go_wp2
  go_ret2
  rw[HE.out];exact⟨_,rfl,World.ownsRow_nil _ _ _ _,H⟩
theorem Jw{P:Program}{f:Func}{p u:Tmp}{c:TypeId}(h:f.results=#[.cell p c,.tmp u])(a:Array Value)(w:World)(g:Nat)(t:TypeId)(b:Array Value)(fr:Nat × Nat)(d:TypeDesc)(l:a.getD p undef=.pointer (some ⟨g,0,none⟩))(j:w.heap[g]?=some (.cells b t fr))(m:P.underlying c=some d)(i:(match d with|.struct _|.array _ _=>true|_=>false)=true)(k:(P.info? c).map (·.size)=some b.size) :
  (results f a).run P w=.ok (.tuple #[.agg b,a.getD u undef]) w:=by
 have e:a[p]?.getD undef=.pointer (some ⟨g,0,none⟩):=by simpa using l
 simp[results,h,e,asAddr,run_loadVar_row w g t c b fr d j m i k]
theorem SN(k c s n v:Int):(cmA k c s n v).all (·.oneCell')=true:=by simp[cmA,Value.oneCell']
theorem Nb.mono{B C:Nat}{y:S3}{l:List Int}(h:Nb B y l)(c:C<=B):Nb C y l:=λd a b=>jG c (h d a b)
theorem YG{y:Value}(b:Sv w y l):∃ z:S3,y=z.v:=by
 obtain⟨a,c,rfl⟩:=b.shape;exact⟨⟨a,l.length,c⟩,rfl⟩
theorem ja(w:World):Sv w (.slice none 0 0) []:=⟨⟨none,0,rfl,A' _,λ_=>rfl,.inl rfl⟩,by simp⟩
theorem fE(d:NTab w){E:Int}(c:(if Ad b then 0 else 2)=E) :
  Calls prog 103 #[.agg #[iv 0,iv 0,S3.v s30],.agg #[iv b.r,iv b.n]] w λe w'=>∃ (r n:Int) (y z:S3),e=.returned (.tuple #[.agg #[iv r,iv n,y.v],z.v,iv E])/\Bw w w':=by
 refine(PW ⟨0,0⟩ (.slice none 0 0) [] b w (ja w) d).mono ?_;rintro e w' ⟨y,z,rfl,g,h,f⟩;obtain⟨y,rfl⟩:=YG g;obtain⟨z,rfl⟩:=YG h;have a:Cl ⟨⟨0,0⟩,[]⟩ b=E:=(bI b).trans c;rw[a];exact⟨_,_,y,z,rfl,f⟩
theorem Em{may:Prop}[Decidable may]{b:List Int}(h:CQ d s may b=E)(a:E≠0):Ft d s may b=[]/\Gc d s may b=0:=⟨if_neg (by rw[h];exact a),if_neg (by rw[h];exact a)⟩
theorem Y8(a:Ad b){w:World}:Calls prog 138 #[.agg #[iv b.r,iv b.n]] w λe w'=>∃ y:S3,e=.returned y.v/\Sl w' y.v (Bo b)/\Bw w w':=by
 refine(O7 b a w).mono ?_;rintro e w' ⟨y,rfl,c,h⟩;obtain⟨z,rfl,d⟩:=FM (l:=Bo b) c (by rw[show(Bo b).length=9 from rfl];decide) (UX b);exact⟨z,rfl,d,h⟩
theorem TL{v:S3}{b:List Int}(s:Int){w:World}(h:Sl w x.v d)(c:Sl w v.v b)(a:b.length<=255)(m:d.length+5+b.length<=100000)(i:Ax w) :
  Calls prog 137 #[.agg #[x.v,iv s],v.v] w λe w'=>∃ y:S3,e=.returned (.tuple #[.agg #[y.v,iv s],iv 0])/\Sl w' y.v (d++AG b)/\Nb w.heap.size y (d++AG b)/\Bw w w':=by
 refine(Mf x.v d s v.v b w h c a (by omega) i).mono ?_;rintro e w' ⟨y,rfl,g,j⟩;obtain⟨z,rfl,l,f⟩:=RT g (by rw[M',Be];omega) (λx k=>(Q'.1 k).elim (h.byte x) (L3 c.byte a x));exact⟨z,rfl,l,f,j⟩
theorem dS(f:NTab w){E:Int}(d:(if Ak v then 0 else 2)=E) :
  Calls prog 105 #[.agg #[iv 0,iv 0,S3.v s30],.agg #[iv v.au,iv v.b.r,iv v.b.n,iv v.w.k,iv v.w.c,iv v.w.s,iv v.w.n,iv v.w.v]] w λe w'=>∃ (r n:Int) (y:S3),e=.returned (.tuple #[.agg #[iv r,iv n,y.v],iv E])/\Bw w w':=by
 refine(QC ⟨0,0⟩ (.slice none 0 0) [] v w (ja w) f).mono ?_;rintro e w' ⟨y,rfl,h,g⟩;obtain⟨y,rfl⟩:=YG h;have a:AV ⟨⟨0,0⟩,[]⟩ v=E:=(dc v).trans d;rw[a];exact⟨_,_,y,rfl,g⟩
theorem WG{m:Cmd}(f:NTab w)(d:m.e=0) :
  Calls prog 41 #[.agg #[iv m.k,iv m.c,iv m.s,iv m.n,iv m.v]] w λe w'=>∃ y:S3,e=.returned (.tuple #[y.v,iv 0])/\Sl w' y.v (CS m.k m.c m.s m.n m.v)/\Bw w w':=by
 refine(KN m.k m.c m.s m.n m.v w f).mono ?_;rintro e w' ⟨y,rfl,b,g⟩;have a:AW m.k m.c m.s m.n m.v=0:=d;rw[Oc a]at b
 rw[a];obtain⟨y,rfl,h⟩:=FM b (by rw[BI];decide) (Gj _ _ _ _ _);exact⟨y,rfl,h,g⟩
theorem YH(d:Ak v){x:S3}{w:World}(f:Sl w x.v (CS v.w.k v.w.c v.w.s v.w.n v.w.v)) :
  Calls prog 156 #[.agg #[iv v.au,iv v.b.r,iv v.b.n,iv v.w.k,iv v.w.c,iv v.w.s,iv v.w.n,iv v.w.v],x.v] w λe w'=>∃ y:S3,e=.returned y.v/\Sl w' y.v (Bd v)/\Bw w w':=by
 refine(O9 v d x.v w f).mono ?_;rintro e w' ⟨y,rfl,a,h⟩;obtain⟨z,rfl,g⟩:=FM (l:=Bd v) a (by rw[Q3];decide) (V9 v);exact⟨z,rfl,g,h⟩
theorem Yo{k:Nat}(h:Hc d s k=0):d.length+k<=100000:=by
 unfold Hc at h;split at h
 .cases h
 .split at h
  .cases h
  .omega
theorem J8(h:Sl w x.v d)(hT:Ax w)(hN:NTab w) :
  Calls prog 104 #[.agg #[x.v,iv s],.agg #[iv b.r,iv b.n]] w λe w'=>∃ y:S3,e=.returned (.tuple #[.agg #[y.v,iv (Gc d s (Ad b) (Bo b))],iv (CQ d s (Ad b) (Bo b))])/\Sl w' y.v (Ft d s (Ad b) (Bo b))/\Nb w.heap.size y (Ft d s (Ad b) (Bo b))/\Bw w w':=by
 obtain⟨j,q⟩:∃ j,Hc d s 14=j:=⟨_,rfl⟩;obtain⟨m,k⟩:∃ m:Int,(if Ad b then 0 else 2)=m:=⟨_,rfl⟩;have hW:CQ d s (Ad b) (Bo b)=if j≠0 then j else m:=by rw[<- q,<- k];rfl
 refine kIn func104 (kR 11 [0,0,0,0,1,0,0] λa w1 U=>kC 1 ((q▸G8 x.v d s 14 (by decide) _ (h.ab U))) ?_);rintro _ w2 ⟨rfl,Y⟩;refine⟨_,rfl,Y,?_⟩;refine kR 7 [] λd2 w3 b3=>?_;by_cases o:j≠0
 .refine kI ((j != 0)) true (by simpa using o) (kF 7 [2,0] λd3 w4 b4 q4=>?_);have c:=hW.trans (if_pos o);rw[c,(Em c o).1,(Em c o).2];have B5:=((btr (btr U Y) b3).trans b4);exact qE2 4 5 101 2 (a 2) #[S3.v s30,iv 0] (iv j) λK=>⟨s30,rfl,DZ _,λh=>absurd rfl h,B5⟩
 .refine kI ((j != 0)) false (by simpa using o) ?_;have a0:j=0:=by simpa using o
  have hd:=Yo (q.trans a0);refine kR 6 [1] λd4 w6 b6=>?_;have P:=(btr (btr (btr U Y) b3) b6);refine kC 2 (fE (hN.ab P) k) ?_;rintro _ w8 ⟨r,n,ya,za,rfl,Q⟩;refine⟨_,rfl,Q,?_⟩;refine kR 14 [1,0,3,0] λa5 w9 b9=>?_;by_cases E:m≠0
  .refine kI ((m != 0)) true (by simpa using E) (kF 7 [2,0] λa8 c2 V c1=>?_);have c:=hW.trans (if_neg o);rw[c,(Em c E).1,(Em c E).2];have R:=((btr (btr P Q) b9).trans V);exact qE2 4 5 101 2 (a 2) #[S3.v s30,iv 0] (iv m) λK=>⟨s30,rfl,DZ _,λh=>absurd rfl h,R⟩
  .refine kI ((m != 0)) false (by simpa using E) ?_;have F:m=0:=by simpa using E
   have p:Ad b:=by by_cases g:Ad b;exact g;rw[if_neg g,F]at k;cases k
   have c:CQ d s (Ad b) (Bo b)=0:=hW.trans ((if_neg o).trans F);rw[c,show Ft d s (Ad b) (Bo b)=d++AG (Bo b)from if_pos c,show Gc d s (Ad b) (Bo b)=s from if_pos c];refine kR 4 [2,2,1] λa9 c3 t=>Xo 33 (λw' e L=>∃ (y:S3),e=[(4,pt (a 2) 0),(5,iv 0)]/\L=[⟨(a 0),.cells #[S3.v x,iv s] 101,.z,false⟩,⟨(a 1),.cells #[iv b.r,iv b.n] 88,.z,false⟩,⟨(a 2),.cells #[S3.v y,iv s] 101,.l,false⟩,⟨(a5 0),.cells #[iv r,iv n,S3.v ya] 91,.l,false⟩]/\Sl w' y.v (d++AG (Bo b))/\Nb w.heap.size y (d++AG (Bo b))/\Bw w w') ?_ ?_
   .intro J hJ;refine U8 0 2 ?_ ?_
    .refine kR 1 [0] λb0 c4 W=>kC 2 (Y8 p) ?_;rintro _ c5 ⟨a6,rfl,G,u⟩;refine⟨_,rfl,u,?_⟩;have f:=(btr (btr (btr (btr (btr P Q) b9) t) W) u);refine kC 3 (TL s (h.ab f) G (by rw[show(Bo b).length=9 from rfl];decide) (by rw[show(Bo b).length=9 from rfl];omega) (hT.ab f)) ?_;rintro _ c6 ⟨a3,rfl,N,I,A⟩;refine⟨_,rfl,A,?_⟩;refine kF 5 [8,10,13,2,0,14] λb5 c7 X a1=>?_;have S:=((btr f A).trans X);exact kB [true,true,true,true] λz K=>hJ _ _ z _ ⟨a3,rfl,rfl,(N.kept a1),I.mono f.size,S⟩ K
    .refine kC 2 (Y8 p) ?_;rintro _ c8 ⟨a7,rfl,H,B⟩;refine⟨_,rfl,B,?_⟩;refine kR 1 [1,0] λb7 c9 C=>?_;have i:=(btr (btr (btr (btr (btr P Q) b9) t) B) C);refine kC 3 (TL s (h.ab i) (H.ab C) (by rw[show(Bo b).length=9 from rfl];decide) (by rw[show(Bo b).length=9 from rfl];omega) (hT.ab i)) ?_;rintro _ d0 ⟨a4,rfl,O,M,D⟩;refine⟨_,rfl,D,?_⟩;refine kF 5 [8,10,13,2,0,14] λc0 d1 Z a2=>?_;have T:=((btr i D).trans Z);exact kB [true,true,true,true] λz K=>hJ _ _ z _ ⟨a4,rfl,rfl,(O.kept a2),M.mono i.size,T⟩ K
   .rintro w13 _ z13 _ ⟨y,rfl,rfl,hy,hn,hb⟩;exact qE2 4 5 101 2 (a 2) #[S3.v y,iv s] (iv 0) λK=>⟨y,rfl,hy,hn,hb⟩
theorem Qp(h:Sl w x.v d)(hT:Ax w)(hN:NTab w) :
  Calls prog 128 #[.agg #[x.v,iv s],.agg #[iv v.au,iv v.b.r,iv v.b.n,iv v.w.k,iv v.w.c,iv v.w.s,iv v.w.n,iv v.w.v]] w λe w'=>∃ y:S3,e=.returned (.tuple #[.agg #[y.v,iv (Gc d s (Ak v) (Bd v))],iv (CQ d s (Ak v) (Bd v))])/\Sl w' y.v (Ft d s (Ak v) (Bd v))/\Nb w.heap.size y (Ft d s (Ak v) (Bd v))/\Bw w w':=by
 obtain⟨p,D⟩:∃ p,Hc d s 38=p:=⟨_,rfl⟩;obtain⟨u,t⟩:∃ u:Int,(if Ak v then 0 else 2)=u:=⟨_,rfl⟩;have hW:CQ d s (Ak v) (Bd v)=if p≠0 then p else u:=by rw[<- D,<- t];rfl
 refine kIn func128 (kR 11 [0,0,0,0,1,0,0] λa w1 b1=>kC 1 ((D▸G8 x.v d s 38 (by decide) _ (h.ab b1))) ?_);rintro _ w2 ⟨rfl,b2⟩;refine⟨_,rfl,b2,?_⟩;refine kR 7 [] λd9 w3 b3=>?_;by_cases A:p≠0
 .refine kI ((p != 0)) true (by simpa using A) (kF 7 [2,0] λe0 w4 b4 q4=>?_);have i:=hW.trans (if_pos A);rw[i,(Em i A).1,(Em i A).2];have B5:=((btr (btr b1 b2) b3).trans b4);exact qE2 4 5 101 2 (a 2) #[S3.v s30,iv 0] (iv p) λK=>⟨s30,rfl,DZ _,λh=>absurd rfl h,B5⟩
 .refine kI ((p != 0)) false (by simpa using A) ?_;have a4:p=0:=by simpa using A
  have hd:=Yo (D.trans a4);refine kR 6 [1] λe1 w6 b6=>?_;have Z:=(btr (btr (btr b1 b2) b3) b6);refine kC 2 (dS (hN.ab Z) t) ?_;rintro _ w8 ⟨r,n,ya,rfl,b8⟩;refine⟨_,rfl,b8,?_⟩;refine kR 12 [1,0,3,0] λa9 w9 b9=>?_;by_cases N:u≠0
  .refine kI ((u != 0)) true (by simpa using N) (kF 7 [2,0] λb7 c7 a0 c6=>?_);have i:=hW.trans (if_neg A);rw[i,(Em i N).1,(Em i N).2];have W:=((btr (btr Z b8) b9).trans a0);exact qE2 4 5 101 2 (a 2) #[S3.v s30,iv 0] (iv u) λK=>⟨s30,rfl,DZ _,λh=>absurd rfl h,W⟩
  .refine kI ((u != 0)) false (by simpa using N) ?_;have O:u=0:=by simpa using N
   have f:Ak v:=by by_cases g:Ak v;exact g;rw[if_neg g,O]at t;cases t
   refine kR 5 [1] λc0 c8 a1=>?_;have B:=(btr (btr (btr Z b8) b9) a1);refine kC 2 (WG (m:=v.w) (hN.ab B) f.2.2) ?_;rintro _ c9 ⟨yc,rfl,V,C⟩;refine⟨_,rfl,C,?_⟩;refine kR 18 [3,2,1,4] λc1 d0 q=>?_;have i:CQ d s (Ak v) (Bd v)=0:=hW.trans ((if_neg A).trans O);rw[i,show Ft d s (Ak v) (Bd v)=d++AG (Bd v)from if_pos i,show Gc d s (Ak v) (Bd v)=s from if_pos i];refine Xo 44 (λw' e L=>∃ (y:S3),e=[(4,pt (a 2) 0),(5,iv 0)]/\L=[⟨(a 0),.cells #[S3.v x,iv s] 101,.z,false⟩,⟨(a 1),.cells #[iv v.au,iv v.b.r,iv v.b.n,iv v.w.k,iv v.w.c,iv v.w.s,iv v.w.n,iv v.w.v] 148,.z,false⟩,⟨(a 2),.cells #[S3.v y,iv s] 101,.l,false⟩,⟨(a9 0),.cells #[iv r,iv n,S3.v ya] 91,.l,false⟩]/\Sl w' y.v (d++AG (Bd v))/\Nb w.heap.size y (d++AG (Bd v))/\Bw w w') ?_ ?_
   .intro J hJ;refine U8 0 3 ?_ ?_
    .refine kR 1 [0] λc2 d1 E=>kC 3 (YH f ((V.ab q).ab E)) ?_;rintro _ d2 ⟨b0,rfl,P,F⟩;refine⟨_,rfl,F,?_⟩;have j:=(btr (btr (btr (btr B C) q) E) F);refine kC 4 (TL s (h.ab j) P (by rw[show(Bd v).length=33 from rfl];decide) (by rw[show(Bd v).length=33 from rfl];omega) (hT.ab j)) ?_;rintro _ d3 ⟨a7,rfl,T,R,G⟩;refine⟨_,rfl,G,?_⟩;refine kF 5 [10,12,15,2,0,16] λc3 d4 a2 a5=>?_;have X:=((btr j G).trans a2);exact kB [true,true,true,true] λz K=>hJ _ _ z _ ⟨a7,rfl,rfl,(T.kept a5),R.mono j.size,X⟩ K
    .refine kC 3 (YH f (V.ab q)) ?_;rintro _ d5 ⟨b5,rfl,Q,H⟩;refine⟨_,rfl,H,?_⟩;refine kR 1 [1,0] λc4 d6 I=>?_;have o:=(btr (btr (btr (btr B C) q) H) I);refine kC 4 (TL s (h.ab o) (Q.ab I) (by rw[show(Bd v).length=33 from rfl];decide) (by rw[show(Bd v).length=33 from rfl];omega) (hT.ab o)) ?_;rintro _ d7 ⟨a8,rfl,U,S,M⟩;refine⟨_,rfl,M,?_⟩;refine kF 5 [10,12,15,2,0,16] λc5 d8 a3 a6=>?_;have Y:=((btr o M).trans a3);exact kB [true,true,true,true] λz K=>hJ _ _ z _ ⟨a8,rfl,rfl,(U.kept a6),S.mono o.size,Y⟩ K
   .rintro w17 _ z17 _ ⟨y,rfl,rfl,hy,hn,hb⟩;exact qE2 4 5 101 2 (a 2) #[S3.v y,iv s] (iv 0) λK=>⟨y,rfl,hy,hn,hb⟩
theorem Fb(h:NS i nb ob g w p ls ts){w0:World}(hB:Base w0 g w)(hT:Tabs w0)(b:Bal) :
  Calls prog 58 #[pt nb 0,.agg #[iv b.r,iv b.n]] w λe w'=>∃ (y:S3) (g':Gh),e=.returned (.tuple #[y.v,iv (p.av b).2.2])/\FSv g' w' y (p.av b).2.1/\NS i nb ob g' w' (p.av b).1 ls ts/\Cg w.heap.size (TN i) g w g' w':=by
 obtain⟨x,lt,tl,k,U,hg⟩:=h;have hA:p.vo=⟨p.vo.p,p.vo.vs⟩:=rfl;refine gI (fn:=f58) (TN i) g func58 hg (qN k (qO U (qR [] 14 [0,0,15,0,2,4,6,8,0,10,2] λs1 g1 w1 c1=>BV 55 (λg' w' e L=>∃ (ys zs:S3) (bA:Nat),e=[(0,pt nb 0),(3,pt (s1 0) 0),(6,pt bA 0),(7,S3.v zs),(8,iv (Cl p.vo b))]/\L=[⟨nb,.cells (AB i ob p x) 103,.n 0 i,false⟩,⟨ob,.cells #[S3.v lt,S3.v tl] 80,.n 50 0,false⟩,⟨(s1 0),.cells #[iv b.r,iv b.n] 88,.z,false⟩,⟨bA,.cells #[iv (ED p.vo b).r,iv (ED p.vo b).n,S3.v ys] 91,.l,false⟩]/\FSv g' w' ys (Du p.vo b)/\FSv g' w' zs (Du p.vo b)/\Cg w.heap.size [] g w g' w') (by kernel_rfl) ?_ ?_)))
 .intro J hJ;refine CU 6 11 (by kernel_rfl) ?_ ?_
  .refine Ae λc8=>?_;have V:=(k.ln.ch c1).s;have d1:=hB.ch c1;have b0:∀ z,w1.heap.size<=z->g1.t z=.z:=λz Z=>(c8.new z Z).1;refine qC 6 (CN p.vo.p _ p.vo.vs b w1 V (d1.tn hT)) ?_;rintro e' w5 ⟨y5,z5,rfl,d3,d5,b5⟩;refine⟨_,rfl,b5,?_⟩;have c5:=Cg.bu (B:=w.heap.size) (T:=[]) (g:=g1) b5;obtain⟨e3,rfl,e7,c0⟩:=D6 d3 b0 (jG (CD _ _) V.len);obtain⟨e5,rfl,e9,c3⟩:=D6 d5 b0 (jG (CD _ _) V.len);refine qR [] 9 [14,16,18,20,23,1,0,25,3,0,26,28] λs6 g6 w6 c6=>qB [true,true,true,true] λz K0 K=>hJ _ _ _ z _ ⟨e3,e5,(s6 0),rfl,rfl,(c0.ch c6),(c3.ch c6),((c1.trans c5).trans c6)⟩ K
  .refine qR [] 1 [1,0] λs7 g7 w7 c7=>Ae λd0=>?_;have W:=(k.ln.ch (c1.trans c7)).s;have d2:=hB.ch (c1.trans c7);have b1:∀ z,w7.heap.size<=z->g7.t z=.z:=λz Z=>(d0.new z Z).1;refine qC 6 (CN p.vo.p _ p.vo.vs b w7 W (d2.tn hT)) ?_;rintro e' w9 ⟨y9,z9,rfl,d4,d6,b9⟩;refine⟨_,rfl,b9,?_⟩;have c9:=Cg.bu (B:=w.heap.size) (T:=[]) (g:=g7) b9;obtain⟨e4,rfl,e8,c2⟩:=D6 d4 b1 (jG (CD _ _) W.len);obtain⟨e6,rfl,f0,c4⟩:=D6 d6 b1 (jG (CD _ _) W.len);refine qR [] 8 [14,16,18,20,25,3,0,26,28] λg3 f1 h7 Q=>qB [true,true,true,true] λz K0 K=>hJ _ _ _ z _ ⟨e4,e6,(s7 0),rfl,rfl,(c2.ch Q),(c4.ch Q),(((c1.trans c7).trans c9).trans Q)⟩ K
 .rintro g2 w2 _ z2 _ ⟨ys,zs,bA,rfl,rfl,hys,hzs,hc⟩;refine qR [] 6 [] λg4 f2 h8 c=>?_;by_cases h1:Cl p.vo b≠0
  .refine qI (((Cl p.vo b) != 0)) true (by simpa using h1) (qR [] 6 [] λg5 f3 h9 a4=>qE (.tuple #[S3.v s30,iv (Cl p.vo b)]) λK=>?_);rw[show p.av b=(p,[],(Cl p.vo b))from if_pos h1];exact⟨s30,_,rfl,⟨Sv.nil _,λh=>absurd rfl h⟩,(nsC k U ((hc.n c).n a4) K),(((hc.nil (TN i)).n c).n a4)⟩
  .refine qI (((Cl p.vo b) != 0)) false (by simpa using h1) ?_;have H:Cl p.vo b=0:=by simpa using h1
   obtain⟨e1,e2⟩:=fF H;rw[e2]at hys hzs
   refine qR [] 11 [8,0,2,2,4,6,8,10,12,0] λg8 f4 i0 j=>?_;by_cases h2:b=p.vo.p
   .refine qT 7 (.bool false) (λ_=>(Ij (x:=(.tmp 25)) (y:=(.tmp 31)) b p.vo.p h2)) (qR [.n 0 i] 18 [3,0,1] λg9 f5 i1 E=>qE (.tuple #[S3.v zs,iv 0]) λK=>?_);rw[show p.av b=({ p with vo:=⟨b,p.vo.vs⟩ },p.vo.vs,0)from by unfold Nod.av;rw[if_neg (by simpa using H),if_pos h2]];have o:=(((hc.nil ([.n 0 i]:List Tg)).n c).n j).trans (E);have D:Tg.z∉([.n 0 i]:List Tg):=by simp
    obtain⟨q1,q2,q3⟩:=K.oH 0 nb (.cells (AB i ob { p with vo:=⟨ED p.vo b,p.vo.vs⟩ } { x with ln:=ys }) 103) 0 i (by kernel_rfl);rw[e1]at q1
    obtain⟨q4,q5,q6⟩:=K.oH 1 ob (.cells #[S3.v lt,S3.v tl] 80) 50 0 (by kernel_rfl);exact⟨zs,_,rfl,(((hzs.ch c).ch j).ch E),⟨{ x with ln:=ys },lt,tl,⟨q1,q2,q3,k.tape.ch o D,(((hys.ch c).ch j).ch E),Bl k.al o D,BP k.bn o D (by simp),k.dW.ch o,k.ae.ch o,k.an.ch o,k.bw.ch o,k.oO⟩,⟨q4,q5,q6,D5 U.bt o D (by simp),U.cF.ch o⟩,K.new⟩,((((hc.nil (TN i)).n c).n j).trans (E.mono (by simp[TN])))⟩
   .refine qT 7 (.bool true) (λ_=>(Ik (x:=(.tmp 25)) (y:=(.tmp 31)) b p.vo.p h2)) (qR [] 9 [12,0,2,4,6,0,8,2] λh0 a6 d9 m=>BV 55 (λg' w' e L=>∃ (tz:S3) (bT:Nat),e=[(0,pt nb 0),(6,pt bA 0),(7,S3.v zs),(9,pt bT 0),(10,iv (CQ p.d p.sy (Ad b) (Bo b)))]/\L=[⟨nb,.cells (AB i ob p x) 103,.n 0 i,false⟩,⟨ob,.cells #[S3.v lt,S3.v tl] 80,.n 50 0,false⟩,⟨(s1 0),.cells #[iv b.r,iv b.n] 88,.z,false⟩,⟨bA,.cells #[iv (ED p.vo b).r,iv (ED p.vo b).n,S3.v ys] 91,.l,false⟩,⟨bT,.cells #[S3.v tz,iv (Gc p.d p.sy (Ad b) (Bo b))] 101,.l,false⟩]/\FSl g' w' tz (Ft p.d p.sy (Ad b) (Bo b))/\FSv g' w' ys p.vo.vs/\FSv g' w' zs p.vo.vs/\Cg w.heap.size [] g w g' w') (by kernel_rfl) ?_ ?_)
    .intro J hJ;refine CU 5 9 (by kernel_rfl) ?_ ?_
     .refine Ae λa0=>?_;have b2:=(k.tape.ch (((hc.trans c).trans j).trans m) (by simp)).s;have I:=hB.ch (((hc.trans c).trans j).trans m) (by simp);have a8:∀ z,d9.heap.size<=z->a6.t z=.z:=λz Z=>(a0.new z Z).1;refine qC 5 (J8 (s:=p.sy) (b:=b) b2 (I.tt hT) (I.tn hT)) ?_;rintro e' i2 ⟨N,rfl,b7,b4,a2⟩;refine⟨_,rfl,a2,?_⟩;have R:=Cg.bu (B:=w.heap.size) (T:=[]) (g:=a6) a2;have X:FSl _ _ N _:=⟨b7,λhl a ha=>a8 _ (b4 hl a ha)⟩;refine qR [] 7 [12,14,16,19,1,0,21,4,0,22] λd7 f6 i3 F=>qB [true,true,true,true,true] λz K0 K=>hJ _ _ _ z _ ⟨N,(d7 0),rfl,rfl,(X.ch F),(((((hys.ch c).ch j).ch m).ch R).ch F),(((((hzs.ch c).ch j).ch m).ch R).ch F),(((((hc.trans c).trans j).trans m).trans R).trans F)⟩ K
     .refine qR [] 1 [1,0] λd8 a7 e0 A=>Ae λa1=>?_;have b3:=(k.tape.ch ((((hc.trans c).trans j).trans m).trans A) (by simp)).s;have M:=hB.ch ((((hc.trans c).trans j).trans m).trans A) (by simp);have a9:∀ z,e0.heap.size<=z->a7.t z=.z:=λz Z=>(a1.new z Z).1;refine qC 5 (J8 (s:=p.sy) (b:=b) b3 (M.tt hT) (M.tn hT)) ?_;rintro e' i4 ⟨O,rfl,b8,b6,a3⟩;refine⟨_,rfl,a3,?_⟩;have S:=Cg.bu (B:=w.heap.size) (T:=[]) (g:=a7) a3;have Y:FSl _ _ O _:=⟨b8,λhl a ha=>a9 _ (b6 hl a ha)⟩;refine qR [] 6 [12,14,16,21,4,0,22] λh4 f7 i5 G=>qB [true,true,true,true,true] λz K0 K=>hJ _ _ _ z _ ⟨O,(d8 0),rfl,rfl,(Y.ch G),((((((hys.ch c).ch j).ch m).ch A).ch S).ch G),((((((hzs.ch c).ch j).ch m).ch A).ch S).ch G),((((((hc.trans c).trans j).trans m).trans A).trans S).trans G)⟩ K
    .rintro g18 w18 _ z18 _ ⟨tz,bT,rfl,rfl,htz,hys,hzs,hc⟩;refine qR [] 6 [] λh5 f8 i6 u=>?_;by_cases h3:CQ p.d p.sy (Ad b) (Bo b)≠0
     .refine qI (((CQ p.d p.sy (Ad b) (Bo b)) != 0)) true (by simpa using h3) (qR [] 6 [] λh6 f9 i7 a5=>qE (.tuple #[S3.v s30,iv (CQ p.d p.sy (Ad b) (Bo b))]) λK=>?_);rw[show p.av b=(p,[],(CQ p.d p.sy (Ad b) (Bo b)))from by unfold Nod.av;rw[if_neg (by simpa using H),if_neg h2,if_pos h3]];exact⟨s30,_,rfl,⟨Sv.nil _,λh=>absurd rfl h⟩,(nsC k U ((hc.n u).n a5) K),(((hc.nil (TN i)).n u).n a5)⟩
     .refine qI (((CQ p.d p.sy (Ad b) (Bo b)) != 0)) false (by simpa using h3) (qR [.n 0 i] 23 [4,0,1,3,0,1] λs30 g0 i8 C=>qE (.tuple #[S3.v zs,iv 0]) λK=>?_);rw[show p.av b=({ p with d:=Ft p.d p.sy (Ad b) (Bo b),sy:=Gc p.d p.sy (Ad b) (Bo b),vo:=⟨b,p.vo.vs⟩ },p.vo.vs,0)from by unfold Nod.av;rw[if_neg (by simpa using H),if_neg h2,if_neg h3]];have q:=((hc.nil ([.n 0 i]:List Tg)).n u).trans (C);have P:Tg.z∉([.n 0 i]:List Tg):=by simp
      obtain⟨q1,q2,q3⟩:=K.oH 0 nb (.cells (AB i ob { p with d:=Ft p.d p.sy (Ad b) (Bo b),sy:=Gc p.d p.sy (Ad b) (Bo b),vo:=⟨ED p.vo b,p.vo.vs⟩ } { x with ln:=ys,tape:=tz }) 103) 0 i (by kernel_rfl);rw[e1]at q1
      obtain⟨q4,q5,q6⟩:=K.oH 1 ob (.cells #[S3.v lt,S3.v tl] 80) 50 0 (by kernel_rfl);exact⟨zs,_,rfl,((hzs.ch u).ch C),⟨{ x with ln:=ys,tape:=tz },lt,tl,⟨q1,q2,q3,((htz.ch u).ch C),((hys.ch u).ch C),Bl k.al q P,BP k.bn q P (by simp),k.dW.ch q,k.ae.ch q,k.an.ch q,k.bw.ch q,k.oO⟩,⟨q4,q5,q6,D5 U.bt q P (by simp),U.cF.ch q⟩,K.new⟩,(((hc.nil (TN i)).n u).trans (C.mono (by simp[TN])))⟩
def R0(l:List Vt)(v:Vt):Int:=if v∈l then((l.findIdx λu=>decide (u=v)):Int)else -1
theorem Xh(l:List Vt)(v:Vt):decide (0<=R0 l v)=decide (v∈l):=by
 unfold R0;by_cases a:v∈l
 .rw[if_pos a,I' a];exact I' (by omega)
 .rw[if_neg a,D' a];rfl
theorem aJ{j:Nat}(h:l[j]?=some v)(a:∀ i,i<j->l[i]?≠some v):R0 l v=(j:Int):=by
 have d:v∈l:=jJ h;obtain⟨c,e⟩:=U'.1 h;unfold R0;rw[if_pos d]
 congr 1
 rw[List.findIdx_eq c];exact⟨by simp[e],λi b=>by have:=a i b;rw[E' (by omega)]at this;simpa using this⟩
theorem R2(h:Sv w x.v l)(hb:l.length<100000000)(v:Vt) :
  Calls prog 155 #[x.v,.agg #[iv v.au,iv v.b.r,iv v.b.n,iv v.w.k,iv v.w.c,iv v.w.s,iv v.w.n,iv v.w.v]] w λe w'=>e=.returned (iv (R0 l v))/\Bw w w':=by
 have hn:x.n=l.length:=by obtain⟨a,P,H⟩:=h.shape;simp only[Value.slice.injEq]at H;exact H.2.1
 refine gI (fn:=f155) [] gh0 func155 (λ_ _=>⟨rfl,rfl⟩) (qR [] 13 [0,0] λA g1 w1 c1=>BL 19 [(0,S3.v x),(3,pt (A 0) 0),(7,iv (x.n:Int)),(8,iv 0)] [true] [⟨(A 0),.cells #[iv v.au,iv v.b.r,iv v.b.n,iv v.w.k,iv v.w.c,iv v.w.s,iv v.w.n,iv v.w.v] 148,.z,false⟩] (λk Q w' e L=>∃ j:Nat,k=l.length-j/\j<=l.length/\e=[(0,S3.v x),(3,pt (A 0) 0),(7,iv (x.n:Int)),(8,iv (j:Int))]/\L=[⟨(A 0),.cells #[iv v.au,iv v.b.r,iv v.b.n,iv v.w.k,iv v.w.c,iv v.w.s,iv v.w.n,iv v.w.v] 148,.z,false⟩]/\(∀ i,i<j->l[i]?≠some v)/\Cg w.heap.size [] gh0 w Q w') (by kernel_rfl) (by kernel_rfl) (by kernel_rfl) (by kernel_rfl) l.length (λK=>?_) ?_)
 .exact⟨0,rfl,by omega,rfl,rfl,λi o=>absurd o (by omega),c1⟩
 .rintro k gr wr _ zr _ ⟨j,rfl,hj,rfl,rfl,hI,hC⟩ J hJ;refine qR [] 5 [] λs2 g2 w2 q=>?_;by_cases S:j<l.length
  .refine qI ((decide ((j:Int)<(x.n:Int)))) true (I' (by omega)) ?_;obtain⟨d,m⟩:∃ d,l[j]?=some d:=⟨_,E' S⟩;obtain⟨bx,I,F,D,g⟩:=h.spot j d m;refine qR [] 13 [6,0,0,2,4] λs3 g3 w3 C=>qT 3 (pt bx (I+8*j)) (λ_=>(Tw F j (by omega))) ?_;have U:=Cg.ab (hC.trans (q.trans C)) (λ_ _=>N');refine qV 4 (.agg #[iv d.au,iv d.b.r,iv d.b.n,iv d.w.k,iv d.w.c,iv d.w.s,iv d.w.n,iv d.w.v]) (bO d λi u W=>(U.cell (p:=⟨bx,I+8*j+i,none⟩) D).trans (g i u W)) (qT 5 (.bool (decide (v=d))) (λ_=>(i9 (x:=(.tmp 11)) (y:=(.tmp 15)) v d)) (qR [] 1 [] λs6 g6 w6 G=>?_));by_cases t:v=d
   .refine qI (decide (v=d)) true (I' t) (qR [] 5 [] λs7 g7 w7 M=>qE (iv (j:Int)) λK=>⟨by rw[aJ (by rw[t];exact m) hI],Cg.ab (hC.trans (((q.trans C).trans G).trans M)) (λ_ _=>N')⟩)
   .refine qI (decide (v=d)) false (D' t) (qR [] 3 [] λs8 g8 w8 N=>qV 0 (iv ((j:Int)+1)) (AR 8 (j:Int) underlying3 (by omega)) (qR [] 2 [] λs9 g9 w9 O=>qB [true] λz Z K=>hJ (l.length-(j+1)) _ _ _ z _ (by omega) ⟨j+1,rfl,by omega,rfl,rfl,λi o=>?_,hC.trans ((((q.trans C).trans G).trans N).trans O)⟩ K));rcases kt i j with h4|h4
    .exact hI i h4
    .rw[show i=j by omega,m];intro T;exact t (by simpa using T.symm)
  .refine qI ((decide ((j:Int)<(x.n:Int)))) false (D' (by omega)) (qR [] 5 [] λX R Y B=>?_);have E:v∉l:=λV=>by obtain⟨i,o⟩:=kS.1 V;exact hI i (by have:=(U'.1 o).1;omega) o
   exact qE (iv (-1)) λK=>⟨by unfold R0;rw[if_neg E],Cg.ab (hC.trans (q.trans B)) (λ_ _=>N')⟩
theorem Mo(h:Sv w x.v l)(o:l.length<100000000)(v:Vt) :
  Calls prog 127 #[x.v,.agg #[iv v.au,iv v.b.r,iv v.b.n,iv v.w.k,iv v.w.c,iv v.w.s,iv v.w.n,iv v.w.v]] w λe w'=>e=.returned (.bool (decide (v∈l)))/\Bw w w':=by
 refine gI (fn:=f127) [] gh0 func127 (λ_ _=>⟨rfl,rfl⟩) (qR [] 9 [0,0,0] λt m u c1=>?_);have a:=Cg.ab c1 (λ_ _=>N');refine qC 2 (R2 (h.ab a) o v) ?_;rintro p y ⟨rfl,d⟩;refine⟨_,rfl,d,?_⟩;have i:=Cg.bu (B:=w.heap.size) (T:=[]) (g:=m) d;refine qR [] 3 [] λs3 q z j=>qE (.bool (decide (0<=R0 l v))) λK=>⟨by rw[Xh],Cg.ab ((c1.trans i).trans j) (λ_ _=>N')⟩
theorem Nj(h:NS i nb ob g w p ls ts){w0:World}(hB:Base w0 g w)(Z:Tabs w0)(v:Vt)(hb:p.vo.vs.length<100000000) :
  Calls prog 93 #[pt nb 0,.agg #[iv v.au,iv v.b.r,iv v.b.n,iv v.w.k,iv v.w.c,iv v.w.s,iv v.w.n,iv v.w.v]] w (NP i nb ob g w (iv (p.bN v).2) (p.bN v).1 ls ts):=by
 obtain⟨x,lt,tl,u,U,hg⟩:=h;refine gI (fn:=f93) (TN i) g func93 hg (qN u (qO U (qR [] 13 [0,0,13,0,2,4,6,8,0,10,2] λs1 g1 w1 c1=>BV 52 (λY w' e L=>∃ (ys:S3) (bA:Nat),e=[(0,pt nb 0),(3,pt (s1 0) 0),(5,pt bA 0),(6,iv (AV p.vo v))]/\L=[⟨nb,.cells (AB i ob p x) 103,.n 0 i,false⟩,⟨ob,.cells #[S3.v lt,S3.v tl] 80,.n 50 0,false⟩,⟨(s1 0),.cells #[iv v.au,iv v.b.r,iv v.b.n,iv v.w.k,iv v.w.c,iv v.w.s,iv v.w.n,iv v.w.v] 148,.z,false⟩,⟨bA,.cells #[iv (BG p.vo v).r,iv (BG p.vo v).n,S3.v ys] 91,.l,false⟩]/\FSv Y w' ys (Bu p.vo v)/\Cg w.heap.size [] g w Y w') (by kernel_rfl) ?_ ?_)))
 .intro J hJ;refine CU 6 10 (by kernel_rfl) ?_ ?_
  .refine Ae λc8=>?_;have d7:=(u.ln.ch c1).s;have d2:=hB.ch c1;have d4:∀ z,w1.heap.size<=z->g1.t z=.z:=λz X=>(c8.new z X).1;refine qC 6 (BY p.vo.p _ p.vo.vs v w1 d7 (d2.tn Z)) ?_;rintro e' w5 ⟨y5,rfl,d9,g3,b5⟩;refine⟨_,rfl,b5,?_⟩;have c5:=Cg.bu (B:=w.heap.size) (T:=[]) (g:=g1) b5;obtain⟨e7,rfl,e9,c3⟩:=D6 d9 d4 (by omega);refine qR [] 7 [14,16,18,21,1,0,23,3,0,24] λs6 g6 w6 c6=>qB [true,true,true,true] λz K0 K=>hJ _ _ _ z _ ⟨e7,(s6 0),rfl,rfl,(c3.ch c6),((c1.trans c5).trans c6)⟩ K
  .refine qR [] 1 [1,0] λs7 g7 w7 c7=>Ae λd0=>?_;have d8:=(u.ln.ch (c1.trans c7)).s;have d3:=hB.ch (c1.trans c7);have d5:∀ z,w7.heap.size<=z->g7.t z=.z:=λz X=>(d0.new z X).1;refine qC 6 (BY p.vo.p _ p.vo.vs v w7 d8 (d3.tn Z)) ?_;rintro e' w9 ⟨y9,rfl,e0,g4,b9⟩;refine⟨_,rfl,b9,?_⟩;have c9:=Cg.bu (B:=w.heap.size) (T:=[]) (g:=g7) b9;obtain⟨e8,rfl,f0,c4⟩:=D6 e0 d5 (by omega);refine qR [] 6 [14,16,18,23,3,0,24] λg5 f1 i0 a5=>qB [true,true,true,true] λz K0 K=>hJ _ _ _ z _ ⟨e8,(s7 0),rfl,rfl,(c4.ch a5),(((c1.trans c7).trans c9).trans a5)⟩ K
 .rintro g2 w2 _ z2 _ ⟨ys,bA,rfl,rfl,hys,hc⟩;refine qR [] 6 [] λg8 f2 i1 j=>?_;by_cases h1:AV p.vo v≠0
  .refine qI (((AV p.vo v) != 0)) true (by simpa using h1) (qR [] 5 [] λg9 f3 i2 a6=>qE (iv (AV p.vo v)) λK=>?_);rw[show p.bN v=(p,(AV p.vo v))from if_pos h1];exact⟨_,rfl,(nsC u U ((hc.n j).n a6) K),(((hc.nil (TN i)).n j).n a6)⟩
  .refine qI (((AV p.vo v) != 0)) false (by simpa using h1) ?_;have H:AV p.vo v=0:=by simpa using h1
   obtain⟨e1,e2⟩:=DS H;rw[e2]at hys
   refine qR [] 11 [9,0,2,4,6,8,10,0,12,2] λh0 d1 i3 m=>?_;have d6:=(u.ln.ch ((hc.trans j).trans m) (by simp)).s;refine qC 7 (Mo d6 hb v) ?_;rintro e' i4 ⟨rfl,a2⟩;refine⟨_,rfl,a2,?_⟩;have o:=Cg.bu (B:=w.heap.size) (T:=[]) (g:=d1) a2;refine qR [] 2 [16] λh4 f4 i5 q=>?_;by_cases h2:v∈p.vo.vs
   .refine qI ((!(decide (v∈p.vo.vs)))) false (by simpa using h2) (qR [.n 0 i] 14 [3,0,1] λh5 f5 i6 Q=>qE (iv 0) λK=>?_);rw[show p.bN v=({ p with vo:=⟨v.b,Ba p.vo.vs v⟩ },0)from by unfold Nod.bN;rw[if_neg (by simpa using H),if_pos h2]];have y:=(((((hc.nil ([.n 0 i]:List Tg)).n j).n m).n o).n q).trans (Q);have E:Tg.z∉([.n 0 i]:List Tg):=by simp
    obtain⟨q1,q2,q3⟩:=K.oH 0 nb (.cells (AB i ob { p with vo:=⟨BG p.vo v,Ba p.vo.vs v⟩ } { x with ln:=ys }) 103) 0 i (by kernel_rfl);rw[e1]at q1
    obtain⟨q4,q5,q6⟩:=K.oH 1 ob (.cells #[S3.v lt,S3.v tl] 80) 50 0 (by kernel_rfl);exact⟨_,rfl,⟨{ x with ln:=ys },lt,tl,⟨q1,q2,q3,u.tape.ch y E,(((((hys.ch j).ch m).ch o).ch q).ch Q),Bl u.al y E,BP u.bn y E (by simp),u.dW.ch y,u.ae.ch y,u.an.ch y,u.bw.ch y,u.oO⟩,⟨q4,q5,q6,D5 U.bt y E (by simp),U.cF.ch y⟩,K.new⟩,((((((hc.nil (TN i)).n j).n m).n o).n q).trans (Q.mono (by simp[TN])))⟩
   .refine qI ((!(decide (v∈p.vo.vs)))) true (by simpa using h2) (qR [] 7 [12,0,2,4,6,0,8,2] λh6 b0 e5 C=>BV 52 (λY w' e L=>∃ (tz:S3) (bT:Nat),e=[(0,pt nb 0),(5,pt bA 0),(7,pt bT 0),(8,iv (CQ p.d p.sy (Ak v) (Bd v)))]/\L=[⟨nb,.cells (AB i ob p x) 103,.n 0 i,false⟩,⟨ob,.cells #[S3.v lt,S3.v tl] 80,.n 50 0,false⟩,⟨(s1 0),.cells #[iv v.au,iv v.b.r,iv v.b.n,iv v.w.k,iv v.w.c,iv v.w.s,iv v.w.n,iv v.w.v] 148,.z,false⟩,⟨bA,.cells #[iv (BG p.vo v).r,iv (BG p.vo v).n,S3.v ys] 91,.l,false⟩,⟨bT,.cells #[S3.v tz,iv (Gc p.d p.sy (Ak v) (Bd v))] 101,.l,false⟩]/\FSl Y w' tz (Ft p.d p.sy (Ak v) (Bd v))/\FSv Y w' ys (Ba p.vo.vs v)/\Cg w.heap.size [] g w Y w') (by kernel_rfl) ?_ ?_)
    .intro J hJ;refine CU 5 9 (by kernel_rfl) ?_ ?_
     .refine Ae λa0=>?_;have b4:=(u.tape.ch (((((hc.trans j).trans m).trans o).trans q).trans C) (by simp)).s;have I:=hB.ch (((((hc.trans j).trans m).trans o).trans q).trans C) (by simp);have b2:∀ z,e5.heap.size<=z->b0.t z=.z:=λz X=>(a0.new z X).1;refine qC 5 (Qp (s:=p.sy) (v:=v) b4 (I.tt Z) (I.tn Z)) ?_;rintro e' i7 ⟨N,rfl,c0,b7,a3⟩;refine⟨_,rfl,a3,?_⟩;have a7:=Cg.bu (B:=w.heap.size) (T:=[]) (g:=b0) a3;have V:FSl _ _ N _:=⟨c0,λhl a ha=>b2 _ (b7 hl a ha)⟩;refine qR [] 7 [12,14,16,19,1,0,21,4,0,22] λe3 f6 i8 R=>qB [true,true,true,true,true] λz K0 K=>hJ _ _ _ z _ ⟨N,(e3 0),rfl,rfl,(V.ch R),(((((((hys.ch j).ch m).ch o).ch q).ch C).ch a7).ch R),(((((((hc.trans j).trans m).trans o).trans q).trans C).trans a7).trans R)⟩ K
     .refine qR [] 1 [1,0] λe4 b1 e6 F=>Ae λa1=>?_;have b6:=(u.tape.ch ((((((hc.trans j).trans m).trans o).trans q).trans C).trans F) (by simp)).s;have M:=hB.ch ((((((hc.trans j).trans m).trans o).trans q).trans C).trans F) (by simp);have b3:∀ z,e6.heap.size<=z->b1.t z=.z:=λz X=>(a1.new z X).1;refine qC 5 (Qp (s:=p.sy) (v:=v) b6 (M.tt Z) (M.tn Z)) ?_;rintro e' i9 ⟨O,rfl,c2,b8,a4⟩;refine⟨_,rfl,a4,?_⟩;have a8:=Cg.bu (B:=w.heap.size) (T:=[]) (g:=b1) a4;have W:FSl _ _ O _:=⟨c2,λhl a ha=>b3 _ (b8 hl a ha)⟩;refine qR [] 6 [12,14,16,21,4,0,22] λh7 f7 j0 S=>qB [true,true,true,true,true] λz K0 K=>hJ _ _ _ z _ ⟨O,(e4 0),rfl,rfl,(W.ch S),((((((((hys.ch j).ch m).ch o).ch q).ch C).ch F).ch a8).ch S),((((((((hc.trans j).trans m).trans o).trans q).trans C).trans F).trans a8).trans S)⟩ K
    .rintro g20 w20 _ z20 _ ⟨tz,bT,rfl,rfl,htz,hys,hc⟩;refine qR [] 6 [] λh8 f8 j1 D=>?_;by_cases h3:CQ p.d p.sy (Ak v) (Bd v)≠0
     .refine qI (((CQ p.d p.sy (Ak v) (Bd v)) != 0)) true (by simpa using h3) (qR [] 5 [] λs30 f9 j2 a9=>qE (iv (CQ p.d p.sy (Ak v) (Bd v))) λK=>?_);rw[show p.bN v=(p,(CQ p.d p.sy (Ak v) (Bd v)))from by unfold Nod.bN;rw[if_neg (by simpa using H),if_neg h2,if_pos h3]];exact⟨_,rfl,(nsC u U ((hc.n D).n a9) K),(((hc.nil (TN i)).n D).n a9)⟩
     .refine qI (((CQ p.d p.sy (Ak v) (Bd v)) != 0)) false (by simpa using h3) (qR [.n 0 i] 21 [4,0,1,3,0,1] λh9 g0 j3 G=>qE (iv 0) λK=>?_);rw[show p.bN v=({ p with d:=Ft p.d p.sy (Ak v) (Bd v),sy:=Gc p.d p.sy (Ak v) (Bd v),vo:=⟨v.b,Ba p.vo.vs v⟩ },0)from by unfold Nod.bN;rw[if_neg (by simpa using H),if_neg h2,if_neg h3]];have A:=((hc.nil ([.n 0 i]:List Tg)).n D).trans (G);have P:Tg.z∉([.n 0 i]:List Tg):=by simp
      obtain⟨q1,q2,q3⟩:=K.oH 0 nb (.cells (AB i ob { p with d:=Ft p.d p.sy (Ak v) (Bd v),sy:=Gc p.d p.sy (Ak v) (Bd v),vo:=⟨BG p.vo v,Ba p.vo.vs v⟩ } { x with ln:=ys,tape:=tz }) 103) 0 i (by kernel_rfl);rw[e1]at q1
      obtain⟨q4,q5,q6⟩:=K.oH 1 ob (.cells #[S3.v lt,S3.v tl] 80) 50 0 (by kernel_rfl);exact⟨_,rfl,⟨{ x with ln:=ys,tape:=tz },lt,tl,⟨q1,q2,q3,((htz.ch D).ch G),((hys.ch D).ch G),Bl u.al A P,BP u.bn A P (by simp),u.dW.ch A,u.ae.ch A,u.an.ch A,u.bw.ch A,u.oO⟩,⟨q4,q5,q6,D5 U.bt A P (by simp),U.cF.ch A⟩,K.new⟩,(((hc.nil (TN i)).n D).trans (G.mono (by simp[TN])))⟩
theorem Lv(h:(p.av b).2.2≠0):(p.av b).1=p:=by
 unfold Nod.av at h ⊢;split
 .rfl
 .rename_i h1
  rw[if_neg h1]at h
  split
  .rename_i h2;rw[if_pos h2]at h;exact absurd rfl h
  .rename_i h2
   rw[if_neg h2]at h
   split
   .rfl
   .rename_i h3;rw[if_neg h3]at h;exact absurd rfl h
theorem TE(h:(p.bN v).2≠0):(p.bN v).1=p:=by
 unfold Nod.bN at h ⊢;split
 .rfl
 .rename_i h1
  rw[if_neg h1]at h
  split
  .rename_i h2;rw[if_pos h2]at h;exact absurd rfl h
  .rename_i h2
   rw[if_neg h2]at h
   split
   .rfl
   .rename_i h3;rw[if_neg h3]at h;exact absurd rfl h
theorem If(p:Nod)(b:Bal):(p.av b).1.bn=p.bn:=by
 unfold Nod.av
 repeat' split
 all_goals rfl
theorem NG(p:Nod)(v:Vt):(p.bN v).1.bn=p.bn:=by
 unfold Nod.bN
 repeat' split
 all_goals rfl
theorem Ix(h:NS i nb ob g w p ls ts){w0:World}(hB:Base w0 g w)(hT:Tabs w0)(o:Nat)(l:Let)(hl:Cx g w o l)(hk:l.kind=0)(hb:p.bn.length<100000000) :
  Calls prog 47 #[pt nb 0,pt o 0] w (NP i nb ob g w (.tuple #[]) (p.take l) ls ts):=by
 obtain⟨x,lt,tl,V,W,hg⟩:=h;refine gI (fn:=f47) (TN i) g func47 hg (qN V (qO W ?_));have U:=hl;obtain⟨vs,wh,F,b5,b6⟩:=hl;refine BU ⟨o,.cells (EX l vs wh) 150,.z,false⟩ (λ_=>⟨F.r,F.z,λh=>(by cases h),λh=>absurd rfl h⟩) (by kernel_rfl) ?_;refine qR [] 12 [0,0,0,0,5,0,3,2,4,4,6,8,2] λd g1 w1 c1=>BV 27 (λR Z e L=>∃ (yv:S3) (b4:Nat),e=[(2,pt (d 0) 0),(3,pt (d 1) 0),(4,pt b4 0),(5,iv (p.av l.fv).2.2)]/\L=[⟨o,.cells (EX l vs wh) 150,.z,false⟩,⟨(d 0),.cells #[pt nb 0] 83,.z,false⟩,⟨(d 1),.cells #[pt o 0] 151,.z,false⟩,⟨b4,.cells #[S3.v yv] 89,.l,false⟩]/\FSv R Z yv (p.av l.fv).2.1/\NS i nb ob R Z (p.av l.fv).1 ls ts/\Cg w.heap.size (TN i) g w R Z) (by kernel_rfl) ?_ ?_
 .intro J hJ;refine CU 5 9 (by kernel_rfl) ?_ ?_
  .refine Ae λK=>?_;have N4:NS i nb ob g1 w1 p ls ts:=(nsC V W c1 K);refine qG 5 (TN i) [false,false,true,true,true] (Fb N4 (hB.ch (c1.nil (TN i)) (Bg i)) hT l.fv) ?_;rintro e' w4 ⟨y4,g4,rfl,X,M4,G⟩;refine⟨_,g4,rfl,G,M4.new,?_⟩;replace G:=G.ret (B:=w.heap.size);refine qR [] 7 [12,14,16,19,1,0,21,3,0,22] λs6 g6 w6 P=>qB [true,true,true,true] λz I K=>hJ _ _ _ z _ ⟨y4,(s6 0),rfl,rfl,(X.ch P),NS.nW M4 P I.new,(((c1.nil (TN i)).trans (G)).n P)⟩ K
  .refine qR [] 1 [1,0] λs7 g7 w7 Q=>Ae λK=>?_;have N8:NS i nb ob g7 w7 p ls ts:=(nsC V W (c1.n Q) K);refine qG 5 (TN i) [false,false,true,true,true,true] (Fb N8 (hB.ch ((c1.nil (TN i)).n Q) (Bg i)) hT l.fv) ?_;rintro e' w8 ⟨y8,g8,rfl,Y,M8,H⟩;refine⟨_,g8,rfl,H,M8.new,?_⟩;replace H:=H.ret (B:=w.heap.size);refine qR [] 6 [12,14,16,21,3,0,22] λb8 a6 d0 j=>qB [true,true,true,true] λz I K=>hJ _ _ _ z _ ⟨y8,(s7 0),rfl,rfl,(Y.ch j),NS.nW M8 j I.new,((((c1.nil (TN i)).n Q).trans (H)).n j)⟩ K
 .rintro g2 w2 _ z2 _ ⟨yv,b4,rfl,rfl,hyv,hM,hc⟩;obtain⟨x1,b7,c9,k,m,b3⟩:=hM;refine qN k (qO m (ii 3 b4 (by kernel_rfl) λa7 a=>qR [] 6 [] λb9 a8 d1 b=>?_));by_cases y:(p.av l.fv).2.2≠0
  .refine qI (((p.av l.fv).2.2 != 0)) true (by simpa using y) (qR [] 8 [6,0,1,2,2,4,6,8,0,10] λc0 S a0 s=>?_);have hp:=Lv y;rw[show p.take l=p.fa l.src (p.av l.fv).2.2 from by unfold Nod.take;rw[hk];exact if_pos y];refine Ae λK=>?_;have q:NS i nb ob S a0 ((p.av l.fv).1) ls ts:=(nsC k m ((a.n b).n s) K);rw[hp]at q
   refine qS0 6 [true,true,true,true,false,false] (L8 q hb l.src (p.av l.fv).2.2) λa9 d2 d6 a2 a4 A D N=>qR [] 1 [] λc2 b0 d3 t=>qF A D t ((((((hc).n a).n b).n s).trans (N)).n t)
  .refine qI (((p.av l.fv).2.2 != 0)) false (by simpa using y) (qR [] 4 [1] λc3 T a1 c=>?_);rw[show p.take l=(p.av l.fv).1.wait (.prom l.src l.fv (p.av l.fv).2.1)from by unfold Nod.take;rw[hk];exact if_neg y];refine Ae λK=>?_;obtain⟨z1,z2⟩:=K.oG 1 (d 0) (.cells #[pt nb 0] 83) false (by kernel_rfl);obtain⟨z3,z4⟩:=K.oG 2 (d 1) (.cells #[pt o 0] 151) false (by kernel_rfl);obtain⟨z5,z6⟩:=K.oG 3 b4 (.cells #[S3.v yv] 89) false (by kernel_rfl);have M:NS i nb ob T a1 ((p.av l.fv).1) ls ts:=(nsC k m ((a.n b).n c) K);refine qS0 2 [true,true,true,true,false,false] (AK M (by rw[If];exact hb) _ _ (.prom l.src l.fv (p.av l.fv).2.1) ⟨(d 0),(d 1),b4,yv,o,l,rfl,⟨z1,z2⟩,⟨z3,z4⟩,⟨z5,z6⟩,(((hyv.ch a).ch b).ch c),U.ch ((((hc).n a).n b).n c) (Bg i),rfl,rfl⟩) λb1 d4 d7 a3 a5 C E O=>qR [] 1 [] λc5 b2 d5 u=>qF C E u ((((((hc).n a).n b).n c).trans (O)).n u)
theorem Jd(h:NS i nb ob g w p ls ts){Q:World}(W:Base Q g w)(X:Tabs Q)(q:Nat)(l:Let)(N:Cx g w q l)(M:l.kind=3)(L:p.bn.length<100000000)(D:p.vo.vs.length<100000000) :
  Calls prog 50 #[pt nb 0,pt q 0] w (NP i nb ob g w (.tuple #[]) (p.take l) ls ts):=by
 obtain⟨x,lt,tl,I,J,Y⟩:=h;refine gI (fn:=f50) (TN i) g func50 Y (qN I (qO J ?_));have A:=N;obtain⟨vs,wh,o,Z,a0⟩:=N;refine BU ⟨q,.cells (EX l vs wh) 150,.z,false⟩ (λ_=>⟨o.r,o.z,λh=>(by cases h),λh=>absurd rfl h⟩) (by kernel_rfl) ?_;refine qR [] 13 [0,0,0,0,5,0,3,2,4,4,6,8,2] λs g1 w1 c1=>qS 5 [false,false,true,true,true] I J c1 (λR=>Nj R (W.ch (c1.nil (TN i)) (Bg i)) X l.bN D) λg2 w2 x2 a1 a5 j m v=>qR [] 7 [12] λs4 g4 w4 c=>?_;by_cases d:(p.bN l.bN).2≠0
 .refine qI (((p.bN l.bN).2 != 0)) true (by simpa using d) (qR [] 8 [6,0,1,2,2,4,6,8,0,10] λs5 V w5 G=>?_);have hp:=TE d;rw[show p.take l=p.fa l.src (p.bN l.bN).2 from by unfold Nod.take;rw[M];exact if_pos d];refine Ae λK=>?_;have F:NS i nb ob V w5 ((p.bN l.bN).1) ls ts:=(nsC j m (c.n G) K);rw[hp]at F
  refine qS0 6 [true,true,true,false,false] (L8 F L l.src (p.bN l.bN).2) λg6 w6 x6 a2 a6 B C S=>qR [] 1 [] λs8 g8 w8 H=>qF B C H ((((((c1.nil (TN i)).trans (v)).n c).n G).trans (S)).n H)
 .refine qI (((p.bN l.bN).2 != 0)) false (by simpa using d) (qR [] 4 [1] λa3 y E a=>?_);rw[show p.take l=(p.bN l.bN).1.wait (.voted l.src l.bN)from by unfold Nod.take;rw[M];exact if_neg d];refine Ae λK=>?_;obtain⟨z1,z2⟩:=K.oG 1 (s 0) (.cells #[pt nb 0] 83) false (by kernel_rfl);obtain⟨z3,z4⟩:=K.oG 2 (s 1) (.cells #[pt q 0] 151) false (by kernel_rfl);have t:NS i nb ob y E ((p.bN l.bN).1) ls ts:=(nsC j m (c.n a) K);refine qS0 2 [true,true,true,false,false] (AK t (by rw[NG];exact L) _ _ (.voted l.src l.bN) ⟨(s 0),(s 1),q,l,rfl,⟨z1,z2⟩,⟨z3,z4⟩,A.ch ((((c1.nil (TN i)).trans (v)).n c).n a) (Bg i),rfl,rfl⟩) λT a7 a9 O P e k u=>qR [] 1 [] λa4 U a8 b=>qF e k b ((((((c1.nil (TN i)).trans (v)).n c).n a).trans (u)).n b)
theorem OB(h:NS i nb ob g w p ls ts)(c:Nat)(l:Let)(E:Cx g w c l)(D:l.kind=5)(N:p.bn.length<100000000)(v:p.ae.length<100000000)(y:l.ed.length<100000000) :
  Calls prog 52 #[pt nb 0,pt c 0] w (NP i nb ob g w (.tuple #[]) (p.take l) ls ts):=by
 obtain⟨x,lt,tl,d,s,O⟩:=h;refine gI (fn:=f52) (TN i) g func52 O (qN d (qO s ?_));have m:=E;have hn:=d.ae.num;obtain⟨U,F,b,P,A⟩:=E;refine BU ⟨c,.cells (EX l U F) 150,.z,false⟩ (λ_=>⟨b.r,b.z,λh=>(by cases h),λh=>absurd rfl h⟩) (by kernel_rfl) ?_;refine qR [] 20 [0,0,0,0,11,0,4,2,4,6,2,8,3,10,12,14,16,0,18,20] λe g1 w1 c1=>?_;by_cases C:p.ae.length<l.au
 .refine qI ((decide ((x.ae.n:Int)<(l.au:Int)))) true (I' (by omega)) (qR [] 4 [3] λs2 M W j=>?_);rw[show p.take l=p.wait (.askNews l.src)from by unfold Nod.take;rw[D];exact if_pos C];refine Ae λK=>?_;obtain⟨X,Y⟩:=K.oG 3 (e 0) (.cells #[pt nb 0] 83) false (by kernel_rfl);obtain⟨Z,z4⟩:=K.oG 4 (e 1) (.cells #[pt c 0] 151) false (by kernel_rfl);have G:NS i nb ob M W p ls ts:=(nsC d s (c1.n j) K);refine qS0 2 [false,false,true,true,true] (AK G N _ _ (.askNews l.src) ⟨(e 0),(e 1),c,l,rfl,⟨X,Y⟩,⟨Z,z4⟩,m.ch ((c1.nil (TN i)).n j) (Bg i),rfl⟩) λg3 w3 x3 Q S o t I=>qR [] 1 [] λs5 g5 w5 B=>qF o t B ((((c1.nil (TN i)).n j).trans (I)).n B)
 .refine qI ((decide ((x.ae.n:Int)<(l.au:Int)))) false (D' (by omega)) (qR [] 11 [9,0,3,2,4,4,6,8,2,10,4,12,14,16,2] λs7 g7 w7 k=>?_);rw[show p.take l=p.gC l.au l.ed from by unfold Nod.take;rw[D];exact if_neg C];refine qS 9 [false,false,true,true,true] d s (c1.n k) (λH=>Ng H l.au l.ed F (A.ch ((c1.nil (TN i)).n k) (Bg i)) (by omega) v y) λg8 w8 x8 lt8 T q u J=>qR [] 1 [] λR L V a=>qF q u a ((((c1.nil (TN i)).n k).trans (J)).n a)
end
end Go.Proofs.YthohlalejhgbmaaGreatDoor
