/- Part 7 of the walk. -/
import Derived.Test.YtdjfdfpkkenjbacGreatDoorZ6
set_option maxRecDepth 100000
set_option maxHeartbeats 4000000
open Go.Proofs.Tryz
set_option linter.unusedVariables false
namespace Go.Proofs.YtdjfdfpkkenjbacGreatDoor
section
def pick(n many:Int):Int:=if n<0 then(-(n+1))%many else n%many
theorem CA(n a:Int)(b:0<a):0<=pick n a/\pick n a<a:=by
 unfold pick;split
 .exact⟨qo _ (by omega),pS _ b⟩
 .exact⟨qo _ (by omega),pS _ b⟩
def wK(a:Int):Int:=1+pick a 5/2
def wV(a e:Int):Int:=if wK a=1 then pick e 1000 else 0
theorem R9(a:Int):1<=wK a/\wK a<=3:=by
 have:=CA a 5 (by omega);unfold wK;omega
theorem bz(a e:Int):0<=wV a e/\wV a e<=1000:=by
 have:=CA e 1000 (by omega);unfold wV;split<;>omega
theorem fg(a d e:Int)(b c:Int)(i:0<=b/\b<=7)(j:0<=c/\c<=1048576):Bh (wK a) b c (pick d 4) (wV a e)=0:=by
 have f:=R9 a;have g:=CA d 4 (by omega);have h:=bz a e;refine Uh f (by unfold InC;omega) ?_;unfold wV;split
 .exact .inl (by assumption)
 .exact .inr rfl
def acN(k:Int)(n:Int):Lac:=⟨k,n,0,0,[]⟩
def Ax:List Lac:=(List.range 5).map λn:Nat=>acN 9 (n:Int)
def An:List Lac:=(List.range 5).map (λn:Nat=>acN 3 (n:Int))++[acN 7 0]
def Am:Nat->List Lac
 | 0=>[]
 | m+1=>Am m++An
def Dr(m:Nat):List Lac:=Ax++Am m
def hvy(x:Lac):Bool:=decide (x.k=1\/x.k=2\/x.k=6\/x.k=8)
def Fo(l:List Lac):Nat:=100+20*(l.filter hvy).length
def Cx(m:Nat)(i:Int):List Lac:=Dr 0++[acN 2 i]++Dr m
def D6(l:List Lac)(i:Int):List Lac:=Cx (Fo l) i++Cx (Fo l) i
end
section
open Go.RowKit
theorem btr{w c d:World}(a:Bw w c)(b:Bw c d):Bw w d:=a.trans (b.mono a.size)
def lB(L:List Sh):List Nat:=L.filterMap λx=>match x.t with|.l=>some x.g|_=>none
def gK(L:List Sh):Gh:=⟨λb=>if(lB L).elem b then .l else .z,λ_=>0⟩
def zl(L:List Sh):Bool:=L.all λx=>match x.t with|.n _ _=>false|_=>true
theorem LH{L:List Sh}{b:Nat}:b∈lB L↔∃ x∈L,x.t=.l/\x.g=b:=by
 unfold lB;rw[List.mem_filterMap];constructor
 .rintro⟨x,hx,h⟩;cases ht:x.t<;>rw[ht]at h<;>simp at h;exact⟨x,hx,ht,h⟩
 .rintro⟨x,hx,ht,rfl⟩;exact⟨x,hx,by rw[ht]⟩
section
variable{P:Program}{fn:Func}{R:Ending->World->Prop}{B:Nat}{T:List Tg}{g:Gh}{w:World}
section
variable{L L':List Sh}{f:FuncId}{s:Xs}{w':World}
theorem Kn.re(h:Kn B g w L)(q:zl L=true):Kn B (gK L) w L:=by
 refine⟨λx d=>?_,h.rH,λb s=>⟨?_,rfl⟩,h.base⟩
 .have h1:=h.row x d;refine⟨h1.1,?_,h1.2.2.1,λ_=>rfl⟩;show(if(lB L).elem x.g then Tg.l else Tg.z)=x.t;cases ht:x.t with
  | l=>rw[if_pos (by rw[oV];exact P' (LH.2 ⟨x,d,ht,rfl⟩))]
  | n r i=>have:=nD.1 q x d;rw[ht]at this;cases this
  | z =>
   rw[if_neg];rw[oV];intro f;obtain⟨y,m,c,a⟩:=LH.1 (mN f);have k:x≠y:=λe=>by rw[e,c]at ht;cases ht
   have:(x.g=y.g->(x.t=.z/\x.w=false)/\y.t=.z/\y.w=false)\/(y.g=x.g->(y.t=.z/\y.w=false)/\x.t=.z/\x.w=false):=by
    obtain⟨i,o,rfl⟩:=oE d;obtain⟨j,p,rfl⟩:=oE m;rcases py i j with h1|h1|h1
    .exact .inl (m8.1 h.rH i j o p h1)
    .subst h1;exact absurd rfl k
    .exact .inr (m8.1 h.rH j i p o h1)
   rcases this with h2|h2
   .have:=(h2 a.symm).2.1;rw[c]at this;cases this
   .have:=(h2 a).1.1;rw[c]at this;cases this
 .show(if(lB L).elem b then Tg.l else Tg.z)=.z;rw[if_neg];rw[oV];intro f;obtain⟨y,m,_,a⟩:=LH.1 (mN f);have:=(U'.1 (h.row y m).1).1;omega
def GK(P:Program)(fn:Func)(R:Ending->World->Prop)(B:Nat)(s:Xs)(w:World):Prop:=GG P fn R B [] s (gK s.L) w
theorem kIn{a:Array Value}(d:P.funcs[f]?=some fn)(h:GK P fn R w.heap.size ⟨[.c (PS fn)],⟨fn.ntmps,ON 0 a.toList,λ_=>undef⟩,[]⟩ w)(b:fn.body.isSome=true:=by kernel_rfl)(e:Nat.ble a.size fn.ntmps=true:=by kernel_rfl):Calls P f a w R:=gIn [] (gK []) d b e (λ_ _=>⟨rfl,rfl⟩) h
theorem cN{d:Gh}(c:Cg B [] (gK s.L) w d w')(j:Kn B g w s.L)(a:Kn B d w' L')(p:(L'.take s.L.length).map (λx=>(x.g,x.o))=s.L.map (λx=>(x.g,x.o))):Bw w w':=by
 refine⟨c.os,c.tape,c.output,c.size,λb k=>?_⟩;by_cases e:b∈lB s.L
 .obtain⟨x,hx,_,rfl⟩:=LH.1 e;have f:(x.g,x.o)∈(L'.take s.L.length).map (λx=>(x.g,x.o)):=by rw[p];exact mB.2 ⟨x,hx,rfl⟩
  obtain⟨y,q,m⟩:=mB.1 f;injection m with e1 e2
  have i:=(a.row y (mx q)).1;rw[<- e1,i,e2,e1];exact(j.row x hx).1.symm
 .refine c.same b k O' (λh=>?_);have:(if(lB s.L).elem b then Tg.l else Tg.z)=.l:=h;rw[if_neg (by rw[oV];simpa using e)]at this
  cases this
theorem kR(m:Nat)(h:List Nat)(e:∀ gs w',Bw w w'->GK P fn R B (rn0 P [] gs m s h).s w')(b:∀ gs,(rn0 P [] gs m s h).o.map Ob.l'=(rn0 P [] gs m s h).o.map Ob.r':=by intro _;kernel_rfl)(i:∀ gs,zl (rn0 P [] gs m s h).s.L=true:=by intro _;kernel_rfl)(f:∀ gs,((rn0 P [] gs m s h).s.L.take s.L.length).map (λx=>(x.g,x.o))=s.L.map (λx=>(x.g,x.o)):=by intro _;kernel_rfl):GK P fn R B s w :=
 Af λd=>cO [] m h b λgs j w' c=>⟨λa=>(e gs w' (cN c d a (f gs))).ex (a.re (i gs))⟩
structure Kept(L:List Sh)(w w':World):Prop where
 size:w.heap.size<=w'.heap.size
 rows:AZ L w
 same:∀ b,b<w.heap.size->b∉lB L->w'.heap[b]?=w.heap[b]?
theorem kF(m:Nat)(h:List Nat)(i:∀ gs w',Below B w w'->Kept s.L w w'->GK P fn R B (rn0 P [] gs m s h).s w')(e:∀ gs,(rn0 P [] gs m s h).o.map Ob.l'=(rn0 P [] gs m s h).o.map Ob.r':=by intro _;kernel_rfl)(k:∀ gs,zl (rn0 P [] gs m s h).s.L=true:=by intro _;kernel_rfl):GK P fn R B s w :=
 Af λg=>cO [] m h e λgs p w' c=>⟨λd=>(i gs w' ⟨c.os,c.tape,c.output,c.size,λb a=>c.same b (Z' a g.base) O' (λ_=>a)⟩ ⟨c.size,g.rows,λb a j=>c.same b a O' λh=>by
  have f:(if(lB s.L).elem b then Tg.l else Tg.z)=.l:=h;rw[if_neg (by rw[oV];simpa using j)]at f
  cases f⟩).ex (d.re (k gs))⟩
def noU(L:List Sh):Bool:=L.all λx=>match x.t,x.o with|.l,.cells c _ _=>c.all (λv=>match v with|.int .u8 _=>false|_=>true)|.l,_=>false|_,_=>true
theorem Sl.kept{x:Value}{l:List Int}(h:Sl w x l)(k:Kept L w w')(p:noU L=true:=by kernel_rfl):Sl w' x l:=by
 obtain⟨⟨a,g,B,v,A,j⟩,t,u⟩:=h;refine⟨⟨a,g,B,v,A,?_⟩,t,u⟩;rcases j with j|⟨b,off,ha,hbs,hcell⟩
 .exact .inl j
 .by_cases hl:l=[]
  .exact .inl hl
  .refine .inr ⟨b,off,ha,Z' hbs k.size,λi z=>?_⟩;have m:b∉lB L:=by
    intro m;obtain⟨y,s,q,rfl⟩:=LH.1 m;have r:=k.rows y s;have f:=nD.1 p y s;have n:0<l.length:=List.length_pos_iff.2 hl;have d:=hcell 0 n;rw[q]at f
    cases ho:y.o with
    | cells c e fr =>
     rw[ho]at f r
     rw[cell_of_row _ _ _ _ _ _ r]at d
     have:=Array.all_eq_true.1 f (off+0) (U'.1 d).1;rw[(U'.1 d).2]at this
     cases this
    | _=>rw[ho]at f;cases f
   rw[World.cell?_of_block (w:=w) (k.same b hbs m)];exact hcell i z
theorem fD(s:Xs)(i:Nat)(v:Value)(a:(nxt s i undef s.L).o.map Ob.l'=(nxt s i undef s.L).o.map Ob.r'):(nxt s i v s.L).s.L=s.L:=by
 obtain⟨K,f,L⟩:=s;unfold nxt;cases K with
 | nil=>rfl
 | cons t K=>cases t<;>first|rfl|(simp only;repeat' split)<;>rfl
theorem GK.of{a:Xs}(h:GK P fn R B a w)(e:a.L=s.L):GG P fn R B [] a (gK s.L) w:=by rw[<- e];exact h
theorem kV(i:Nat)(v:Value){S:Sem Value}(c:S.run P w=.ok v w)(b:GK P fn R B (nxt s i v s.L).s w)(d:D5 s i=some (S>>=λv=>pure (.value v)):=by kernel_rfl)(a:(nxt s i undef s.L).o.map Ob.l'=(nxt s i undef s.L).o.map Ob.r':=by kernel_rfl):GK P fn R B s w:=qV i v c (b.of (fD s i v a)) d a
theorem bZ(s:Xs)(t:Bool):(Ln s t).L=s.L:=by unfold Ln;split<;>rfl
theorem kI(b t:Bool)(a:b=t)(h:GK P fn R B (Ln s t) w)(c:Qe s=.bool b:=by kernel_rfl):GK P fn R B s w:=qI b t a (h.of (bZ s t)) c
theorem kC(i:Nat){f:FuncId}{b:Array Value}{C:Ending->World->Prop}(c:Calls P f b w C)(g:∀ e w',C e w'->∃ v,e=.returned v/\Bw w w'/\GK P fn R B (nxt s i v s.L).s w')(j:∀ W,Df P s i W=some (.ok (.enter f b) W):=by intro _;kernel_rfl)(d:Kz s i=true:=by kernel_rfl)(a:(nxt s i undef s.L).o.map Ob.l'=(nxt s i undef s.L).o.map Ob.r':=by kernel_rfl):GK P fn R B s w:=qC i c (λe w' h=>let ⟨v,h1,h2,h3⟩:=g e w' h;⟨v,h1,h2,h3.of (fD s i v a)⟩) j d a
theorem kE(v:Value)(h:R (.returned v) w)(a:Kn B (gK s.L) w s.L->(results fn s.f.act.tmps).run P w=.ok v w:=by intro _;kernel_rfl)(b:MZ s.K=true:=by kernel_rfl):GK P fn R B s w:=qE v (λ_=>h) a b
theorem jH(n:Nat)(a:World->List (Nat × Value)->List Sh->Prop)(d:∀ J:Act->World->Prop,(∀ w' e z L,a w' e L->Kn B (gK L) w' L->J (⟨n,e,z⟩:Fm).act w')->GK P fn R B (XM s J) w)(g:∀ w' e z L,a w' e L->GK P fn R B ⟨s.K.tail,⟨n,e,z⟩,L⟩ w')(j:s.K.isEmpty=false:=by kernel_rfl):GK P fn R B s w:=by
 refine Ct n (λc w' e L=>a w' e L/\c=gK L) j (λJ h=>?_) ?_
 .have:=d J λw' e z L b i=>h (gK L) w' e z L ⟨b,rfl⟩ i;exact this.of (by obtain⟨K,f,L⟩:=s;unfold XM;cases K<;>rfl)
 .rintro c w' e z L ⟨b,rfl⟩;exact g w' e z L b
theorem kB{J:Act->World->Prop}{n:Nat}{e:List (Nat × Value)}(m:List Bool){a:List Sh}(h:∀ z,Kn B (gK a) w a->J (⟨n,e,z⟩:Fm).act w)(g:isJ s.K=true:=by kernel_rfl)(b:jK s.K=J:=by kernel_rfl)(i:s.f.n=n:=by kernel_rfl)(d:e.map (λp=>lk s.f.z s.f.e p.1)=e.map (·.2):=by kernel_rfl)(c:BM (AI m s.L)=a:=by kernel_rfl)(j:zl a=true:=by kernel_rfl):GK P fn R B s w:=qB m (λz _ K=>h z (K.re j)) g b i d c
theorem jJ(i j:Nat)(a:GK P fn R B (JN s i) w)(b:GK P fn R B (JN s j) w)(c:eL s i j=true:=by kernel_rfl):GK P fn R B s w :=
 have e:∀ i,(JN s i).L=s.L:=λi=>by unfold JN;split<;>rfl
 Du i j c (a.of (e i)) (b.of (e j))
end
end
section
def TO:List Tg:=[.n 50 0,.n 51 0,.n 52 0]
variable{b born i j k n nb ob:Nat}{es:Array MapEntry}{g:Gh}{l:Let}{ls:List Let}{p:Nod}{ts:List Tol}{v:Vt}{w w':World}{x:S3}
theorem ZR{x:NX}{lt t:S3}(C:NodeAt g w i nb ob x p)(s:OutAt g w ob lt t ls ts)(D:Ji g w)(Q:ls.length<100000000)(l:Let)(m o:S3)(E:FSv g w m l.ic)(F:Rc g w o l.fm)(to:Nat) :
  Calls prog 111 #[pt nb 0,iv (to:Int),.agg (FF l m o)] w λe w'=>∃ g' lt',e=.returned (.tuple #[])/\OutAt g' w' ob lt' t (ls++[{ l with src:=i,dst:=to }]) ts/\Cg w.heap.size TO g w g' w'/\Ji g' w':=by
 obtain⟨B,u,j⟩:=s.bm;have k:lt.n=ls.length:=by have:=u.len;have:=j.len;simp at *;omega
 refine gI (fn:=f111) TO g func111 D (qN C (qO s (qR [] 29 [0,0,0,2,0,2,0,15,0,2,4,6,0,8,10,12,14,0,16,18,20,1,23,0,0] λd N S a=>K3 12 (x:=lt) 94 94 167 1 8 (.pointer none) ⟨(d 1),0,none⟩ 1 1 [pt (d 0) 0] (u.ch a) (by kernel_rfl) (by kernel_rfl) (by kernel_rfl) underlying94 (by kernel_rfl) (by kernel_rfl) (by decide) (by decide) rfl (by simp[Value.oneCell']) (λK=>Dx K 3 (d 1) [pt (d 0) 0] 167 .z true (by kernel_rfl)) (by rw[k];unfold maxLen;omega) (by rw[k];omega) ?_)));intro y O T A R q M;have h:=q w.heap.size [.n 51 0] (D'.2 rfl);refine qR [.n 50 0] 4 [26,28,31,1,1] λs3 P U b=>qE (.tuple #[]) λK=>?_;obtain⟨G,H,I⟩:=K.rm 1 ob (.cells #[S3.v y,S3.v t] 96) 50 0 (by kernel_rfl);obtain⟨J,L⟩:=K.rk 2 (d 0) (.cells (FF { l with src:=i,dst:=to } m o) 166) false (by kernel_rfl);have c:∀ r,Tg.z∉[Tg.n r 0]:=λr=>by simp
 refine⟨_,y,rfl,⟨G,H,I,⟨B++[(d 0)],?_,?_⟩,(((s.eb.ch a).ch h).ch b)⟩,(((a.nil TO).trans (h.mono (by simp[TO]))).trans (b.mono (by simp[TO]))),K.new⟩
 .rw[mK];exact A.ch b
 .refine(((j.ch a).ch h (c _)).ch b (c _)).snoc ⟨m,o,⟨J,L⟩,(((E.ch a).ch h (c _)).ch b (c _)),(((F.ch a).ch h (c _)).ch b (c _))⟩
theorem AU(h:NS i nb ob g w p ls ts)(L:p.br.length<100000000)(e:Fn)(d:Array Value)(q:Pend)(C:KX g w nb (.func e #[] d) q) :
  Calls prog 83 #[pt nb 0,.func e #[] d] w (NP i nb ob g w (.tuple #[]) (p.wait q) ls ts):=by
 obtain⟨x,lt,D,b,t,B⟩:=h;obtain⟨E,u,j⟩:=b.br;have v:x.synced.n=p.br.length:=by have:=u.len;have:=j.len;simp at *;omega
 refine gI (fn:=f83) (TN i) g func83 B (qN b (qO t (qR [] 9 [0,0,0] λy H N k=>K3 8 (x:=x.synced) 108 108 1 1 8 (.nilFunc) ⟨(y 0),0,none⟩ 1 1 [.func e #[] d] (u.ch k) (by kernel_rfl) (by kernel_rfl) (by kernel_rfl) underlying108 (by kernel_rfl) (by kernel_rfl) (by decide) (by decide) rfl (by simp[Value.oneCell']) (λK=>Dx K 2 (y 0) [.func e #[] d] 1 .z true (by kernel_rfl)) (by rw[v];unfold maxLen;omega) (by rw[v];omega) ?_)));intro F I O A M r G;have s:=r w.heap.size [.n 1 i] (D'.2 rfl);refine qR [.n 0 i] 5 [0,1] λs3 J P o=>qE (.tuple #[]) λK=>?_;have a:=((k.nil ([.n 1 i,.n 0 i]:List Tg)).m s).m o;have c:Tg.z∉([.n 1 i,.n 0 i]:List Tg):=by simp
 exact⟨_,rfl,⟨{ x with synced:=F },lt,D,K.nd 0 (b.tape.ch a c) (b.ic.ch a c) (BA b.al a c) ⟨E++[.func e #[] d],A.ch o,(j.ch a c).snoc (C.ch a c)⟩ (b.fa.ch a) (b.ae.ch a) (b.au.ch a) (b.bw.ch a) b.rF,t.ch a c (by simp<;>omega),K.new⟩,(((k.nil (TN i)).trans (s.mono (by simp[TN]))).trans (o.mono (by simp[TN])))⟩
theorem R2(h:NS i nb ob g w p ls ts)(I:ts.length<100000000)(c:Cmd)(b a:Int) :
  Calls prog 80 #[pt nb 0,.agg (cmC c),.agg #[iv b,iv a]] w (NP i nb ob g w (.tuple #[]) p ls (ts++[⟨i,c.c,c.s,b,a⟩])):=by
 obtain⟨x,lt,v,r,d,C⟩:=h;have t:v.n=ts.length:=by have B:=d.eb.len;rw[GF]at B;omega
 refine gI (fn:=f80) (TN i) g func80 C (qN r (qO d (qR [] 28 [0,0,0,0,25,0,2,4,6,0,8,10,12,14,0,16,18,20,1,22,24,26,28,0,30,32,2,34,36,2,38,3,40,43,0,0] λu F L e=>K3 22 (x:=v) 40 40 48 5 40 (.agg #[iv 0,iv 0,iv 0,iv 0,iv 0]) ⟨(u 2),0,none⟩ 1 1 [iv (i:Int),iv c.c,iv c.s,iv b,iv a] (d.eb.ch e) (by kernel_rfl) (by kernel_rfl) (by kernel_rfl) underlying40 (by kernel_rfl) (by kernel_rfl) (by decide) (by decide) rfl (by simp[Value.oneCell']) (λK=>Dx K 4 (u 2) [iv (i:Int),iv c.c,iv c.s,iv b,iv a] 48 .z true (by kernel_rfl)) (by rw[t];unfold maxLen;omega) (by rw[t];omega) ?_)));intro D G M A J k E;have q:=k w.heap.size [.n 52 0] (D'.2 rfl);refine qR [.n 50 0] 4 [46,48,51,1,1] λs3 H N j=>qE (.tuple #[]) λK=>?_;have o:=((e.nil ([.n 52 0,.n 50 0]:List Tg)).m q).m j;have y:Tg.z∉([.n 52 0,.n 50 0]:List Tg):=by simp
 exact⟨_,rfl,⟨x,lt,D,K.sr 0 r o,K.od 1 (En d.bm o y (by simp)) (by rw[List.flatMap_append];exact A.ch j),K.new⟩,(((e.nil (TN i)).trans (q.mono (by simp[TN]))).trans (j.mono (by simp[TN])))⟩
theorem KG(h:NS i nb ob g w p ls ts)(b:Nat)(l:Let)(o:CQ g w b l) :
  Calls prog 72 #[pt nb 0,pt b 0] w (NP i nb ob g w (.tuple #[]) { p with cF:=max p.cF l.fv.r } ls ts):=by
 obtain⟨x,lt,t,j,k,m⟩:=h;refine gI (fn:=f72) (TN i) g func72 m (qN j (qO k ?_));obtain⟨B,E,a,q,s⟩:=o;refine Cr ⟨b,_,.z,false⟩ (λ_=>⟨a.r,a.z,λh=>(by cases h),λh=>absurd rfl h⟩) (by kernel_rfl) ?_;refine qR [] 12 [15,0,2,4,6,8,10,0,12,14,16,18,20,2] λy u C d=>qT 11 (iv (max p.cF l.fv.r)) (λ_=>(km #[3,3] 3 p.cF l.fv.r)) (qR [.n 0 i] 5 [24,26,28,31,0,1] λA v D e=>qE (.tuple #[]) λK=>?_);have c:=(d.nil ([.n 0 i]:List Tg)).trans (e);exact⟨_,rfl,⟨x,lt,t,K.sr 0 j c,k.ch c (hn:=by simp<;>omega),K.new⟩,((d.nil (TN i)).trans (e.mono (by simp[TN])))⟩
theorem FS(h:NS i nb ob g w p ls ts)(o:ls.length<100000000)(l:Let)(b c:S3)(s:FSv g w b l.ic)(t:Rc g w c l.fm)(to:Nat) :
  Calls prog 111 #[pt nb 0,iv (to:Int),.agg (FF l b c)] w (NP i nb ob g w (.tuple #[]) p (ls++[{ l with src:=i,dst:=to }]) ts):=by
 obtain⟨x,lt,u,f,n,q⟩:=h;refine(ZR f n q o l b c s t to).mono ?_;rintro e y ⟨j,a,rfl,k,d,m⟩;exact⟨j,rfl,⟨x,a,u,f.ch d (by simp[TO]) (λr v=>by simp[TO];omega),k,m⟩,d.mono (by simp[TO,TN])⟩
def BV(i:Nat)(l:Let)(k:Nat):List Let:=((List.range k).filter λj=>decide (j≠i)).map λto=>{ l with src:=i,dst:=to }
theorem ZU(h:k≠i):BV i l (k+1)=BV i l k++[{ l with src:=i,dst:=k }]:=by unfold BV;rw[oq,nP,mK];simp[h]
theorem ZS(h:k=i):BV i l (k+1)=BV i l k:=by unfold BV;rw[oq,nP,mK];simp[h]
theorem ZT(i:Nat)(l:Let)(k:Nat):(BV i l k).length<=k:=by unfold BV;rw[mF];exact mg (oN _ _) (by simp)
theorem EE(h:NS i nb ob g w p ls ts)(hb:ls.length<90000000)(l:Let)(D E:S3)(hv:FSv g w D l.ic)(hw:Rc g w E l.fm) :
  Calls prog 86 #[pt nb 0,.agg (FF l D E)] w (NP i nb ob g w (.tuple #[]) p (ls++BV i l 5) ts):=by
 obtain⟨x,lt,tl,V,W,hg⟩:=h;refine gI (fn:=f86) (TN i) g func86 hg (qN V (qO W (qR [] 9 [0,0] λG g1 w1 Q=>Cc 19 [(0,pt nb 0),(3,pt (G 0) 0),(5,iv 0)] [false,false,true] [⟨(G 0),.cells #[iv (l.kind:Int),iv (l.src:Int),iv (l.dst:Int),iv l.fv.r,iv l.fv.n,iv l.bN.bn,iv l.bN.b.r,iv l.bN.b.n,iv l.bN.w.k,iv l.bN.w.c,iv l.bN.w.s,iv l.bN.w.n,iv l.bN.w.v,S3.v D,iv (l.bn:Int),S3.v E] 166,.z,false⟩] (λk T X e L=>∃ j:Nat,k=5-j/\j<=5/\e=[(0,pt nb 0),(3,pt (G 0) 0),(5,iv (j:Int))]/\L=[⟨(G 0),.cells #[iv (l.kind:Int),iv (l.src:Int),iv (l.dst:Int),iv l.fv.r,iv l.fv.n,iv l.bN.bn,iv l.bN.b.r,iv l.bN.b.n,iv l.bN.w.k,iv l.bN.w.c,iv l.bN.w.s,iv l.bN.w.n,iv l.bN.w.v,S3.v D,iv (l.bn:Int),S3.v E] 166,.z,false⟩]/\NS i nb ob T X p (ls++BV i l j) ts/\Cg w.heap.size (TN i) g w T X) (by kernel_rfl) (by kernel_rfl) (by kernel_rfl) (by kernel_rfl) 5 (λK=>?_) ?_)))
 .have C2:=Q;refine⟨0,rfl,by omega,rfl,rfl,?_,Q.nil _⟩;rw[show BV i l 0=[]from rfl,mI];exact(nsC V W C2 K)
 .rintro k gr wr _ zr _ ⟨j,rfl,hj,rfl,rfl,hM,hC⟩ J hJ;have hs:=ZT i l j;obtain⟨xr,a4,a9,a,d,a2⟩:=hM;refine qN a (qO d (qR [] 5 [] λs3 g3 w3 m=>?_));by_cases h1:j<5
  .refine qI (decide ((j:Int)<5)) true (P' (by omega)) (qR [] 17 [1] λs4 g4 w4 y=>?_);by_cases U:(j:Int)≠(i:Int)
   .refine qI (((j:Int) != (i:Int))) true (by simpa using U) (qR [] 4 [0] λs5 g5 w5 M=>?_);have P:=(((hC.n m).n y).n M);refine Af λK=>?_;have Y:NS i nb ob g5 w5 p (ls++BV i l j) ts:=(nsC a d ((m.n y).n M) K);refine qG 3 (TN i) [true,false,false] (FS Y (by simp;omega) l D E (hv.ch P (Bx i)) (hw.ch P (Bx i)) j) ?_;rintro e' w6 ⟨g6,rfl,I,F⟩;refine⟨_,g6,rfl,F,I.new,?_⟩;replace F:=F.ret (B:=w.heap.size);rw[mm,<- ZU (by omega)]at I
    obtain⟨x6,a3,a8,A,C,a1⟩:=I;refine qN A (qO C (qR [] 3 [] λs8 g8 w8 R=>qV 0 (iv ((j:Int)+1)) (Bj 5 (j:Int) underlying3 (by omega)) (qR [] 2 [] λs9 g9 w9 S=>qB [true,false,false] λz H K=>hJ (5-(j+1)) _ _ _ z _ (by omega) ⟨j+1,rfl,by omega,rfl,rfl,?_,((((((hC.n m).n y).n M).trans F).n R).n S)⟩ K)));have o:NS i nb ob g9 w9 p (ls++BV i l (j+1)) ts:=(nsC A C (R.n S) H);exact o
   .refine qI (((j:Int) != (i:Int))) false (by simpa using U) (qR [] 3 [] λa5 Z b0 q=>qV 0 (iv ((j:Int)+1)) (Bj 5 (j:Int) underlying3 (by omega)) (qR [] 2 [] λa6 N O t=>qB [true,false,false] λz H K=>hJ (5-(j+1)) _ _ _ z _ (by omega) ⟨j+1,rfl,by omega,rfl,rfl,?_,((((hC.n m).n y).n q).n t)⟩ K));have o:NS i nb ob N O p (ls++BV i l j) ts:=(nsC a d (((m.n y).n q).n t) H);exact(by simpa[ZS (show j=i by omega)]using o)
  .refine qI (decide ((j:Int)<5)) false (G' (by omega)) (qR [] 1 [] λa7 a0 b1 u=>?_);obtain rfl:j=5:=by omega
   exact qF a d (m.n u) ((hC.n m).n u)
theorem Od(h:NS i nb ob g w p ls ts) :
  Calls prog 113 #[pt nb 0] w λe w'=>e=.returned (.bool p.leads)/\Bw w w':=by
 obtain⟨x,lt,z,k,l,m⟩:=h;refine gI (fn:=f113) (TN i) g func113 m (qN k (qO l (qR [] 13 [24,0,2,4,6,8,10,0,12] λs n A b=>?_)));by_cases a:p.av.fv=Be
 .refine qT 7 (.bool false) (λ_=>(IL (x:=(.tmp 8)) (y:=(.tmp 9)) p.av.fv Be a)) (qR [] 17 [16,18,20,22,24,26,28,30,32,34,36,38,40,42,44,46] λt o B c=>qE (.bool false) λK=>⟨(by rw[show p.leads=false from G' (λh=>h.1 a)]),Cg.af (b.trans c) (λ_ _=>O')⟩)
 .refine qT 7 (.bool true) (λ_=>(IM (x:=(.tmp 8)) (y:=(.tmp 9)) p.av.fv Be a)) (qR [] 13 [16,18,20,22,24,26,28,0,30,32,34,36,38,40,0] λu q C d=>qT 21 (.bool (decide (p.av.fv=p.vo.p))) (λ_=>(lK (x:=(.tmp 17)) (y:=(.tmp 23)) p.av.fv p.vo.p)) (qR [] 3 [44,46] λv r D j=>qE (.bool (decide (p.av.fv=p.vo.p))) λK=>⟨(by rw[show p.leads=decide (p.av.fv=p.vo.p)from nf.2 ⟨λh=>h.2,λh=>⟨a,h⟩⟩]),Cg.af ((b.trans d).trans j) (λ_ _=>O')⟩))
theorem Me(h:NS i nb ob g w p ls ts)(v:p.br.length<100000000)(to:Nat)(e:Int) :
  Calls prog 109 #[pt nb 0,iv (to:Int),iv e] w (NP i nb ob g w (.tuple #[]) (p.ew to e) ls ts):=by
 obtain⟨x,lt,N,d,k,y⟩:=h;refine gI (fn:=f109) (TN i) g func109 y (qN d (qO k (qR [] 11 [0,0,0,0] λc I O a=>?_)));by_cases b:e=7
 .refine qI (e != 7) false (by simpa using b) (qR [] 15 [2,0,0,0,4,0,2] λq u B m=>Af λK=>?_);obtain⟨C,D⟩:=K.rk 2 (c 0) (.cells #[pt nb 0] 99) false (by kernel_rfl);obtain⟨E,F⟩:=K.rk 3 (c 1) (.cells #[iv (to:Int)] 3) false (by kernel_rfl);obtain⟨G,H⟩:=K.rk 4 (q 0) (.cells #[iv p.vo.p.r,iv p.vo.p.n] 104) true (by kernel_rfl);have s:NS i nb ob u B p ls ts:=(nsC d k (a.n m) K);refine qS0 2 [false,false,true,true,true] (AU s v _ _ (.ew to p.vo.p) ⟨(c 0),(c 1),(q 0),rfl,⟨C,D⟩,⟨E,F⟩,⟨G,H⟩⟩) λJ P R z A j l t=>qR [] 1 [] λM L Q o=>qE (.tuple #[]) λK=>?_;rw[show p.ew to e=p.wait (.ew to p.vo.p)from if_pos b];exact⟨_,rfl,(nsC j l o K),((((a.nil (TN i)).n m).trans (t)).n o)⟩
 .refine qI (e != 7) true (by simpa using b) (qE (.tuple #[]) λK=>?_);rw[show p.ew to e=p from if_neg b];exact⟨_,rfl,(nsC d k a K),(a.nil (TN i))⟩
def gh0:Gh:=⟨λ_=>.z,λ_=>0⟩
def Q4(l:List Cmd)(c:Cmd):Int:=if c∈l then(l.idxOf c:Int)else -1
theorem Q5{c:Cmd}:∀ {l:List Cmd} {j:Nat},l[j]?=some c->l.idxOf c<=j
 | [],j,h=>by cases h
 | d::l,0,h=>by simp only[ny,X']at h;subst h;simp
 | d::l,j+1,h=>by
  have:=Q5 (l:=l) (j:=j) (by simpa using h);rw[List.idxOf_cons];cases d==c<;>simp<;>omega
theorem cX(l:List Cmd)(c:Cmd):decide (0<=Q4 l c)=decide (c∈l):=by
 unfold Q4;by_cases a:c∈l
 .rw[if_pos a,P' a];exact P' (by omega)
 .rw[if_neg a,G' a];rfl
theorem Y0{l:List Cmd}{c:Cmd}(h:l[j]?=some c)(e:∀ i,i<j->l[i]?≠some c):Q4 l c=(j:Int):=by
 have b:c∈l:=mD h;have f:j<l.length:=(V'.1 h).1;unfold Q4;rw[if_pos b]
 congr 1
 have a:l.idxOf c<l.length:=List.idxOf_lt_length_iff.2 b;have d:l[l.idxOf c]?=some c:=by rw[H' a,List.getElem_idxOf a]
 rcases py (l.idxOf c) j with h3|h3|h3
 .exact absurd d (e _ h3)
 .exact h3
 .have:=Q5 h;omega
theorem NY{l:List Cmd}(h:RdC w x l)(Z:l.length<100000000)(c:Cmd) :
  Calls prog 124 #[x.v,.agg #[iv c.k,iv c.c,iv c.s,iv c.n,iv c.v]] w λe w'=>e=.returned (iv (Q4 l c))/\Bw w w':=by
 have hn:=h.len;refine gI (fn:=f124) [] gh0 func124 (λ_ _=>⟨rfl,rfl⟩) (qR [] 13 [0,0] λo S w1 C=>Cc 19 [(0,S3.v x),(3,pt (o 0) 0),(7,iv (x.n:Int)),(8,iv 0)] [true] [⟨(o 0),.cells #[iv c.k,iv c.c,iv c.s,iv c.n,iv c.v] 24,.z,false⟩] (λk G w' e L=>∃ j:Nat,k=l.length-j/\j<=l.length/\e=[(0,S3.v x),(3,pt (o 0) 0),(7,iv (x.n:Int)),(8,iv (j:Int))]/\L=[⟨(o 0),.cells #[iv c.k,iv c.c,iv c.s,iv c.n,iv c.v] 24,.z,false⟩]/\(∀ i,i<j->l[i]?≠some c)/\Cg w.heap.size [] gh0 w G w') (by kernel_rfl) (by kernel_rfl) (by kernel_rfl) (by kernel_rfl) l.length (λK=>?_) ?_)
 .exact⟨0,rfl,by omega,rfl,rfl,λi d=>absurd d (by omega),C⟩
 .rintro k gr wr _ zr _ ⟨j,rfl,hj,rfl,rfl,hI,hC⟩ J hJ;refine qR [] 5 [] λs2 T w2 g=>?_;by_cases B:j<l.length
  .refine qI ((decide ((j:Int)<(x.n:Int)))) true (P' (by omega)) ?_;obtain⟨a,b⟩:∃ a,l[j]?=some a:=⟨_,H' B⟩;rcases h.ex with h2|⟨bx,ox,hxa,hbx,hcell⟩
   .exact absurd B (by rw[h2];simp)
   refine qR [] 13 [6,0,0,2,4] λs3 U w3 r=>qT 3 (pt bx (ox+5*j)) (λ_=>(Rb hxa j (by omega))) ?_;have M:=Cg.af (hC.trans (g.trans r)) (λ_ _=>O');refine qV 4 (.agg #[iv a.k,iv a.c,iv a.s,iv a.n,iv a.v]) (ZD a λi u O=>(M.cell (p:=⟨bx,ox+5*j+i,none⟩) hbx).trans (by rw[nc];exact hcell _ u (OS b O))) (qT 5 (.bool (decide (c=a))) (λ_=>(lL (x:=(.tmp 11)) (y:=(.tmp 15)) c a)) (qR [] 1 [] λs6 V w6 A=>?_));by_cases m:c=a
   .refine qI (decide (c=a)) true (P' m) (qR [] 5 [] λs7 W w7 D=>qE (iv (j:Int)) λK=>⟨by rw[Y0 (by rw[m];exact b) hI],Cg.af (hC.trans (((g.trans r).trans A).trans D)) (λ_ _=>O')⟩)
   .refine qI (decide (c=a)) false (G' m) (qR [] 3 [] λs8 X w8 E=>qV 0 (iv ((j:Int)+1)) (Bj 8 (j:Int) underlying3 (by omega)) (qR [] 2 [] λs9 Y w9 F=>qB [true] λz R K=>hJ (l.length-(j+1)) _ _ _ z _ (by omega) ⟨j+1,rfl,by omega,rfl,rfl,λi d=>?_,hC.trans ((((g.trans r).trans A).trans E).trans F)⟩ K));rcases mZ i j with h4|h4
    .exact hI i h4
    .rw[show i=j by omega,b];intro I;exact m (by simpa using I.symm)
  .refine qI ((decide ((j:Int)<(x.n:Int)))) false (G' (by omega)) (qR [] 5 [] λP H Q q=>?_);have t:c∉l:=λN=>by obtain⟨i,d⟩:=nw.1 N;exact hI i (by have:=(V'.1 d).1;omega) d
   exact qE (iv (-1)) λK=>⟨by unfold Q4;rw[if_neg t],Cg.af (hC.trans (g.trans q)) (λ_ _=>O')⟩
theorem F7{l:List Cmd}(h:RdC w x l)(o:l.length<100000000)(c:Cmd) :
  Calls prog 78 #[x.v,.agg #[iv c.k,iv c.c,iv c.s,iv c.n,iv c.v]] w λe w'=>e=.returned (.bool (decide (c∈l)))/\Bw w w':=by
 refine gI (fn:=f78) [] gh0 func78 (λ_ _=>⟨rfl,rfl⟩) (qR [] 9 [0,0,0] λr m t d=>?_);have a:=Cg.af d (λ_ _=>O');refine qC 2 (NY (h.af a) o c) ?_;rintro p u ⟨rfl,b⟩;refine⟨_,rfl,b,?_⟩;have i:=Cg.ed (B:=w.heap.size) (T:=[]) (g:=m) b;refine qR [] 3 [] λs3 q y j=>qE (.bool (decide (0<=Q4 l c))) λK=>⟨by rw[cX],Cg.af ((d.trans i).trans j) (λ_ _=>O')⟩
theorem U5(h:NS i nb ob g w p ls ts)(l:p.done<=p.ae.length) :
  Calls prog 57 #[pt nb 0] w λe w'=>∃ y:S3,e=.returned y.v/\RdC w' y (p.ae.take p.done)/\Bw w w':=by
 obtain⟨x,lt,t,a,k,m⟩:=h;have q:=a.ae.num;have c:=a.ae.rd;refine gI (fn:=f57) (TN i) g func57 m (qN a (qO k (qR [] 16 [12,0,2,4,6,8,0,10,12,14,16,18,0] λr n u d=>qT 10 (S3.v (x.ae.cut 0 p.done)) (λ_=>(ky x.ae p.done (by have:=c.cap;omega))) (qR [] 2 [22] λs o z j=>?_))));have b:=Cg.af (d.trans j) (λ_ _=>O');exact qE (S3.v (x.ae.cut 0 p.done)) λK=>⟨_,rfl,(c.af b).take l,b⟩
theorem IY(h:NS i nb ob g w p ls ts)(r:ls.length<100000000)(to bn:Nat)(t:bn<=p.ae.length) :
  Calls prog 121 #[pt nb 0,iv (to:Int),iv (bn:Int)] w (NP i nb ob g w (.tuple #[]) p (ls++[{ BD 5 with src:=i,dst:=to,bn:=bn,fm:=p.ae.drop bn }]) ts):=by
 obtain⟨x,lt,H,a,l,s⟩:=h;have D:=a.ae.num;refine gI (fn:=f121) (TN i) g func121 s (qN a (qO l (qR [] 10 [0] λE A I e=>qV 9 (S3.v (x.ae.cut bn x.ae.n)) (iH x.ae bn (by omega)) (qR [] 1 [] λF q z j=>Af λK=>?_))));have d:=e.n j;have m:NS i nb ob q z p ls ts:=(nsC a l d K);refine qS0 11 [false,false] (FS m r { BD 5 with bn:=bn,fm:=p.ae.drop bn } s30 (x.ae.cut bn x.ae.n) ⟨Sv.nil _,λh=>absurd rfl h⟩ ((a.ae.rc.drop t).ch d) to) λB J M u y b c o=>qR [] 1 [] λG C L k=>qF b c k ((((e.nil (TN i)).n j).trans (o)).n k)
theorem Of(h:NS i nb ob g w p ls ts)(a:Nat)(b:List Cmd)(e:S3)(t:Rc g w e b)(hs:a<=p.ae.length)(Y:p.ae.length<100000000)(L:b.length<100000000) :
  Calls prog 112 #[pt nb 0,iv (a:Int),e.v] w (NP i nb ob g w (.tuple #[]) (p.ia a b) ls ts):=by
 obtain⟨x,lt,O,d,C,M⟩:=h;have N:=d.ae.num;have hm:=t.len;have D:=t.cap;refine gI (fn:=f112) (TN i) g func112 M (qN d (qO C (qR [] 9 [0] λs1 R w1 q=>qV 7 (iv ((x.ae.n-a:Nat):Int)) (k9 (x:=(.tmp 12)) (y:=(.tmp 13)) x.ae.n a underlying3 (by omega) (by omega)) (qR [] 9 [] λs2 S w2 r=>?_))));by_cases X:x.ae.n-a<e.n
 .refine qI ((decide (((x.ae.n-a:Nat):Int)<(e.n:Int)))) true (P' (by omega)) ?_;obtain⟨k,Z⟩:∃ k,k=x.ae.n-a:=⟨_,rfl⟩;have E:k<b.length:=by omega
  obtain⟨G,ow,s⟩:=t.addr E;refine qR [] 9 [13,0,2,4,6,8,10,0,12,14] λs3 T w3 u=>qT 8 (.slice (some ⟨G,ow+5*(x.ae.n-a),none⟩) (e.n-(x.ae.n-a)) (e.c-(x.ae.n-a))) (λ_=>(kv s (x.ae.n-a) (by omega) D)) ?_;have F:=(q.n r).n u;refine K3 9 (x:=x.ae) 49 49 24 5 40 (.agg #[iv 0,iv 0,iv 0,iv 0,iv 0]) ⟨G,ow+5*(x.ae.n-a),none⟩ (e.n-(x.ae.n-a)) (e.c-(x.ae.n-a)) (cmL (b.drop (x.ae.n-a))) (d.ae.ch F) (by kernel_rfl) (by kernel_rfl) (by kernel_rfl) underlying49 (by kernel_rfl) (by kernel_rfl) (by decide) (by omega) (by rw[BJ,mo];omega) (OT _) (λK=>jS s (t.ch F) _ (by omega)) (by unfold maxLen;omega) (by omega) ?_;intro P U w6 J n6 B Q;have H:=B w.heap.size [.n 3 i] (D'.2 rfl);refine qR [.n 0 i] 5 [20,22,24,27,0,1] λs7 V w7 A=>qE (.tuple #[]) λK=>?_;have j:=((((q.nil ([.n 3 i,.n 0 i]:List Tg)).n r).n u).m H).m A;have o:Tg.z∉([.n 3 i,.n 0 i]:List Tg):=by simp
  exact⟨_,rfl,⟨{ x with ae:=P },lt,O,K.nd 0 (d.tape.ch j o) (d.ic.ch j o) (BA d.al j o) (Ci d.br j o (by simp)) (d.fa.ch j) (by rw[show(p.ia a b).ae=p.ae++b.drop (x.ae.n-a)from by unfold Nod.ia;rw[N],Cw];exact J.ch A) (d.au.ch j) (d.bw.ch j) d.rF,C.ch j o (by simp<;>omega),K.new⟩,(((((q.nil (TN i)).n r).n u).trans (H.mono (by simp[TN]))).trans (A.mono (by simp[TN])))⟩
 .refine qI ((decide (((x.ae.n-a:Nat):Int)<(e.n:Int)))) false (G' (by omega)) (qR [] 1 [] λs9 W w9 I=>qE (.tuple #[]) λK=>?_);rw[show p.ia a b=p from by unfold Nod.ia;rw[na (by omega),mI]];exact⟨_,rfl,(nsC d C ((q.n r).n I) K),(((q.nil (TN i)).n r).n I)⟩
theorem Ro(h:NS i nb ob g w p ls ts)(q:ls.length<90000000){a b2 b3:Nat}(j:Box g w a #[pt nb 0] 99) :
  Calls prog 97 #[pt a 0] w (NP i nb ob g w (.tuple #[]) p (ls++BV i (BD 6) 5) ts):=by
 obtain⟨x,lt,D,k,l,s⟩:=h;refine gI (fn:=f97) (TN i) g func97 s (qN k (qO l (Cr ⟨a,.cells #[pt nb 0] 99,.z,false⟩ (λ_=>⟨j.r,j.z,λh=>(by cases h),λh=>absurd rfl h⟩) (by kernel_rfl) ?_)));refine qR [] 3 [2] λB v E d=>qS 2 [false,false,true] k l d (λm=>EE m q (BD 6) s30 s30 ⟨Sv.nil _,λh=>absurd rfl h⟩ (Rc.nil _ _)) λy F H t u b c o=>qR [] 1 [] λC A G e=>qF b c e (((d.nil (TN i)).trans (o)).n e)
theorem Py{to:Nat}{b:Bal}(h:NS i nb ob g w p ls ts)(F:ls.length<90000000){a c d:Nat}(m:Box g w a #[pt nb 0] 99)(o:Box g w c #[iv (to:Int)] 3)(q:Box g w d #[iv b.r,iv b.n] 104)  :
  Calls prog 146 #[pt a 0,pt c 0,pt d 0] w (NP i nb ob g w (.tuple #[]) p (ls++[{ BD 2 with fv:=b,src:=i,dst:=to }]) ts):=by
 obtain⟨x,lt,I,s,t,y⟩:=h;refine gI (fn:=f146) (TN i) g func146 y (qN s (qO t (Cr ⟨a,.cells #[pt nb 0] 99,.z,false⟩ (λ_=>⟨m.r,m.z,λh=>(by cases h),λh=>absurd rfl h⟩) (by kernel_rfl) ?_)));refine Cr ⟨c,.cells #[iv (to:Int)] 3,.z,false⟩ (λ_=>⟨o.r,o.z,λh=>(by cases h),λh=>absurd rfl h⟩) (by kernel_rfl) ?_;refine Cr ⟨d,.cells #[iv b.r,iv b.n] 104,.z,false⟩ (λ_=>⟨q.r,q.z,λh=>(by cases h),λh=>absurd rfl h⟩) (by kernel_rfl) ?_;refine qR [] 5 [2,3,4] λG C J k=>qS 4 [false,false,true,true,true] s t k (λu=>FS u (by omega) { BD 2 with fv:=b } s30 s30 ⟨Sv.nil _,λh=>absurd rfl h⟩ (Rc.nil _ _) to) λD K M A B e j v=>qR [] 1 [] λH E L l=>qF e j l (((k.nil (TN i)).trans (v)).n l)
theorem Il(h:NS i nb ob g w p ls ts)(K:ls.length<90000000){c d b3 b:Nat}{l:Let}(o:Box g w c #[pt nb 0] 99)(q:Box g w d #[pt b 0] 167)(A:CQ g w b l) :
  Calls prog 116 #[pt c 0,pt d 0] w (NP i nb ob g w (.tuple #[]) p (ls++[{ BD 4 with bN:=l.bN,src:=i,dst:=l.src }]) ts):=by
 obtain⟨x,lt,N,s,t,y⟩:=h;refine gI (fn:=f116) (TN i) g func116 y (qN s (qO t (Cr ⟨c,.cells #[pt nb 0] 99,.z,false⟩ (λ_=>⟨o.r,o.z,λh=>(by cases h),λh=>absurd rfl h⟩) (by kernel_rfl) ?_)));refine Cr ⟨d,.cells #[pt b 0] 167,.z,false⟩ (λ_=>⟨q.r,q.z,λh=>(by cases h),λh=>absurd rfl h⟩) (by kernel_rfl) ?_;obtain⟨F,G,a,B,C⟩:=A;refine Cr ⟨b,.cells (FF l F G) 166,.z,false⟩ (λ_=>⟨a.r,a.z,λh=>(by cases h),λh=>absurd rfl h⟩) (by kernel_rfl) ?_;refine qR [] 11 [10,0,2,2,3,4,6,8,4,10,3,12,14,16,4,18] λL H O k=>qS 10 [false,false,true,true,true] s t k (λu=>FS u (by omega) { BD 4 with bN:=l.bN } s30 s30 ⟨Sv.nil _,λh=>absurd rfl h⟩ (Rc.nil _ _) l.src) λI P R D E e j v=>qR [] 1 [] λM J Q m=>qF e j m (((k.nil (TN i)).trans (v)).n m)
theorem Mx(h:NS i nb ob g w p ls ts)(L:ls.length<90000000){c d b3 b:Nat}{l:Let}(q:Box g w c #[pt nb 0] 99)(s:Box g w d #[pt b 0] 167)(A:CQ g w b l) :
  Calls prog 118 #[pt c 0,pt d 0] w (NP i nb ob g w (.tuple #[]) p (ls++[{ BD 6 with bn:=p.ae.length,src:=i,dst:=l.src }]) ts):=by
 obtain⟨x,lt,O,e,t,y⟩:=h;refine gI (fn:=f118) (TN i) g func118 y (qN e (qO t (Cr ⟨c,.cells #[pt nb 0] 99,.z,false⟩ (λ_=>⟨q.r,q.z,λh=>(by cases h),λh=>absurd rfl h⟩) (by kernel_rfl) ?_)));refine Cr ⟨d,.cells #[pt b 0] 167,.z,false⟩ (λ_=>⟨s.r,s.z,λh=>(by cases h),λh=>absurd rfl h⟩) (by kernel_rfl) ?_;obtain⟨G,H,a,B,C⟩:=A;refine Cr ⟨b,.cells (FF l G H) 166,.z,false⟩ (λ_=>⟨a.r,a.z,λh=>(by cases h),λh=>absurd rfl h⟩) (by kernel_rfl) ?_;have D:=e.ae.num;refine qR [] 13 [12,0,2,2,3,4,6,8,4,10,2,12,14,16,18,0,20,22] λM I P m=>qS 12 [false,false,true,true,true] e t m (λu=>(show{ BD 6 with bn:=x.ae.n,src:=i,dst:=l.src }=({ BD 6 with bn:=p.ae.length,src:=i,dst:=l.src }:Let)from by rw[D])▸FS u (by omega) { BD 6 with bn:=x.ae.n } s30 s30 ⟨Sv.nil _,λh=>absurd rfl h⟩ (Rc.nil _ _) l.src) λJ Q S E F j k v=>qR [] 1 [] λN K R o=>qF j k o (((m.nil (TN i)).trans (v)).n o)
theorem JJ(h:NS i nb ob g w p ls ts)(L:ls.length<90000000){c d b3 b:Nat}{l:Let}(o:Box g w c #[pt nb 0] 99)(q:Box g w d #[pt b 0] 167)(A:CQ g w b l)(D:l.bn<=p.ae.length) :
  Calls prog 120 #[pt c 0,pt d 0] w (NP i nb ob g w (.tuple #[]) p (ls++[{ BD 5 with src:=i,dst:=l.src,bn:=l.bn,fm:=p.ae.drop l.bn }]) ts):=by
 obtain⟨x,lt,O,s,t,y⟩:=h;refine gI (fn:=f120) (TN i) g func120 y (qN s (qO t (Cr ⟨c,.cells #[pt nb 0] 99,.z,false⟩ (λ_=>⟨o.r,o.z,λh=>(by cases h),λh=>absurd rfl h⟩) (by kernel_rfl) ?_)));refine Cr ⟨d,.cells #[pt b 0] 167,.z,false⟩ (λ_=>⟨q.r,q.z,λh=>(by cases h),λh=>absurd rfl h⟩) (by kernel_rfl) ?_;obtain⟨G,H,a,B,C⟩:=A;refine Cr ⟨b,.cells (FF l G H) 166,.z,false⟩ (λ_=>⟨a.r,a.z,λh=>(by cases h),λh=>absurd rfl h⟩) (by kernel_rfl) ?_;refine qR [] 10 [9,0,2,2,3,4,6,8,4,10,3,12,14,16,4] λM I P k=>qS 9 [false,false,true,true,true] s t k (λu=>IY u (by omega) l.src l.bn D) λJ Q S E F e j v=>qR [] 1 [] λN K R m=>qF e j m (((k.nil (TN i)).trans (v)).n m)
theorem Ho{d:S3}{a:List Vt}(h:NS i nb ob g w p ls ts)(T:ls.length<90000000){j k m c:Nat}{l:Let}(y:Box g w j #[pt nb 0] 99)(A:Box g w k #[pt c 0] 167)(B:Box g w m #[S3.v d] 105)(H:CQ g w c l)(L:FSv g w d a) :
  Calls prog 110 #[pt j 0,pt k 0,pt m 0] w (NP i nb ob g w (.tuple #[]) p (ls++[{ BD 1 with fv:=l.fv,ic:=a,fm:=p.ae,src:=i,dst:=l.src }]) ts):=by
 obtain⟨x,lt,W,o,C,G⟩:=h;refine gI (fn:=f110) (TN i) g func110 G (qN o (qO C (Cr ⟨j,.cells #[pt nb 0] 99,.z,false⟩ (λ_=>⟨y.r,y.z,λh=>(by cases h),λh=>absurd rfl h⟩) (by kernel_rfl) ?_)));refine Cr ⟨k,.cells #[pt c 0] 167,.z,false⟩ (λ_=>⟨A.r,A.z,λh=>(by cases h),λh=>absurd rfl h⟩) (by kernel_rfl) ?_;refine Cr ⟨m,.cells #[S3.v d] 105,.z,false⟩ (λ_=>⟨B.r,B.z,λh=>(by cases h),λh=>absurd rfl h⟩) (by kernel_rfl) ?_;obtain⟨O,Q,b,I,J⟩:=H;refine Cr ⟨c,.cells (FF l O Q) 166,.z,false⟩ (λ_=>⟨b.r,b.z,λh=>(by cases h),λh=>absurd rfl h⟩) (by kernel_rfl) ?_;refine qR [] 17 [16,0,2,2,3,4,6,8,5,10,3,12,14,16,5,18,4,20,2,22,24,26,28,0,30] λU F P t=>Af λK=>?_;have e:=t;have D:NS i nb ob F P p ls ts:=(nsC o C e K);refine qS0 16 [false,false,true,true,true,true] (FS D (by omega) { BD 1 with fv:=l.fv,ic:=a,fm:=p.ae } d x.ae (L.ch e) (o.ae.rc.ch e) l.src) λR X Z M N q s E=>qR [] 1 [] λV S Y u=>qF q s u (((t.nil (TN i)).trans (E)).n u)
theorem LC{a:Acc}{l:List Vt}:Dh a (v::l)=Dh (if Ba a v=0 then⟨BI a v,Br a v⟩else a) l:=rfl
theorem Um{l:List Vt}(h:l[j]?=some v):l.drop j=v::l.drop (j+1):=by
 obtain⟨a,b⟩:=V'.1 h;rw[<- b];exact m9 a
theorem Q3(h:NS i nb ob g w p ls ts){w0:World}(hB:Base w0 g w)(hT:Tabs w0)(j:Nat)(hj:j<5)(vs:List Vt)(y:S3)(hy:FSv g w y vs)(hb:(p.av.al j).vs.length<100000000) :
  Calls prog 85 #[pt nb 11,iv (j:Int),y.v] w (NP i nb ob g w (.tuple #[]) { p with av:=p.av.qQ j vs } ls ts):=by
 obtain⟨x,lt,G,m,hO,hg⟩:=h;refine gI (fn:=f85) (TN i) g func85 hg (qN m (qO hO (qR [] 18 [0,1,0,2,0] λD g1 w1 c1=>Ct 50 (λF H e L=>e=[(0,pt nb 11),(1,iv (j:Int)),(6,pt (D 0) 0),(23,S3.v (x.hv j)),(24,iv ((x.hv j).n:Int)),(25,iv 0)]/\L=[⟨nb,.cells (AF i ob p x) 123,.n 0 i,false⟩,⟨ob,.cells #[S3.v lt,S3.v G] 96,.n 50 0,false⟩,⟨(D 0),.cells #[iv p.av.fv.r,iv p.av.fv.n,S3.v y] 107,.l,false⟩]/\True/\Cg w.heap.size ([]:List Tg) g1 w1 F H) (by kernel_rfl) ?_ ?_)))
 .intro J hJ;rcases qk hj with rfl|rfl|rfl|rfl|rfl <;>
  (refine qR [] 6 [0] λs3 g3 w3 c3=>?_;exact qB [true,true,true] λz K0 K=>hJ _ _ _ z _ ⟨rfl,rfl,trivial,(c3.nil ([]:List Tg))⟩ K)
 rintro g2 w2 _ z2 _ ⟨rfl,rfl,_,c2⟩;have hH:=m.al j hj;have hn:(x.hv j).n=(p.av.al j).vs.length:=by obtain⟨a,b6,hh⟩:=hH.s.shape;simp only[Value.slice.injEq]at hh;exact hh.2.1
 obtain⟨l,hl⟩:∃ l,l=(p.av.al j).vs:=⟨_,rfl⟩;rw[<- hl]at hH hn hb
 refine qR [] 1 [] λs4 g4 w4 c4=>Cc 50 [(0,pt nb 11),(1,iv (j:Int)),(6,pt (D 0) 0),(23,S3.v (x.hv j)),(24,iv ((x.hv j).n:Int)),(25,iv 0)] [true,true,true] [⟨nb,.cells (AF i ob p x) 123,.n 0 i,false⟩,⟨ob,.cells #[S3.v lt,S3.v G] 96,.n 50 0,false⟩,⟨(D 0),.cells #[iv p.av.fv.r,iv p.av.fv.n,S3.v y] 107,.l,false⟩] (λk F H e L=>∃ (k0:Nat) (a:Acc) (ya:S3),k=l.length-k0/\k0<=l.length/\e=[(0,pt nb 11),(1,iv (j:Int)),(6,pt (D 0) 0),(23,S3.v (x.hv j)),(24,iv ((x.hv j).n:Int)),(25,iv (k0:Int))]/\L=[⟨nb,.cells (AF i ob p x) 123,.n 0 i,false⟩,⟨ob,.cells #[S3.v lt,S3.v G] 96,.n 50 0,false⟩,⟨(D 0),.cells #[iv a.p.r,iv a.p.n,S3.v ya] 107,.l,false⟩]/\Dh a (l.drop k0)=Dh ⟨p.av.fv,vs⟩ l/\FSv F H ya a.vs/\Cg w.heap.size [] g w F H) (by kernel_rfl) (by kernel_rfl) (by kernel_rfl) (by kernel_rfl) l.length (λK=>?_) ?_
 .exact⟨0,⟨p.av.fv,vs⟩,y,rfl,by omega,rfl,rfl,rfl,(((hy.ch c1).ch c2).ch c4),((c1.trans c2).trans c4)⟩
 .rintro k gr wr _ zr _ ⟨k0,a,ya,rfl,hk0,rfl,rfl,hI,hya,hC⟩ J hJ;refine qR [] 5 [] λs5 g5 w5 A=>?_;by_cases h1:k0<l.length
  .refine qI ((decide ((k0:Int)<((x.hv j).n:Int)))) true (P' (by omega)) ?_;obtain⟨v,hv⟩:∃ v,l[k0]?=some v:=⟨_,H' h1⟩;have W:=hH.ch hC;obtain⟨bx,ox,X,d2,a8⟩:=W.s.spot k0 v hv;refine qR [] 5 [] λs6 g6 w6 E=>qV 0 (pt bx (ox+8*k0)) (UH X k0 (by omega)) ?_;have a9:=((W.ch A).ch E).s.spot k0 v hv;obtain⟨b5,d4,o,b3,u⟩:=a9;rw[X]at o
   simp only[X',Addr.mk.injEq,and_true]at o;obtain⟨rfl,rfl⟩:=o;refine qV 1 (.agg #[iv v.bn,iv v.b.r,iv v.b.n,iv v.w.k,iv v.w.c,iv v.w.s,iv v.w.n,iv v.w.v]) (dX v u) (qR [] 7 [0,0,3,0,2,3] λs8 g8 w8 V=>Af λa0=>?_);have a7:=((((hya.ch A).ch E).ch V)).s;have a5:=hB.ch (hC.trans ((A.trans E).trans V)) (by simp);have a6:∀ z,w8.heap.size<=z->g8.t z=.z:=λz hz=>(a0.new z hz).1;refine qC 2 (Cv a.p _ a.vs v w8 a7 (a5.tn hT)) ?_;rintro e' e4 ⟨f3,rfl,Y,b4,M⟩;refine⟨_,rfl,M,?_⟩;have C:=Cg.ed (B:=w.heap.size) (T:=[]) (g:=g8) M;obtain⟨ys,rfl,d3,b0⟩:=Eo Y a6 (by omega);refine qR [] 12 [0,0,4,0] λd5 b7 e5 q=>?_;by_cases h2:Ba a v=0
   .refine qI (((Ba a v)==0)) true (by simpa using h2) (qR [] 6 [4,2,0] λd6 b8 e6 N=>qV 0 (iv ((k0:Int)+1)) (Bj 25 (k0:Int) underlying3 (by omega)) (qR [] 2 [] λd7 b9 e7 O=>qB [true,true,true,false,false] λz K0 K=>hJ (l.length-(k0+1)) _ _ _ z _ (by omega) ⟨k0+1,⟨BI a v,Br a v⟩,ys,rfl,by omega,rfl,rfl,?_,(((b0.ch q).ch N).ch O),hC.trans ((((((A.trans E).trans V).trans C).trans q).trans N).trans O)⟩ K));rw[<- hI,Um hv,LC,if_pos h2]
   .refine qI (((Ba a v)==0)) false (by simpa using h2) (qR [] 3 [] λd8 c0 e8 P=>qV 0 (iv ((k0:Int)+1)) (Bj 25 (k0:Int) underlying3 (by omega)) (qR [] 2 [] λd9 c7 e9 Q=>qB [true,true,true,false,false] λz K0 K=>hJ (l.length-(k0+1)) _ _ _ z _ (by omega) ⟨k0+1,a,ya,rfl,by omega,rfl,rfl,?_,(((((((hya.ch A).ch E).ch V).ch C).ch q).ch P).ch Q),hC.trans ((((((A.trans E).trans V).trans C).trans q).trans P).trans Q)⟩ K));rw[<- hI,Um hv,LC,if_neg h2]
  .refine qI ((decide ((k0:Int)<((x.hv j).n:Int)))) false (G' (by omega)) ?_;obtain rfl:k0=l.length:=by omega
   rw[nR]at hI
   refine qR [] 8 [8,0,2,4,6,10,12] λe0 a3 b1 R=>Ct 50 (λF H e L=>e=[(0,pt nb 11)]/\L=[⟨nb,.cells (AF i ob ({ p with av:={ p.av with nn:=upN p.av.nn j true,al:=upN p.av.al j a } }) ({ x with hv:=upN x.hv j ya })) 123,.n 0 i,false⟩,⟨ob,.cells #[S3.v lt,S3.v G] 96,.n 50 0,false⟩,⟨(D 0),.cells #[iv a.p.r,iv a.p.n,S3.v ya] 107,.l,false⟩]/\True/\Cg w.heap.size ([.n 0 i]:List Tg) a3 b1 F H) (by kernel_rfl) ?_ ?_
   .intro J hJ;rcases qk hj with rfl|rfl|rfl|rfl|rfl <;>
    (refine qR [] 3 [14,18,20] λe1 c9 f0 U=>?_;exact Du 4 8 (by kernel_rfl) (by(refine qR [.n 0 i] 5 [2,17,0,1,22,25,0,1] λe2 d0 f1 a1=>?_;exact qB [true,true,true] λz K0 K=>hJ _ _ _ z _ ⟨rfl,rfl,trivial,((U.nil ([.n 0 i]:List Tg)).trans a1)⟩ K)) (by(refine qR [.n 0 i] 5 [0,1,9,2,22,25,0,1] λe3 d1 f2 a2=>?_;exact qB [true,true,true] λz K0 K=>hJ _ _ _ z _ ⟨rfl,rfl,trivial,((U.nil ([.n 0 i]:List Tg)).trans a2)⟩ K)))
   rintro a4 b2 _ f4 _ ⟨rfl,rfl,_,S⟩;refine qE (.tuple #[]) λK=>?_;obtain⟨q1,q2,q3⟩:=K.rm 0 nb (.cells (AF i ob { p with av:={ p.av with nn:=upN p.av.nn j true,al:=upN p.av.al j a } } { x with hv:=upN x.hv j ya }) 123) 0 i (by kernel_rfl);obtain⟨q4,q5,q6⟩:=K.rm 1 ob (.cells #[S3.v lt,S3.v G] 96) 50 0 (by kernel_rfl);have hE:p.av.qQ j vs={ p.av with nn:=upN p.av.nn j true,al:=upN p.av.al j a }:=by unfold Rnd.qQ;rw[<- hl,<- hI];rfl
   rw[hE];have d:Cg w.heap.size [.n 0 i] g w a4 b2:=((((hC.nil [.n 0 i]).n A).n R).trans S);have I:Tg.z∉[Tg.n 0 i]:=by simp
   have Z:=(((hya.ch A).ch R).ch S);refine⟨_,rfl,⟨{ x with hv:=upN x.hv j ya },lt,G,⟨q1,q2,q3,m.tape.ch d I,m.ic.ch d I,?_,Ci m.br d I (by simp),m.fa.ch d,m.ae.ch d,m.au.ch d,m.bw.ch d,m.rF⟩,⟨q4,q5,q6,En hO.bm d I (by simp),hO.eb.ch d⟩,K.new⟩,d.mono (by simp[TN])⟩;intro k hk;show FSv _ _ (upN x.hv j ya k) (upN p.av.al j a k).vs;unfold upN;split
   .exact Z
   .exact(m.al k hk).ch d I
theorem Yh(u v:Vt)(w:World):(Op.equal 164 (.agg (vtA u)) (.agg (vtA v))).run prog w=.ok (decide (u=v)) w:=by
 have a:=Yf u.bn u.b.r u.b.n u.w.k u.w.c u.w.s u.w.n u.w.v v.bn v.b.r v.b.n v.w.k v.w.c v.w.s v.w.n v.w.v w;have d:decide (u.bn=v.bn/\u.b.r=v.b.r/\u.b.n=v.b.n/\u.w.k=v.w.k/\u.w.c=v.w.c/\u.w.s=v.w.s/\u.w.n=v.w.n/\u.w.v=v.w.v)=decide (u=v):=by
  apply nf.2;constructor
  .rintro⟨a1,a2,a3,a4,a5,a6,a7,a8⟩;exact(Vt.eq_iff u v).1 ⟨a1,(Bal.eq_iff _ _).1 ⟨a2,a3⟩,(Cmd.eq_iff _ _).1 ⟨a4,a5,a6,a7,a8⟩⟩
  .rintro rfl;exact⟨rfl,rfl,rfl,rfl,rfl,rfl,rfl,rfl⟩
 rw[d]at a
 rw[run_eql_struct]at a
 show(Op.equalIn 10000 _ _ _).run _ _=_;simp only[vtA,vtC];cases hr:(Op.equalIn 10000 164 (.agg #[.int .i64 u.bn,.int .i64 u.b.r,.int .i64 u.b.n,.int .i64 u.w.k,.int .i64 u.w.c,.int .i64 u.w.s,.int .i64 u.w.n,.int .i64 u.w.v]) (.agg #[.int .i64 v.bn,.int .i64 v.b.r,.int .i64 v.b.n,.int .i64 v.w.k,.int .i64 v.w.c,.int .i64 v.w.s,.int .i64 v.w.n,.int .i64 v.w.v])).run prog w with
 | ok b w'=>rw[hr]at a;simp[Result.andThen]at a;rw[a.1,a.2]
 | _=>rw[hr]at a;simp[Result.andThen]at a
abbrev Cnt:=Vt × Nat × Nat
def mkE(x:Cnt):MapEntry:={ key:=.agg (vtA x.1),val:=.int .i64 (x.2.1:Int),born:=x.2.2 }
def L2(v:Vt):List Cnt->Nat->Option (Nat × Value)
 | [],_=>none
 | x::c,i=>if v=x.1 then some (i,.int .i64 (x.2.1:Int))else L2 v c (i+1)
theorem NE(v:Vt)(w:World):∀ (c:List Cnt) (i:Nat),(Instr.findAsking 164 (.agg (vtA v)) (c.map mkE) i).run prog w=.ok (L2 v c i) w
 | [],i=>by simp[Instr.findAsking,L2]
 | x::c,i=>by
  have h:=Yh v x.1 w;rw[mR,Instr.findAsking,Sem.run_bind];show((Op.equal 164 (.agg (vtA v)) (.agg (vtA x.1))).run _ w).andThen _=_;rw[h,Result.andThen_ok,L2];by_cases e:v=x.1
  .rw[P' e,if_pos e];simp[mkE]
  .rw[G' e,if_neg e];simpa using NE v w c (i+1)
theorem KM(v:Vt)(w:World)(c:List Cnt):(Instr.findKey 164 (.agg (vtA v)) (c.map mkE)).run prog w=.ok (L2 v c 0) w:=by
 rw[Instr.findKey,Sem.run_bind,run_underlying underlying164 w,Result.andThen_ok];cases c with
 | nil=>simp[Instr.findNow,L2]
 | cons x c =>
  show Sem.run _ (match(none:Option (Option (Nat × Value)))with|some r=>pure r|none=>Instr.findAsking 164 (.agg (vtA v)) ((x::c).map mkE)) w=_;exact NE v w (x::c) 0
theorem Iw(a:Bool)(v:Vt)(w:World):(Instr.checkKey a 10000 164 (.agg (vtA v))).run prog w=.ok () w:=by
 obtain⟨s,⟨r,n⟩,⟨k,c,q,m,x⟩⟩:=v;kernel_rfl
def DT(c:List Cnt)(v:Vt):Nat:=match c.find? (λx=>decide (v=x.1))with|some x=>x.2.1|none=>0
theorem L3(v:Vt):∀ (c:List Cnt) (i:Nat),(L2 v c i=none/\DT c v=0/\∀ x∈c,v≠x.1)\/∃ a x b,c=a++x::b/\x.1=v/\(∀ y∈a,v≠y.1)/\L2 v c i=some (i+a.length,.int .i64 (x.2.1:Int))/\DT c v=x.2.1
 | [],i=>.inl ⟨rfl,rfl,λx hx=>by cases hx⟩
 | x::c,i=>by
  by_cases e:v=x.1
  .refine .inr ⟨[],x,c,rfl,e.symm,λy hy=>(O' hy).elim,?_,?_⟩
   .rw[L2,if_pos e];simp
   .simp[DT,e]
  .rcases L3 v c (i+1)with⟨h1,h2,h3⟩|⟨a,y,b,rfl,hy,h3,h4,h5⟩
   .refine .inl ⟨by rw[L2,if_neg e,h1],?_,λy hy=>?_⟩
    .rw[<- h2];simp[DT,e]
    .rcases mp.1 hy with rfl|hy
     .exact e
     .exact h3 y hy
   .refine .inr ⟨x::a,y,b,rfl,hy,λz hz=>?_,?_,?_⟩
    .rcases mp.1 hz with rfl|hz
     .exact e
     .exact h3 z hz
    .rw[L2,if_neg e,h4];simp;omega
    .rw[<- h5];simp[DT,e]
structure CMap(w:World)(b:Nat)(c:List Cnt):Prop where
 ex:∃ clock,w.heap[b]?=some (.map (c.map mkE).toArray clock)/\∀ x∈c,x.2.2<clock
 tx:c.Pairwise λx y=>x.2.2≠y.2.2
variable{a c d:List Cnt}
theorem CMap.lt(h:CMap w b c):b<w.heap.size:=by
 obtain⟨⟨k,a,_⟩,_⟩:=h;exact(U'.1 a).1
theorem CMap.jv(h:CMap w b c)(f:w'.heap[b]?=w.heap[b]?):CMap w' b c:=by
 obtain⟨⟨k,a,d⟩,e⟩:=h;exact⟨⟨k,f.trans a,d⟩,e⟩
theorem CMap.af(h:CMap w b c)(a:Bw w w'):CMap w' b c:=h.jv (a.block b h.lt)
theorem CMap.made(w:World):CMap (w.alloc (.map #[] 0)) w.heap.size []:=⟨⟨0,heap_alloc_new _ _,λx a=>by cases a⟩,List.Pairwise.nil⟩
theorem lh(w:World):(zeroValue 3).run prog w=.ok (.int .i64 0) w:=by kernel_rfl
theorem CMap.look(h:CMap w b c)(v:Vt):(Instr.lookup 272 (.map (some b)) (.agg (vtA v)) false).run prog w=.ok (.int .i64 (DT c v:Int)) w:=by
 obtain⟨⟨k,f,_⟩,_⟩:=h;have e:(getObj b).run prog w=.ok (.map (c.map mkE).toArray k) w:=by simp[getObj,Sem.run,f]
 rcases L3 v c 0 with⟨h1,h2,_⟩|⟨a,x,d,_,_,_,h1,h2⟩
 .simp[Instr.lookup,run_underlying underlying272,e,Iw,KM,h1,h2]
 .simp[Instr.lookup,run_underlying underlying272,e,Iw,KM,h1,h2]
theorem eq(v:Vt)(n:Nat):Instr.sameBits (n+1) (.agg (vtA v)) (.agg (vtA v))=true:=by
 simp[Instr.sameBits,vtA,vtC]
theorem ao(v:Vt)(w:World):(Instr.keyThatStays (.agg (vtA v)) (.agg (vtA v))).run prog w=.ok (.agg (vtA v)) w:=by
 rw[Instr.keyThatStays,if_pos (eq v 9999)];rfl
theorem Vx{u:Vt}{m:Nat}(b:∀ y∈a,v≠y.1):DT (a++(v,m,born)::d) u=if u=v then m else DT (a++(v,n,born)::d) u:=by
 unfold DT;rw[nL,nL,oO,oO];by_cases e:u=v
 .subst e;have c:a.find? (λx=>decide (u=x.1))=none:=by
   rw[nz];intro y f;simp[b y f]
  rw[c];simp
 .rw[if_neg e];simp[e]
theorem JD(a:w.heap[b]?=some (.map es k))(o:Obj):Below b w (ChangeMaps.setBlock w b o) :=
 ⟨rfl,rfl,rfl,by simp[ChangeMaps.setBlock],λi c=>ChangeMaps.heap_setBlock_other a o (by omega)⟩
theorem JE(a:w.heap[b]?=some (.map es k))(o:Obj)(i:Nat)(h:i≠b):(ChangeMaps.setBlock w b o).heap[i]?=w.heap[i]?:=ChangeMaps.heap_setBlock_other a o h
theorem CMap.entry(h:CMap w b c)(v:Vt):∃ (a d:List Cnt) (born:Nat) (w':World),(Instr.mapEntry 272 (.map (some b)) (.agg (vtA v))).run prog w=.ok (.tuple #[.int .i64 (DT c v:Int),.int .i64 (born:Int)]) w'/\CMap w' b (a++(v,DT c v,born)::d)/\(∀ y∈a,v≠y.1)/\(∀ u,DT (a++(v,DT c v,born)::d) u=DT c u)/\Below b w w'/\∀ i,i≠b->w'.heap[i]?=w.heap[i]?:=by
 obtain⟨⟨k,f,j⟩,m⟩:=h;have n:(getObj b).run prog w=.ok (.map (c.map mkE).toArray k) w:=by simp[getObj,Sem.run,f]
 rcases L3 v c 0 with⟨h1,h2,h3⟩|⟨a,x,d,rfl,rfl,h3,h1,h2⟩
 .refine⟨c,[],k,ChangeMaps.setBlock w b (.map ((c++[(v,0,k)]).map mkE).toArray (k+1)),?_,⟨⟨k+1,?_,?_⟩,?_⟩,h3,?_,JD f _,JE f _⟩
  .have hs:=MapKept.run_setObj_map (P:=prog) (w:=w) (.map ((c++[(v,0,k)]).map mkE).toArray (k+1)) f;have g:((c.map mkE).toArray.push { key:=.agg (vtA v),val:=.int .i64 0,born:=k })=((c++[(v,0,k)]).map mkE).toArray:=by simp[mkE]
   rw[Instr.mapEntry];simp only[Sem.run_bind,run_underlying underlying272,Result.andThen_ok,n,Iw,KM,h1,h2,lh,g,hs];rfl
  .rw[h2];exact ChangeMaps.heap_setBlock_same f _
  .intro y hy;rcases Q'.1 hy with hy|hy
   .have:=j y hy;omega
   .obtain rfl:y=(v,DT c v,k):=by simpa using hy
    show k<k+1;omega
  .rw[oc];refine⟨m,ph _ _,λy hy z p=>?_⟩;obtain rfl:z=(v,DT c v,k):=by simpa using p
   have:=j y hy;show y.2.2≠k;omega
  .intro u;rw[h2];unfold DT;rw[nL];cases hf:c.find? (λx=>decide (u=x.1))with
   | some y=>rfl
   | none =>
    by_cases e:u=v
    .subst e;simp
    .simp[e]
 .refine⟨a,d,x.2.2,ChangeMaps.setBlock w b (.map ((a++x::d).map mkE).toArray k),?_,⟨⟨k,?_,?_⟩,?_⟩,h3,?_,JD f _,JE f _⟩
  .have hs:=MapKept.run_setObj_map (P:=prog) (w:=w) (.map ((a++x::d).map mkE).toArray k) f;have o:((a++x::d).map mkE).toArray[a.length]?=some (mkE x):=by simp
   have g:(((a++x::d).map mkE).toArray.modify a.length λe=>{ e with key:=.agg (vtA x.1) })=((a++x::d).map mkE).toArray:=by
    apply nO;intro i;rw[oP];split
    .rename_i hi
     subst hi;rw[o];rfl
    .rfl
   have l:=ao x.1 w;rw[Instr.mapEntry];simp only[Sem.run_bind,run_underlying underlying272,Result.andThen_ok,n,Iw,KM,h1,mU,o,m5,qf];rw[show(mkE x).key=.agg (vtA x.1)from rfl,l,Result.andThen_ok,g,hs];simp[goInt,ChangeMaps.setBlock,h2,mkE]
  .rw[h2];exact ChangeMaps.heap_setBlock_same f _
  .rw[h2];exact j
  .rw[h2];exact m
  .intro u;rw[h2]
theorem CMap.store(h:CMap w b (a++(v,n,born)::d))(m:Nat):∃ w',(Instr.entryStore 272 (.map (some b)) (.int .i64 (born:Int)) (.int .i64 (m:Int))).run prog w=.ok () w'/\CMap w' b (a++(v,m,born)::d)/\Below b w w'/\∀ i,i≠b->w'.heap[i]?=w.heap[i]?:=by
 obtain⟨⟨k,f,l⟩,c⟩:=h;have r:(getObj b).run prog w=.ok (.map ((a++(v,n,born)::d).map mkE).toArray k) w:=by simp[getObj,Sem.run,f]
 refine⟨ChangeMaps.setBlock w b (.map ((a++(v,m,born)::d).map mkE).toArray k),?_,⟨⟨k,ChangeMaps.heap_setBlock_same f _,?_⟩,?_⟩,JD f _,JE f _⟩
 .have hs:=MapKept.run_setObj_map (P:=prog) (w:=w) (.map ((a++(v,m,born)::d).map mkE).toArray k) f;have p:((a++(v,n,born)::d).map mkE).toArray.findIdx? (λe=>(e.born:Int)==(born:Int))=some a.length:=by
   rw[List.findIdx?_toArray,mK,List.findIdx?_append];have o:(a.map mkE).findIdx? (λe=>(e.born:Int)==(born:Int))=none:=by
    rw[List.findIdx?_eq_none_iff];intro e j;obtain⟨y,hy,rfl⟩:=mB.1 j;have:=(oc.1 c).2.2 y hy (v,n,born) (by simp);simp[mkE];intro g;exact this (show y.2.2=born by omega)
   rw[o,mR,List.findIdx?_cons];simp[mkE]
  have j:(((a++(v,n,born)::d).map mkE).toArray.modify a.length λe=>{ e with val:=.int .i64 (m:Int) })=((a++(v,m,born)::d).map mkE).toArray:=by
   apply nO;intro i;rw[oP];split
   .rename_i hi
    subst hi;simp[mkE]
   .rename_i hi
    simp only[m7,mK,mR];rcases mZ i a.length with g|g
    .rw[mt (by simpa using g),mt (by simpa using g)]
    .rw[my (by simpa using g),my (by simpa using g)];obtain⟨q,s⟩:∃ q,i-(a.map mkE).length=q+1:=⟨i-a.length-1,by simp;omega⟩;rw[s];rfl
  rw[Instr.entryStore];simp only[Sem.run_bind,r,Result.andThen_ok,asInt,asIntOf,Sem.run_pure,p,j,hs];rfl
 .intro y hy;rcases Q'.1 hy with hy|hy
  .exact l y (mn _ hy)
  .rcases mp.1 hy with rfl|hy
   .exact l (v,n,born) (by simp)
   .exact l y (mj _ (I' _ hy))
 .rw[oc,List.pairwise_cons]at c ⊢
  refine⟨c.1,⟨λy hy=>c.2.1.1 y hy,c.2.1.2⟩,λy hy z hz=>?_⟩;rcases mp.1 hz with rfl|hz
  .exact c.2.2 y hy (v,n,born) (by simp)
  .exact c.2.2 y hy z (I' _ hz)
end
section
variable{P:Program}{md:Region.Mode}{ops:Array Oper}{Q:Exit->Act->World->Prop}{S:World->Prop}
section
variable{K:Act->World->Prop}{a:Act}{d i:Nat}{o:Oper}{w w':World}
theorem Zk(k:ops[i]?=some o)(l:Region.wanted o (yielded ops a.tmps)=true)(g:o.dst=some d)(t:TypeId)(m x:Operand)(c:o.op=.lookup t m x false)(e f v:Value)(j:a.eval m=e)(n:a.eval x=f)(b:(Instr.lookup t e f false).run P w=.ok v w)(h:K (a.put (some d) v) w):wpOp P ops Q i K a w :=
 Zl k l g (by unfold execOp;simp only[c,j,n,Sem.run_bind,b,Result.andThen_ok,Sem.run_pure]) h
theorem UE(k:ops[i]?=some o)(l:Region.wanted o (yielded ops a.tmps)=true)(g:o.dst=some d)(t:TypeId)(m x:Operand)(c:o.op=.mapEntry t m x)(e f v:Value)(j:a.eval m=e)(n:a.eval x=f)(b:(Instr.mapEntry t e f).run P w=.ok v w')(h:K (a.put (some d) v) w'):wpOp P ops Q i K a w :=
 Zl k l g (by unfold execOp;simp only[c,j,n,Sem.run_bind,b,Result.andThen_ok,Sem.run_pure]) h
theorem QN(l:ops[i]?=some o)(n:Region.wanted o (yielded ops a.tmps)=true)(j:o.dst=none)(t:TypeId)(m x y:Operand)(c:o.op=.entryStore t m x y)(d e f:Value)(k:a.eval m=d)(p:a.eval x=e)(q:a.eval y=f)(b:(Instr.entryStore t d e f).run P w=.ok () w')(h:K a w'):wpOp P ops Q i K a w :=
 wpOp_step l λr g=>by
  rw[if_pos n];unfold Oper.wp execOp;simp only[c,k,p,q,Sem.run_bind,b,Result.andThen_ok,Sem.run_pure];exact g _ _ (by rw[j];exact h)
end
end
section
variable{P:Program}{W w:World}{a:Act}{ac:List Acc}{b i j m nb ob:Nat}{g:Gh}{l:List Int}{ls:List Let}{n s:Int}{ops:Array Oper}{p:Nod}{ts:List Tol}{x:S3}{y:Value}
theorem OG{S:World->Prop}{op:Oper}(d:Region.wanted op (yielded ops a.tmps)=true)(x:Operand)(c:op.op=.binOp .add 3 x (.const (.int .i64 1)) 3)(n m:Nat)(e:a.eval x=.int .i64 (n:Int))(g:m=n+1)(f:n<=1000) :
  YieldsIf prog ops S op (.int .i64 (m:Int)) a :=
 .inl ⟨d,λw _=>by
  have b:a.eval (.const (.int .i64 1))=.int .i64 1:=rfl;unfold execOp;simp only[c,e,b];simp[go_sem];rw[IntKind.wrap_i64];omega⟩
theorem Zp{d:Nat}{K:Act->World->Prop}{Q:Exit->Act->World->Prop}(R:Nat->World->Prop){A:Nat->Act}(c:∀ K':Act->World->Prop,Hid (∀ x W2,R x W2->K' (A x) W2)->(Code.region d ops true).wp P (Exit.then K' Q) a w)(b:∀ x W2,R x W2->K (A x) W2):(Code.region d ops true).wp P (Exit.then K Q) a w:=c K b
def ID(l:List Vt)(m:Nat):Cmd:=((Hj l m).map (·.w)).getD ⟨0,0,0,0,0⟩
def IE(l:List Vt)(m:Nat):Int:=if(Hj l m).isSome then 0 else 9
theorem J0{l:List Vt}{v:Vt}(h:Hj l m=some v):ID l m=v.w/\IE l m=0:=by unfold ID IE;rw[h];exact⟨rfl,rfl⟩
theorem Jz{l:List Vt}(h:Hj l m=none):ID l m=⟨0,0,0,0,0⟩/\IE l m=9:=by unfold ID IE;rw[h];exact⟨rfl,rfl⟩
theorem bU:(prog.info? 24).map (·.size)=some 5:=by kernel_rfl
theorem jp:(prog.info? 107).map (·.size)=some 3:=by kernel_rfl
theorem QL(l:List Vt)(u v:Vt):BK (l++[u]) v=if v=u then BK l v+1 else BK l v:=by
 unfold BK;rw[pi];by_cases e:v=u
 .subst e;simp
 .rw[if_neg e];simp;exact λg=>e g.symm
theorem YX(x:Value)(ac:List Acc)(s:Int)(w:World)(h:Sac w x ac)(P:ac.length<=5)(a4:∀ a∈ac,Ag a) :
  Calls prog 177 #[x,.int .i64 s] w λe w'=>e=.returned (.tuple #[.agg (cmC (ID (D2 ac s) ac.length)),.int .i64 (IE (D2 ac s) ac.length)])/\Bw w w':=by
 have a0:Hid (∀ a∈ac,Ag a):=a4;clear a4;obtain⟨ax,cp,rfl⟩:=h.shape;obtain⟨N,hN⟩:∃ N,ac.length=N:=⟨_,rfl⟩;have HN:Hid (ac.length=N):=hN;rw[hN]at h P ⊢
 clear hN;have f8:(zV5:Array Value).all (·.oneCell')=true:=by simp[Value.oneCell']
 have rr:=heap_alloc_new w (.cells zV5 24);have bb:Bw w (w.alloc (.cells zV5 24)):=(Below.refl _ _).alloc (A' _) _;have z0:(w.alloc (.cells zV5 24)).heap.size=w.heap.size+1:=by simp
 generalize e6:w.alloc (.cells zV5 24)=w1 at rr bb z0;have h0:=h.af bb;clear h;have b0:Below (w.heap.size+1) w1 (w1.alloc (.map #[] 0)):=(Below.refl _ _).alloc (by omega) _;have v0:CMap (w1.alloc (.map #[] 0)) (w.heap.size+1) []:=by rw[<- z0];exact CMap.made _
 generalize e8:w1.alloc (.map #[] 0)=WA at b0 v0;have f4:=@run_makeMap prog;go_enter func177,ntmps177
 go_wp2_with fail
 clear e8 e6 f4;have b7:w.heap.size<w.heap.size+1:=by omega
 generalize hB:w.heap.size+1=B at b0 v0 z0 b7 ⊢;have HB:Hid (B=w1.heap.size):=z0.symm;clear hB z0
 go_loopw [14] (λiv wr=>∃ (j:Nat) (c:List Cnt),j<=N/\iv=.int .i64 (j:Int)/\CMap wr B c/\(∀ v,DT c v=BK (Ae ((ac.take j).map (·.vs)).flatten s) v)/\(∀ v,2*BK (Ae ((ac.take j).map (·.vs)).flatten s) v<=N)/\Below B w1 wr) (λiv _=>((N:Int)-intOf iv).toNat)
 case atStart=>exact⟨0,[],by omega,rfl,v0,λv=>rfl,λv=>by simp[BK,Ae],b0⟩
 case round =>
  clear v0 b0;obtain⟨j,c,hj,rfl,b3,a1,c8,E⟩:=hrel;have HC:Hid (∀ v,DT c v=BK (Ae ((ac.take j).map (·.vs)).flatten s) v):=a1;have HL:Hid (∀ v,2*BK (Ae ((ac.take j).map (·.vs)).flatten s) v<=N):=c8;clear a1 c8;by_cases f3:j<N
  .have hji:(j:Int)<(N:Int):=by omega
   obtain⟨A,hA⟩:∃ A,ac[j]?=some A:=⟨_,H' (by have:=HN.out;omega)⟩;obtain⟨b,e0,y,rfl,g0,d2,R⟩:=h0.spot j A hA;have d0:Ag A:=a0.out A (nw.2 ⟨j,hA⟩);obtain⟨⟨pr,pn⟩,l⟩:=A;simp only at d2 R;have c7:=W8 b e0 N cp j f3;obtain⟨ay,cy,hy⟩:=R.shape;obtain⟨M,hM⟩:∃ M,l.length=M:=⟨_,rfl⟩;have HM:Hid (l.length=M):=hM;rw[hM]at hy
   subst hy;have H:Hid (BL l):=d0.2.2;have HF:Hid (((ac.take (j+1)).map (·.vs)).flatten=((ac.take j).map (·.vs)).flatten++l):=TK ac j _ hA;clear hA hM d0;have d3:=Tj E (show b<B by rw[HB.out];exact g0) d2;have d4:=R.af (E.mono (by rw[HB.out];exact A' _));have F:Bw wr (wr.alloc (.cells #[.int .i64 0,.int .i64 0,.slice none 0 0] 107)):=(Below.refl _ _).alloc (A' _) _;have Z:=heap_alloc_new wr (.cells #[.int .i64 0,.int .i64 0,.slice none 0 0] 107);have d1:(#[.int .i64 pr,.int .i64 pn,.slice ay M cy]:Array Value).all (·.oneCell')=true:=by simp[Value.oneCell']
   generalize a7:wr.alloc (.cells #[.int .i64 0,.int .i64 0,.slice none 0 0] 107)=WN at F Z
   go_upto_region 5 with((with_reducible (refine Da ?_));first|(refine wpList_load_mid rfl 107 _ rfl b (e0+3*j) rfl [.int .i64 pr,.int .i64 pn,.slice ay M cy] _ d3 underlying107 rfl jp ?_)|(refine wpList_store_row rfl 107 (.tmp 8) (.tmp 17) rfl wr.heap.size (#[.int .i64 pr,.int .i64 pn,.slice ay M cy]) rfl rfl 107 _ Z jp rfl d1 ?_))
   clear a7;have q:=setRow_heap WN wr.heap.size _ (#[.int .i64 pr,.int .i64 pn,.slice ay M cy]) 107 _ Z;replace F:=EQ F (A' _) (#[.int .i64 pr,.int .i64 pn,.slice ay M cy]);generalize WN.setRow wr.heap.size (#[.int .i64 pr,.int .i64 pn,.slice ay M cy])=W at q F ⊢;have Y:wr.heap.size<W.heap.size:=(U'.1 q).1;have O:=b3.af F;have d5:=E.size;have f9:B<wr.heap.size:=b3.lt;have eW:=E.trans (F.mono (by omega));have sW:=d4.af F;generalize wr.heap.size=G at q Y f9 ⊢;have c2:W.cell? ⟨G,2,none⟩=some (.slice ay M cy):=cell_of_row _ _ 2 _ _ _ q;clear Z d3 c7 F b3 d4 E d5;go_wp2_with fail
   refine(Ke _ l s W H.out sW).mono ?_;rintro e W2 ⟨p,rfl,hp,b2⟩;have HP:Hid (Plc l s p):=hp;have c2:=(b2.cell (p:=⟨G,2,none⟩) Y).trans c2;have V:=O.af b2;have s2:=sW.af b2;have e2:=eW.trans (b2.mono (by omega));have g2:G<W2.heap.size:=Z' Y b2.size;clear hp b2 O sW eW q Y;go_wp2_with fail
   refine(JX _ l p s W2 s2).mono ?_;rintro e T ⟨rfl,rfl⟩;generalize hh:LA l p s=bh;cases bh
   .have HT:Hid (Ae ((ac.take (j+1)).map (·.vs)).flatten s=Ae ((ac.take j).map (·.vs)).flatten s):=by
     unfold Hid;rw[HF.out,DP,Plc.rA H.out HP.out (LB hh),mI]
    clear hh;go_wp2
    go_roundw
    case rel=>exact⟨j+1,c,by omega,by go_num,V,by rw[HT.out];exact HC.out,by rw[HT.out];exact HL.out,e2⟩
    case measure=>simp[intOf];omega
   .obtain⟨u,hu,hus⟩:=NV hh;have HT:Hid (Ae ((ac.take (j+1)).map (·.vs)).flatten s=Ae ((ac.take j).map (·.vs)).flatten s++[u]):=by
     unfold Hid;rw[HF.out,DP,Plc.rK H.out hu hus]
    have f6:p<M:=by have:=(V'.1 hu).1;have:=HM.out;omega
    obtain⟨b4,o4,f0,d8,c0⟩:=s2.spot p u hu;subst f0;have f2:=JA b4 o4 M cy p f6;have hi:=ZW u;have c6:DT c u=BK (Ae ((ac.take j).map (·.vs)).flatten s) u:=HC.out u;have f5:=HL.out u;obtain⟨n,X⟩:∃ n,BK (Ae ((ac.take j).map (·.vs)).flatten s) u=n:=⟨_,rfl⟩;rw[X]at c6 f5
    have c3:Hid (BK (Ae ((ac.take (j+1)).map (·.vs)).flatten s) u=n+1):=by unfold Hid;rw[HT.out,QL,if_pos rfl,X]
    have a5:Hid (∀ v,BK (Ae ((ac.take (j+1)).map (·.vs)).flatten s) v=if v=u then n+1 else BK (Ae ((ac.take j).map (·.vs)).flatten s) v):=λv=>by
     rw[HT.out,QL];split
     .rename_i g;rw[g,X]
     .rfl
    clear hu hus hh X HT;obtain⟨D,⟨C,z⟩,⟨k,f,o,m,r⟩⟩:=u;simp only[vtC]at c0 hi;have F:Bw T (T.alloc (.cells zV8 164)):=(Below.refl _ _).alloc (A' _) _;have Z:=heap_alloc_new T (.cells zV8 164);have b9:(#[.int .i64 D,.int .i64 C,.int .i64 z,.int .i64 k,.int .i64 f,.int .i64 o,.int .i64 m,.int .i64 r]:Array Value).all (·.oneCell')=true:=by simp[Value.oneCell']
    generalize a7:T.alloc (.cells zV8 164)=WN at F Z
    go_upto_region 8 with((with_reducible (refine Da ?_));first|(refine wpList_load_mid rfl 164 _ rfl b4 (o4+8*p) rfl [.int .i64 D,.int .i64 C,.int .i64 z,.int .i64 k,.int .i64 f,.int .i64 o,.int .i64 m,.int .i64 r] _ c0 underlying164 rfl hi ?_)|(refine wpList_store_row rfl 164 (.tmp 10) (.tmp 32) rfl T.heap.size (#[.int .i64 D,.int .i64 C,.int .i64 z,.int .i64 k,.int .i64 f,.int .i64 o,.int .i64 m,.int .i64 r]) rfl rfl 164 _ Z hi rfl b9 ?_))
    clear a7;have q:=setRow_heap WN T.heap.size _ (#[.int .i64 D,.int .i64 C,.int .i64 z,.int .i64 k,.int .i64 f,.int .i64 o,.int .i64 m,.int .i64 r]) 164 _ Z;replace F:=EQ F (A' _) (#[.int .i64 D,.int .i64 C,.int .i64 z,.int .i64 k,.int .i64 f,.int .i64 o,.int .i64 m,.int .i64 r]);generalize WN.setRow T.heap.size (#[.int .i64 D,.int .i64 C,.int .i64 z,.int .i64 k,.int .i64 f,.int .i64 o,.int .i64 m,.int .i64 r])=W at q F ⊢;have d7:T.heap.size<W.heap.size:=(U'.1 q).1;have O:=V.af F;have d6:B<T.heap.size:=V.lt;have eW:=e2.trans (F.mono (by omega));generalize T.heap.size=G2 at q d7 d6 ⊢;clear Z c0 f2 F V e2 c2 s2 d8;apply Zp (λt W2=>∃ U,CMap W2 B U/\(∀ u,DT U u=if u=⟨D,⟨C,z⟩,⟨k,f,o,m,r⟩⟩then n+1 else DT c u)/\W2.heap[G2]?=some (.cells (vtA ⟨D,⟨C,z⟩,⟨k,f,o,m,r⟩⟩) 164 (0,0))/\Below B W W2)
    .intro K2 HK2;refine wp_region_held (S:=λw':World=>w'.heap[G2]?=some (.cells (vtA ⟨D,⟨C,z⟩,⟨k,f,o,m,r⟩⟩) 164 (0,0))) (by kernel_rfl) ?_;have L:(λw':World=>w'.heap[G2]?=some (.cells (vtA ⟨D,⟨C,z⟩,⟨k,f,o,m,r⟩⟩) 164 (0,0))) W.drew:=q;have c5:CMap W.drew B c:=O.jv rfl;refine Bd (i:=0) 33 (v:=.map (some B)) rfl rfl (by kernel_rfl) (by kernel_rfl) (by kernel_rfl) (λ_ _ _ h=>h) (qh ⟨by rfl,λ_ _=>by kernel_rfl⟩) L ?_;simp only[Act.put,ml,mq,mw];refine Bd (i:=1) 34 (v:=.agg (vtA ⟨D,⟨C,z⟩,⟨k,f,o,m,r⟩⟩)) rfl rfl (by kernel_rfl) (by kernel_rfl) (by kernel_rfl) (λ_ _ _ h=>h) (fp (by rfl) (.tmp 10) rfl G2 rfl ⟨D,⟨C,z⟩,⟨k,f,o,m,r⟩⟩ (λw' f7=>f7)) L ?_;simp only[Act.put,ml,mq,mw];obtain⟨ca,cd,t,w5,K,J,e9,c1,b5,k5⟩:=c5.entry ⟨D,⟨C,z⟩,⟨k,f,o,m,r⟩⟩;have P:DT c ⟨D,⟨C,z⟩,⟨k,f,o,m,r⟩⟩=n:=c6;rw[P]at K J c1
     have I:w5.heap[G2]?=some (.cells (vtA ⟨D,⟨C,z⟩,⟨k,f,o,m,r⟩⟩) 164 (0,0)):=(k5 G2 (by omega)).trans L;obtain⟨w6,Q,f1,b6,k6⟩:=J.store (n+1);have a6:w6.heap[G2]?=some (.cells (vtA ⟨D,⟨C,z⟩,⟨k,f,o,m,r⟩⟩) 164 (0,0)):=(k6 G2 (by omega)).trans I;have a2:=c5.look ⟨D,⟨C,z⟩,⟨k,f,o,m,r⟩⟩;rw[P]at a2
     have a3:=J.look ⟨D,⟨C,z⟩,⟨k,f,o,m,r⟩⟩;rw[c1,P]at a3
     have c4:Hid (∃ U,CMap w6 B U/\(∀ u,DT U u=if u=⟨D,⟨C,z⟩,⟨k,f,o,m,r⟩⟩then n+1 else DT c u)/\w6.heap[G2]?=some (.cells (vtA ⟨D,⟨C,z⟩,⟨k,f,o,m,r⟩⟩) 164 (0,0))/\Below B W w6):=⟨_,f1,λu=>by rw[Vx (n:=n) e9,c1],a6,((Below.refl B W).drew.trans b5).trans b6⟩;refine cV (i:=2) (i':=4) (by kernel_rfl) (Zk (i:=2) (d:=35) rfl (by kernel_rfl) rfl 272 (.tmp 33) (.tmp 34) rfl (.map (some B)) (.agg (vtA ⟨D,⟨C,z⟩,⟨k,f,o,m,r⟩⟩)) (.int .i64 (n:Int)) (by kernel_rfl) (by kernel_rfl) a2 ⟨L,?_⟩) (UE (i:=4) (d:=37) rfl (by kernel_rfl) rfl 272 (.tmp 33) (.tmp 34) rfl (.map (some B)) (.agg (vtA ⟨D,⟨C,z⟩,⟨k,f,o,m,r⟩⟩)) (.tuple #[.int .i64 (n:Int),.int .i64 (t:Int)]) (by kernel_rfl) (by kernel_rfl) K ⟨I,?_⟩)
     .simp only[Act.put,ml,mq,mw];refine Bd (i:=3) 36 (v:=.int .i64 ((n+1:Nat):Int)) rfl rfl (by kernel_rfl) (by kernel_rfl) (by kernel_rfl) (λ_ _ _ h=>h) (OG (by rfl) (.tmp 35) rfl n (n+1) rfl rfl (by omega)) L ?_;simp only[Act.put,ml,mq,mw];refine Em (i:=4) (by kernel_rfl) (UE (i:=4) (d:=37) rfl (by kernel_rfl) rfl 272 (.tmp 33) (.tmp 34) rfl (.map (some B)) (.agg (vtA ⟨D,⟨C,z⟩,⟨k,f,o,m,r⟩⟩)) (.tuple #[.int .i64 (n:Int),.int .i64 (t:Int)]) (by kernel_rfl) (by kernel_rfl) K ⟨I,?_⟩);simp only[Act.put,ml,mq,mw];refine Bd (i:=5) 38 (v:=.int .i64 (t:Int)) rfl rfl (by kernel_rfl) (by kernel_rfl) (by kernel_rfl) (λ_ _ _ h=>h) (qh ⟨by rfl,λ_ _=>by kernel_rfl⟩) I ?_;simp only[Act.put,ml,mq,mw];refine Em (i:=6) (by kernel_rfl) (QN (i:=6) rfl (by kernel_rfl) rfl 272 (.tmp 33) (.tmp 38) (.tmp 36) rfl (.map (some B)) (.int .i64 (t:Int)) (.int .i64 ((n+1:Nat):Int)) (by kernel_rfl) (by kernel_rfl) (by kernel_rfl) Q ⟨a6,?_⟩);exact wpAnyH_done (by kernel_rfl) (HK2.out t _ c4.out) _
     .simp only[Act.put,ml,mq,mw];refine Bd (i:=5) 38 (v:=.int .i64 (t:Int)) rfl rfl (by kernel_rfl) (by kernel_rfl) (by kernel_rfl) (λ_ _ _ h=>h) (qh ⟨by rfl,λ_ _=>by kernel_rfl⟩) I ?_;simp only[Act.put,ml,mq,mw];refine Em (i:=2) (by kernel_rfl) (Zk (i:=2) (d:=35) rfl (by kernel_rfl) rfl 272 (.tmp 33) (.tmp 34) rfl (.map (some B)) (.agg (vtA ⟨D,⟨C,z⟩,⟨k,f,o,m,r⟩⟩)) (.int .i64 (n:Int)) (by kernel_rfl) (by kernel_rfl) a3 ⟨I,?_⟩);simp only[Act.put,ml,mq,mw];refine Bd (i:=3) 36 (v:=.int .i64 ((n+1:Nat):Int)) rfl rfl (by kernel_rfl) (by kernel_rfl) (by kernel_rfl) (λ_ _ _ h=>h) (OG (by rfl) (.tmp 35) rfl n (n+1) rfl rfl (by omega)) I ?_;simp only[Act.put,ml,mq,mw];refine Em (i:=6) (by kernel_rfl) (QN (i:=6) rfl (by kernel_rfl) rfl 272 (.tmp 33) (.tmp 38) (.tmp 36) rfl (.map (some B)) (.int .i64 (t:Int)) (.int .i64 ((n+1:Nat):Int)) (by kernel_rfl) (by kernel_rfl) (by kernel_rfl) Q ⟨a6,?_⟩);exact wpAnyH_done (by kernel_rfl) (HK2.out t _ c4.out) _
    intro t W5 e7;obtain⟨U,J,b1,q5,b5⟩:=e7;have e5:=eW.trans b5;have c9:=J.look ⟨D,⟨C,z⟩,⟨k,f,o,m,r⟩⟩;rw[b1,if_pos rfl]at c9
    have e3:Hid (∀ v,DT U v=BK (Ae ((ac.take (j+1)).map (·.vs)).flatten s) v):=λv=>by rw[b1,a5.out v,HC.out v]
    have e1:Hid (CMap W5 B U):=J;clear b1 J q eW b5 O HC;have a9:((n+1:Nat):Int)=(n:Int)+1:=by omega
    rw[a9]at c9
    by_cases g1:N<2*(n+1)
    .have HCH:Hid (ID (D2 ac s) N=⟨k,f,o,m,r⟩/\IE (D2 ac s) N=0):=by
      refine J0 (v:=⟨D,⟨C,z⟩,⟨k,f,o,m,r⟩⟩) (RO ?_ ?_)
      .have g:=gv a0.out s;rw[HN.out]at g
       exact g
      .have g:=dA (Ae ((ac.take (j+1)).map (·.vs)).flatten s) (Ae ((ac.drop (j+1)).map (·.vs)).flatten s) ⟨D,⟨C,z⟩,⟨k,f,o,m,r⟩⟩;rw[<- DP,<- List.flatten_append,<- mK,nv,c3.out]at g
       show N<2*BK (D2 ac s) ⟨D,⟨C,z⟩,⟨k,f,o,m,r⟩⟩;unfold D2;omega
     have a8:(N:Int)<2*((n:Int)+1):=by omega
     have x3:W5.cell? ⟨G2,3,none⟩=some (.int .i64 k):=cell_of_row _ _ 3 _ _ _ q5;have x4:W5.cell? ⟨G2,4,none⟩=some (.int .i64 f):=cell_of_row _ _ 4 _ _ _ q5;have x5:W5.cell? ⟨G2,5,none⟩=some (.int .i64 o):=cell_of_row _ _ 5 _ _ _ q5;have x6:W5.cell? ⟨G2,6,none⟩=some (.int .i64 m):=cell_of_row _ _ 6 _ _ _ q5;have x7:W5.cell? ⟨G2,7,none⟩=some (.int .i64 r):=cell_of_row _ _ 7 _ _ _ q5;have rR:=(e5.block w.heap.size b7).trans rr;have b8:(#[.int .i64 k,.int .i64 f,.int .i64 o,.int .i64 m,.int .i64 r]:Array Value).all (·.oneCell')=true:=by simp[Value.oneCell']
     go_wp2_with ((with_reducible (refine Da ?_));first|(refine wpList_load_row rfl 164 (.tmp 10) rfl G2 rfl 164 _ (0,0) _ q5 underlying164 rfl hi ?_)|(refine wpList_store_row rfl 24 (.tmp 4) (.tmp 47) rfl w.heap.size #[.int .i64 k,.int .i64 f,.int .i64 o,.int .i64 m,.int .i64 r] rfl rfl 24 _ rR bU rfl b8 ?_))
     have q9:=setRow_heap W5 w.heap.size _ (#[.int .i64 k,.int .i64 f,.int .i64 o,.int .i64 m,.int .i64 r]) 24 _ rR;have d9:=EQ (bb.trans (e5.mono (by omega))) (A' _) (#[.int .i64 k,.int .i64 f,.int .i64 o,.int .i64 m,.int .i64 r]);refine bodyPost_ret (fF rfl _ _ w.heap.size 24 _ (0,0) _ rfl q9 underlying24 rfl bU) rfl ?_;rw[HCH.out.1,HCH.out.2];exact⟨rfl,d9⟩
    .have a8:¬ (N:Int)<2*((n:Int)+1):=by omega
     have e4:Hid (∀ v,2*BK (Ae ((ac.take (j+1)).map (·.vs)).flatten s) v<=N):=λv=>by
      rw[a5.out v];split
      .omega
      .exact HL.out v
     clear a5 c3 HL;go_wp2_with ((with_reducible (refine Da ?_));(refine wpList_load_row rfl 164 (.tmp 10) rfl G2 rfl 164 _ (0,0) _ q5 underlying164 rfl hi ?_))
     go_roundw
     case rel=>exact⟨j+1,U,by omega,by go_num,e1.out,e3.out,e4.out,e5⟩
     case measure=>simp[intOf];omega
  .have HCH:Hid (ID (D2 ac s) N=⟨0,0,0,0,0⟩/\IE (D2 ac s) N=9):=by
    refine Jz (X9 λv=>?_);have g:=HL.out v;rw[mr (by have:=HN.out;omega)]at g
    exact g
   have rR:=(E.block w.heap.size b7).trans rr;go_wp2_with ((with_reducible (refine Da ?_));(refine wpList_store_row rfl 24 (.tmp 4) (.tmp 49) rfl w.heap.size zV5 rfl rfl 24 _ rR bU rfl f8 ?_))
   have q9:=setRow_heap wr w.heap.size _ (zV5) 24 _ rR;have d9:=EQ (bb.trans (E.mono (by omega))) (A' _) (zV5);refine bodyPost_ret (fF rfl _ _ w.heap.size 24 _ (0,0) _ rfl q9 underlying24 rfl bU) rfl ?_;rw[HCH.out.1,HCH.out.2];exact⟨rfl,d9⟩
theorem ki{c:Nat}(d:x.a=some ⟨b,c,none⟩)(j:Nat)(f:j<x.n):(Instr.indexAt 225 x.v (iv (j:Int))).run prog W=.ok (pt b (c+3*j)) W:=by
 unfold S3.v;rw[d];exact Nn (P:=prog) (e:=107) (z:=3) underlying225 (by kernel_rfl) (by kernel_rfl) f _ rfl
theorem fM{k:Nat}{a:Acc}{y:S3}(h:W.rangeAt b k [iv a.p.r,iv a.p.n,S3.v y]):(Instr.loadAt 107 (pt b k)).run prog W=.ok (.agg #[iv a.p.r,iv a.p.n,S3.v y]) W:=by
 have c:=run_loadVar_mid (P:=prog) W b k 107 _ _ h underlying107 rfl (by kernel_rfl);simp only[Instr.loadAt,Instr.sureAddr,Sem.run_bind,Sem.run_pure,Result.andThen_ok];exact c
theorem XB(h:(0<=s/\s<=39)/\(1<=(ac.length:Int)/\(ac.length:Int)<=5))(b:∀ a∈ac,Ag a):CR ac s=ID (D2 ac s) ac.length/\CZ ac s=IE (D2 ac s) ac.length:=by
 cases ho:Hj (D2 ac s) ac.length with
 | none=>rw[(Jz ho).1,(Jz ho).2];exact XC h b ho
 | some v=>rw[(J0 ho).1,(J0 ho).2];exact XD h b ho
theorem Li(x:Value)(ac:List Acc)(s:Int)(w:World)(h:Sac w x ac)(ht:NTab w) :
  Calls prog 147 #[x,.int .i64 s] w λe w'=>e=.returned (.tuple #[.agg (cmC (CR ac s)),.int .i64 (CZ ac s)])/\Bw w w':=by
 have a1:=h.len;obtain⟨a,i,rfl⟩:=h.shape;obtain⟨y,H⟩:∃ y:S3,y=⟨a,ac.length,i⟩:=⟨_,rfl⟩;have a2:y.n=ac.length:=by rw[H]
 rw[show(.slice a ac.length i:Value)=y.v by rw[H]]at h ⊢
 clear H;refine tIn [] func147 trivial (tR 9 [1,0] λb _ _=>?_);by_cases L:0<=s/\s<=39
 .refine tC1 1 (λF C=>Ew (r:=true) (P' L)) λ_=>tR 4 [] λa3 _ _=>?_;by_cases h2:y.n<1
  .refine tV 6 (.bool true) (λF C=>(rLt (t:=3) (m:=(y.n:Int)) (n:=1) (x:=(.tmp 14)) (y:=(.const (iv 1))) (P' (by omega)))) ?_;refine tR 14 [0,0] λa4 _ _=>tX λF C=>qE2 4 5 24 0 (b 0) #[iv 0,iv 0,iv 0,iv 0,iv 0] (iv 2) λ_=>by rw[(DA (ac:=ac) (s:=s) (by omega)).1,(DA (ac:=ac) (s:=s) (by omega)).2];exact⟨rfl,CgQ.af C⟩
  .refine tV 6 (.bool false) (λF C=>(rLt (t:=3) (m:=(y.n:Int)) (n:=1) (x:=(.tmp 14)) (y:=(.const (iv 1))) (G' (by omega)))) (tR 4 [] λa5 _ _=>?_);by_cases h3:5<y.n
   .refine tV 11 (.bool true) (λF C=>(rGt (t:=3) (m:=(y.n:Int)) (n:=5) (x:=(.tmp 19)) (y:=(.const (iv 5))) (P' (by omega)))) ?_;refine tR 9 [0,0] λa6 _ _=>tX λF C=>qE2 4 5 24 0 (b 0) #[iv 0,iv 0,iv 0,iv 0,iv 0] (iv 2) λ_=>by rw[(DA (ac:=ac) (s:=s) (by omega)).1,(DA (ac:=ac) (s:=s) (by omega)).2];exact⟨rfl,CgQ.af C⟩
   .refine tV 11 (.bool false) (λF C=>(rGt (t:=3) (m:=(y.n:Int)) (n:=5) (x:=(.tmp 19)) (y:=(.const (iv 5))) (G' (by omega)))) ?_;have N:(0<=s/\s<=39)/\(1<=(ac.length:Int)/\(ac.length:Int)<=5):=by omega
    refine tR 12 [] λa7 _ _=>Fu 41 [(0,S3.v y),(1,iv s),(4,pt (b 0) 0),(23,S3.v y),(24,iv (y.n:Int)),(25,iv 0)] [true] [⟨(b 0),.cells #[iv 0,iv 0,iv 0,iv 0,iv 0] 24,.l,false⟩] [] (λkk ee LL o=>∃ (j:Nat),kk=y.n-j/\ee=[(0,S3.v y),(1,iv s),(4,pt (b 0) 0),(23,S3.v y),(24,iv (y.n:Int)),(25,iv (j:Int))]/\LL=[⟨(b 0),.cells #[iv 0,iv 0,iv 0,iv 0,iv 0] 24,.l,false⟩]/\o=[]/\j<=ac.length/\∀ a∈ac.take j,Ag a) (y.n) ⟨0,rfl,rfl,rfl,rfl,by omega,λa u=>(by simp at u)⟩ (λF=>trivial) ?_;rintro k _ _ _ ⟨j,rfl,rfl,rfl,rfl,hj,d⟩ _ _ _ J hJ;refine tR 5 [] λa8 _ _=>?_;by_cases h4:j<y.n
    .refine tI ((decide ((j:Int)<(y.n:Int)))) true (P' (by omega)) ?_;obtain⟨A,B⟩:∃ A,ac[j]?=some A:=⟨_,H' (by omega)⟩;obtain⟨bb,K,yl,I,G,hr,P⟩:=h.spot j A B;obtain⟨z,rfl⟩:=P.s3;refine tR 5 [] λa9 _ _=>tV 0 (pt bb (K+3*j)) (λF C=>(ki I j (by omega))) (tV 1 (.agg #[iv A.p.r,iv A.p.n,S3.v z]) (λF C=>(fM (a:=A) (Tj (CgQ.af C) G hr))) (tR 6 [0,0,1,0,1] λR _ _=>tC1 1 (λF C=>Jo A.p z.v A.vs _ (P.af (CgQ.af C)) (ht.af (CgQ.af C))) λ_=>tR 7 [] λS _ _=>?_));by_cases q:Ag A
     .have f:F4 ⟨A.p,A.vs⟩=0:=if_pos q;refine tI (((F4 ⟨A.p,A.vs⟩) != 0)) false (by rw[f];decide) (tR 3 [] λT _ _=>tV 0 (iv ((j:Int)+1)) (λF C=>(Bj 25 (j:Int) underlying3 (by omega))) (tR 2 [] λU _ _=>tB hJ (y.n-(j+1)) (by omega) [true,false] ⟨j+1,rfl,rfl,rfl,rfl,by omega,λa u=>by rw[oQ,B]at u;exact(Q'.1 u).elim (d a) λg=>by rw[show a=A by simpa using g];exact q⟩ (λF=>trivial)))
     .have f:F4 ⟨A.p,A.vs⟩=5:=if_neg q;have M:=Vr N λg=>q (g A (mD B));refine tI (((F4 ⟨A.p,A.vs⟩) != 0)) true (by rw[f];decide) ?_;refine tR 7 [0,0] λV _ _=>tX λF C=>qE2 4 5 24 0 (b 0) #[iv 0,iv 0,iv 0,iv 0,iv 0] (iv (F4 ⟨A.p,A.vs⟩)) λ_=>by rw[f,M.1,M.2];exact⟨rfl,CgQ.af C⟩
    .refine tI ((decide ((j:Int)<(y.n:Int)))) false (G' (by omega)) ?_;rw[mr (show ac.length<=j by omega)]at d
     obtain⟨X,O⟩:∃ X,ID (D2 ac s) ac.length=X:=⟨_,rfl⟩;obtain⟨E,f⟩:∃ E,IE (D2 ac s) ac.length=E:=⟨_,rfl⟩;have Q:=λW g=>YX y.v ac s W g (by omega) d;have D:=XB N d;rw[O,f]at D
     simp only[O,f]at Q;refine tR 5 [] λY _ _=>tC1 2 (λF C=>Q _ (h.af (CgQ.af C))) λ_=>tR 5 [0,0] λZ _ _=>tX λF C=>qE2 4 5 24 0 (b 0) #[iv X.k,iv X.c,iv X.s,iv X.n,iv X.v] (iv E) λ_=>by rw[D.1,D.2];exact⟨rfl,CgQ.af C⟩
 .refine tC1 1 (λF C=>Ew (r:=false) (G' L)) λ_=>tR 19 [0,0] λa0 _ _=>tX λF C=>qE2 4 5 24 0 (b 0) #[iv 0,iv 0,iv 0,iv 0,iv 0] (iv 2) λ_=>by rw[(DA (ac:=ac) (s:=s) (by omega)).1,(DA (ac:=ac) (s:=s) (by omega)).2];exact⟨rfl,CgQ.af C⟩
theorem LO{g:Gh}{x:NX}(b:w.heap[nb]?=some (.cells (AF i ob p x) 123))(a:j<5):w.rangeAt nb (18+3*j) [iv (p.av.al j).p.r,iv (p.av.al j).p.n,S3.v (x.hv j)]:=by
 rcases qk a with rfl|rfl|rfl|rfl|rfl<;>exact Rd b _ _ rfl
theorem QH{x:NX}(h:NodeAt g w i nb ob x p):Sac w (.slice (some ⟨nb,18,none⟩) 5 5) p.av.gC:=by
 refine⟨⟨some ⟨nb,18,none⟩,5,rfl,.inr ⟨nb,18,rfl,rl h.row,λj A a=>?_⟩⟩,by show 5<=3518437208780;decide⟩;have b:j<5:=by have:=(V'.1 a).1;exact this
 refine⟨S3.v (x.hv j),?_⟩;have c:=LO (g:=g) h.row b;have d:=(h.al j b).s;rcases qk b with rfl|rfl|rfl|rfl|rfl<;>(simp[Rnd.gC]at a;subst a;exact⟨c,d⟩)
theorem X7(h:40<=s):CZ ac s≠0:=by rw[(DA (by omega)).2];decide
theorem XA{n:Nat}(h:CZ ac (n:Int)=0):n<=39:=by
 rcases mZ 39 n with h2|h2
 .exact absurd h (X7 (by omega))
 .exact h2
theorem AZ.at{L:List Sh}(h:AZ L W)(k b:Nat)(o:Obj)(t:Tg)(a:L[k]?=some ⟨b,o,t,false⟩):W.heap[b]?=some o:=h _ (mD a)
theorem Gb(h:NS i nb ob g w p ls ts){w0:World}(hB:Base w0 g w)(hT:Tabs w0)(hb:p.ae.length<=40) :
  Calls prog 114 #[pt nb 0] w (NP i nb ob g w (.tuple #[]) p.qv ls ts):=by
 obtain⟨x,lt,tl,hN,hO,hg⟩:=h;refine gI (fn:=f114) (TN i) g func114 hg (qN hN (qO hO (qR [] 1 [] λs1 g1 w1 c1=>Cc 34 [(0,pt nb 0)] [false,false] [] (λk O Q e L=>∃ l:List Cmd,e=[(0,pt nb 0)]/\L=[]/\NS i nb ob O Q { p with ae:=l } ls ts/\FG k p.av l=FG 41 p.av p.ae/\41<=l.length+k/\l.length<=41/\Cg w.heap.size (TN i) g w O Q) (by kernel_rfl) (by kernel_rfl) (by kernel_rfl) (by kernel_rfl) 41 (λK=>?_) ?_)))
 .have C2:=c1;exact⟨p.ae,rfl,rfl,(nsC hN hO C2 K),rfl,by omega,by omega,(c1.nil (TN i))⟩
 .rintro k gr wr _ zr _ ⟨l,rfl,rfl,hM,hI,hk1,hk2,hC⟩ J hJ;obtain⟨b,H,M,a,u,a7⟩:=hM;refine qN a (qO u ?_);have q:b.ae.n=l.length:=a.ae.num;refine qR [] 15 [19,0,2,4,6,8,10,12,14,16,18,20,0,22] λs3 g3 w3 y=>Ct 34 (λO Q e L=>∃ (bA:Nat),e=[(0,pt nb 0),(2,pt bA 0),(3,iv (CZ p.av.gC (b.ae.n:Int)))]/\L=[⟨nb,.cells (AF i ob ({ p with ae:=l }) b) 123,.n 0 i,false⟩,⟨ob,.cells #[S3.v H,S3.v M] 96,.n 50 0,false⟩,⟨bA,.cells #[iv (CR p.av.gC (b.ae.n:Int)).k,iv (CR p.av.gC (b.ae.n:Int)).c,iv (CR p.av.gC (b.ae.n:Int)).s,iv (CR p.av.gC (b.ae.n:Int)).n,iv (CR p.av.gC (b.ae.n:Int)).v] 24,.l,false⟩]/\Cg w.heap.size [] gr wr O Q) (by kernel_rfl) ?_ ?_
  .intro J hJ;refine Du 12 16 (by kernel_rfl) ?_ ?_
   .have hS6:=QH (a.ch y);have W:=hB.ch (((hC.n y))) (Bx i);refine qC 12 (Li _ _ (b.ae.n:Int) w3 hS6 (W.tn hT)) ?_;rintro e' w7 ⟨rfl,Z⟩;refine⟨_,rfl,Z,?_⟩;have c7:=Cg.ed (B:=w.heap.size) (T:=[]) (g:=g3) Z;refine qR [] 7 [26,28,30,33,1,0,35,2,0,36] λs8 g8 w8 c8=>qB [true,true,true] λz N K=>hJ _ _ _ z _ ⟨(s8 0),rfl,rfl,((y.trans c7).trans c8)⟩ K
   .refine qR [] 1 [1,0] λs9 g9 w9 V=>?_;have G:=QH (a.ch (y.trans V));have F:=hB.ch (hC.trans ((y.trans V).nil _)) (Bx i);refine qC 12 (Li _ _ (b.ae.n:Int) w9 G (F.tn hT)) ?_;rintro e' b2 ⟨rfl,A⟩;refine⟨_,rfl,A,?_⟩;have S:=Cg.ed (B:=w.heap.size) (T:=[]) (g:=g9) A;refine qR [] 6 [26,28,30,35,2,0,36] λa9 a2 b3 U=>qB [true,true,true] λz N K=>hJ _ _ _ z _ ⟨(s9 0),rfl,rfl,(((y.trans V).trans S).trans U)⟩ K
  .rintro g4 w4 _ z4 _ ⟨bA,rfl,rfl,hc⟩;refine qR [] 6 [] λb0 a3 b4 o=>?_;by_cases P:CZ p.av.gC (b.ae.n:Int)≠0
   .refine qI (((CZ p.av.gC (b.ae.n:Int)) != 0)) true (by simpa using P) (qE (.tuple #[]) λK=>?_);have hE:p.qv={ p with ae:=l }:=by unfold Nod.qv;rw[<- hI];cases k with|zero=>rfl|succ k=>rw[FG,if_neg (by rw[<- q];exact P)]
    rw[hE];exact⟨_,rfl,(nsC a u (hc.n o) K),((hC.n hc).n o)⟩
   .refine qI (((CZ p.av.gC (b.ae.n:Int)) != 0)) false (by simpa using P) ?_;have E:CZ p.av.gC (b.ae.n:Int)=0:=by simpa using P
    have a0:l.length<=39:=by rw[<- q];exact XA E
    obtain⟨k,rfl⟩:∃ k1,k=k1+1:=⟨k-1,by omega⟩;refine qR [] 10 [12,0,2,4,6,8,10,0,12,2,15,0,0] λI a4 b5 r=>K3 8 (x:=b.ae) 49 49 24 5 40 (.agg #[iv 0,iv 0,iv 0,iv 0,iv 0]) ⟨(I 0),0,none⟩ 1 1 [iv (CR p.av.gC (b.ae.n:Int)).k,iv (CR p.av.gC (b.ae.n:Int)).c,iv (CR p.av.gC (b.ae.n:Int)).s,iv (CR p.av.gC (b.ae.n:Int)).n,iv (CR p.av.gC (b.ae.n:Int)).v] (a.ae.ch ((hc.trans o).trans r) (by simp) (by simp)) (by kernel_rfl) (by kernel_rfl) (by kernel_rfl) underlying49 (by kernel_rfl) (by kernel_rfl) (by decide) (by decide) rfl (by simp[Value.oneCell']) (λK=>Dx K 3 (I 0) [iv (CR p.av.gC (b.ae.n:Int)).k,iv (CR p.av.gC (b.ae.n:Int)).c,iv (CR p.av.gC (b.ae.n:Int)).s,iv (CR p.av.gC (b.ae.n:Int)).n,iv (CR p.av.gC (b.ae.n:Int)).v] 24 .z true (by kernel_rfl)) (by unfold maxLen;omega) (by omega) ?_;intro Y a5 b6 R a8 D a1;have C:=D w.heap.size [.n 3 i] (D'.2 rfl);refine qR [.n 0 i] 6 [18,20,22,25,0,1] λb1 a6 b8 t=>EO J 34 [(0,pt nb 0)] [false,false,false,false] [] (by kernel_rfl) (by kernel_rfl) (by kernel_rfl) (by kernel_rfl) (by kernel_rfl) (λz N K=>?_);have X:CR p.av.gC (b.ae.n:Int)=CR p.av.gC (l.length:Int):=by rw[q]
    refine hJ k _ _ _ z _ (by omega) ⟨l++[CR p.av.gC (l.length:Int)],rfl,rfl,?_,?_,by simp;omega,by simp;omega,(((((hC.n hc).n o).n r).trans (C.mono (by simp[TN]))).trans (t.mono (by simp[TN])))⟩ K
    skip
    have d:=((((hc.nil ([.n 3 i,.n 0 i]:List Tg)).n o).n r).m C).m t;have j:Tg.z∉([.n 3 i,.n 0 i]:List Tg):=by simp
    .rw[<- X];exact⟨{ b with ae:=Y },H,M,N.nd 0 (a.tape.ch d j) (a.ic.ch d j) (BA a.al d j) (Ci a.br d j (by simp)) (a.fa.ch d) (by rw[Cw];exact R.ch t) (a.au.ch d) (a.bw.ch d) a.rF,u.ch d j (by simp<;>omega),N.new⟩
    .rw[<- hI,FG,if_pos (by rw[<- q];exact E)]
theorem NK(h:NS i nb ob g w p ls ts){w0:World}(hB:Base w0 g w)(hT:Tabs w0)(j:Nat)(hj:j<5)(v:Vt)(hb:p.ae.length<=40) :
  Calls prog 117 #[pt nb 0,iv (j:Int),.agg #[iv v.bn,iv v.b.r,iv v.b.n,iv v.w.k,iv v.w.c,iv v.w.s,iv v.w.n,iv v.w.v]] w (NP i nb ob g w (.tuple #[]) (p.count j v) ls ts):=by
 obtain⟨x,lt,tl,d,hO,hg⟩:=h;refine gI (fn:=f117) (TN i) g func117 hg (qN d (qO hO (qR [] 15 [0,0,9,0,2,2,4,6,8,10,12,14,0] λs1 g1 w1 C=>?_)));by_cases S:v.b≠p.av.fv
 .refine qT 8 (.bool true) (λ_=>(IM (x:=(.tmp 9)) (y:=(.tmp 15)) v.b p.av.fv S)) (qR [] 2 [] λs2 g2 w2 c2=>qE (.tuple #[]) λK=>?_);rw[show p.count j v=p from if_pos S];exact⟨_,rfl,(nsC d hO (C.n c2) K),((C.nil (TN i)).n c2)⟩
 .have h10:v.b=p.av.fv:=by simpa using S
  refine qT 8 (.bool false) (λ_=>(IL (x:=(.tmp 9)) (y:=(.tmp 15)) v.b p.av.fv h10)) (qR [] 11 [16,0,2,4,6,8,10] λs4 g4 w4 G=>?_);refine Qw 6 (pt nb (18+3*j)) false (λW hW=>by rcases qk hj with rfl|rfl|rfl|rfl|rfl<;>kernel_rfl) (by kernel_rfl) ?_;refine qU 7 (.agg #[iv (p.av.al j).p.r,iv (p.av.al j).p.n,S3.v (x.hv j)]) (λW hW=>(fM (LO (g:=g) (AZ.at (hW rfl) 0 nb (.cells (AF i ob p x) 123) (.n 0 i) (by kernel_rfl)) hj))) (qR [] 1 [16,2] λs6 g6 w6 H=>Ct 42 (λg' w' e L=>∃ (ys:S3) (bA:Nat),e=[(0,pt nb 0),(1,iv (j:Int)),(6,pt bA 0),(7,iv (Ba (p.av.al j) v))]/\L=[⟨nb,.cells (AF i ob p x) 123,.n 0 i,false⟩,⟨ob,.cells #[S3.v lt,S3.v tl] 96,.n 50 0,false⟩,⟨(s1 0),.cells #[iv v.bn,iv v.b.r,iv v.b.n,iv v.w.k,iv v.w.c,iv v.w.s,iv v.w.n,iv v.w.v] 164,.z,false⟩,⟨bA,.cells #[iv (BI (p.av.al j) v).r,iv (BI (p.av.al j) v).n,S3.v ys] 107,.l,false⟩]/\FSv g' w' ys (Br (p.av.al j) v)/\Cg w.heap.size [] g w g' w') (by kernel_rfl) ?_ ?_)
  .intro J hJ;refine Du 9 13 (by kernel_rfl) ?_ ?_
   .refine Af λa5=>?_;have b5:=((d.al j hj).ch ((C.trans G).trans H) (by simp)).s;have b3:=hB.ch ((C.trans G).trans H) (by simp);have b4:∀ z,w6.heap.size<=z->g6.t z=.z:=λz hz=>(a5.new z hz).1;refine qC 9 (Cv (p.av.al j).p _ (p.av.al j).vs v w6 b5 (b3.tn hT)) ?_;rintro e' e3 ⟨f3,rfl,a0,c5,M⟩;refine⟨_,rfl,M,?_⟩;have a7:=Cg.ed (B:=w.heap.size) (T:=[]) (g:=g6) M;obtain⟨a3,rfl,b6,E⟩:=Eo a0 b4 (by omega);refine qR [] 7 [20,22,24,27,1,0,29,3,0,30] λb8 d0 e4 O=>qB [true,true,true,true] λz K0 K=>hJ _ _ _ z _ ⟨a3,(b8 0),rfl,rfl,(E.ch O),((((C.trans G).trans H).trans a7).trans O)⟩ K
   .refine qR [] 1 [1,0] λb9 R a2 D=>Af λI=>?_;have Z:=((d.al j hj).ch (((C.trans G).trans H).trans D) (by simp)).s;have U:=hB.ch (((C.trans G).trans H).trans D) (by simp);have V:∀ z,a2.heap.size<=z->R.t z=.z:=λz hz=>(I.new z hz).1;refine qC 9 (Cv (p.av.al j).p _ (p.av.al j).vs v a2 Z (U.tn hT)) ?_;rintro e' e5 ⟨f4,rfl,a1,c7,N⟩;refine⟨_,rfl,N,?_⟩;have a8:=Cg.ed (B:=w.heap.size) (T:=[]) (g:=R) N;obtain⟨a4,rfl,b7,F⟩:=Eo a1 V (by omega);refine qR [] 6 [20,22,24,29,3,0,30] λd7 d1 e6 P=>qB [true,true,true,true] λz K0 K=>hJ _ _ _ z _ ⟨a4,(b9 0),rfl,rfl,(F.ch P),(((((C.trans G).trans H).trans D).trans a8).trans P)⟩ K
  .rintro g7 w7 _ z7 _ ⟨ys,bA,rfl,rfl,hys,hc⟩;refine qR [] 6 [] λd8 d2 e7 m=>?_;by_cases h2:Ba (p.av.al j) v≠0
   .refine qI (((Ba (p.av.al j) v) != 0)) true (by simpa using h2) (qE (.tuple #[]) λK=>?_);rw[show p.count j v=p from by unfold Nod.count;rw[if_neg S,if_pos h2]];exact⟨_,rfl,(nsC d hO (hc.n m) K),((hc.nil (TN i)).n m)⟩
   .refine qI (((Ba (p.av.al j) v) != 0)) false (by simpa using h2) (qR [] 10 [8,0,2,4,3,6,8,10,12] λd9 b1 c0 q=>Ct 42 (λg' w' e L=>e=[(0,pt nb 0)]/\L=[⟨nb,.cells (AF i ob ({ p with av:={ p.av with al:=upN p.av.al j ⟨BI (p.av.al j) v,Br (p.av.al j) v⟩ } }) ({ x with hv:=upN x.hv j ys })) 123,.n 0 i,false⟩,⟨ob,.cells #[S3.v lt,S3.v tl] 96,.n 50 0,false⟩,⟨(s1 0),.cells #[iv v.bn,iv v.b.r,iv v.b.n,iv v.w.k,iv v.w.c,iv v.w.s,iv v.w.n,iv v.w.v] 164,.z,false⟩,⟨bA,.cells #[iv (BI (p.av.al j) v).r,iv (BI (p.av.al j) v).n,S3.v ys] 107,.l,false⟩]/\True/\Cg w.heap.size ([.n 0 i]:List Tg) b1 c0 g' w') (by kernel_rfl) ?_ ?_)
    .intro J hJ;rcases qk hj with rfl|rfl|rfl|rfl|rfl <;>
     (refine qR [.n 0 i] 3 [14,17,0,1] λe0 d4 e9 a9=>?_;exact qB [true,true,true,true] λz K0 K=>hJ _ _ _ z _ ⟨rfl,rfl,trivial,a9⟩ K)
    rintro d3 e8 _ f5 _ ⟨rfl,rfl,_,u⟩;refine qR [] 2 [] λe1 b2 c3 A=>?_;rw[show p.count j v=Nod.qv { p with av:={ p.av with al:=upN p.av.al j ⟨BI (p.av.al j) v,Br (p.av.al j) v⟩ } }from by unfold Nod.count;rw[if_neg S,if_neg h2]];refine Af λK=>?_;have a:=((((hc.nil ([.n 0 i]:List Tg)).n m).n q).trans (u)).n A;have o:Tg.z∉([.n 0 i]:List Tg):=by simp
    have a6:NS i nb ob b2 c3 ({ p with av:={ p.av with al:=upN p.av.al j ⟨BI (p.av.al j) v,Br (p.av.al j) v⟩ } }) ls ts:=⟨{ x with hv:=upN x.hv j ys },lt,tl,K.nd 0 (d.tape.ch a o) (d.ic.ch a o) (λk hk=>(by show FSv _ _ (upN x.hv j ys k) (upN p.av.al j ⟨BI (p.av.al j) v,Br (p.av.al j) v⟩ k).vs;unfold upN;split;exact((((hys.ch m).ch q).ch u).ch A);exact(d.al k hk).ch a o)) (Ci d.br a o (by simp)) (d.fa.ch a) (d.ae.ch a) (d.au.ch a) (d.bw.ch a) d.rF,hO.ch a o (by simp<;>omega),K.new⟩;refine qS0 1 [false,false,true,true] (Gb a6 (hB.ch (((((hc.nil (TN i)).n m).n q).trans (u.mono (by simp[TN]))).n A) (Bx i)) hT hb) λd5 f0 f2 c8 c9 X Y b0=>qR [] 1 [] λe2 d6 f1 Q=>qF X Y Q (((((((hc.nil (TN i)).n m).n q).trans (u.mono (by simp[TN]))).n A).trans (b0)).n Q)
theorem PC(h:NS i nb ob g w p ls ts){o:World}(t:Base o g w)(u:Tabs o)(e:Nat)(l:Let)(A:CQ g w e l)(D:l.src<5)(v:p.ae.length<=40) :
  Calls prog 74 #[pt nb 0,pt e 0] w (NP i nb ob g w (.tuple #[]) (p.count l.src l.bN) ls ts):=by
 obtain⟨x,lt,N,k,m,y⟩:=h;refine gI (fn:=f74) (TN i) g func74 y (qN k (qO m ?_));obtain⟨G,H,a,B,C⟩:=A;refine Cr ⟨e,.cells (FF l G H) 166,.z,false⟩ (λ_=>⟨a.r,a.z,λh=>(by cases h),λh=>absurd rfl h⟩) (by kernel_rfl) ?_;refine qR [] 10 [9,0,2,4,6,8,2,10,12,14,16,2] λL I O b=>qS 9 [false,false,true] k m b (λq=>NK q (t.ch (b.nil (TN i)) (Bx i)) u l.src D l.bN v) λJ P R E F c d s=>qR [] 1 [] λM K Q j=>qF c d j (((b.nil (TN i)).trans (s)).n j)
theorem GV(q:List Cmd)(c:Cmd)(l:List Cmd):Hk q (c::l)=Hk (if q.length<40/\c∉q then q++[c]else q) l:=rfl
theorem DX{l:List Cmd}{c:Cmd}(h:l[j]?=some c):l.drop j=c::l.drop (j+1):=by
 obtain⟨a,b⟩:=V'.1 h;rw[<- b];exact m9 a
theorem cD(q l:List Cmd)(h:q.length<=40):(Hk q l).length<=40:=by
 induction l generalizing q with
 | nil=>exact h
 | cons c l ih =>
  rw[GV];refine ih _ ?_;split
  .rw[E'];show _+1<=_;omega
  .exact h
theorem JS(h:NS i nb ob g w p ls ts)(a:List Cmd)(I:S3)(hw:Rc g w I a)(hb:a.length<100000000)(hq:p.av.fa.length<=40) :
  Calls prog 119 #[pt nb 0,I.v] w (NP i nb ob g w (.tuple #[]) (p.dT a) ls ts):=by
 have c3:=h;obtain⟨x,lt,tl,hN,hO,hg⟩:=h;have d1:=hw.len;refine gI (fn:=f119) (TN i) g func119 hg (qN hN (qO hO (qR [] 4 [] λs1 g1 w1 R=>Af λK=>?_)));have N3:NS i nb ob g1 w1 p ls ts:=(nsC hN hO R K);refine qC 1 (Od N3) ?_;rintro e' w4 ⟨rfl,b4⟩;refine⟨_,rfl,b4,?_⟩;have c4:=Cg.ed (B:=w.heap.size) (T:=[]) (g:=g1) b4;refine qR [] 2 [] λs5 g5 w5 c5=>?_;by_cases h1:p.leads=true
 .refine qI ((!p.leads)) false (by simpa using h1) ?_;rw[show p.dT a={ p with av:={ p.av with fa:=Hk p.av.fa a } }from if_pos h1];refine qR [] 8 [] λs6 g6 w6 c6=>Cc 49 [(0,pt nb 0),(9,S3.v I),(10,iv (I.n:Int)),(11,iv 0)] [false,false] [] (λk g' w' e L=>∃ (j:Nat) (q:List Cmd),k=a.length-j/\j<=a.length/\e=[(0,pt nb 0),(9,S3.v I),(10,iv (I.n:Int)),(11,iv (j:Int))]/\L=[]/\NS i nb ob g' w' { p with av:={ p.av with fa:=q } } ls ts/\Hk q (a.drop j)=Hk p.av.fa a/\q.length<=40/\Cg w.heap.size (TN i) g w g' w') (by kernel_rfl) (by kernel_rfl) (by kernel_rfl) (by kernel_rfl) a.length (λK=>?_) ?_
  .have C7:=((R.n c4).n c5).n c6;exact⟨0,p.av.fa,rfl,by omega,rfl,rfl,(nsC hN hO C7 K),rfl,hq,((((R.nil (TN i)).n c4).n c5).n c6)⟩
  .rintro k gr wr _ zr _ ⟨j,q,rfl,hj,rfl,rfl,hM,hI,hq1,hC⟩ J hJ;obtain⟨xr,a6,a7,b,F,c7⟩:=hM;refine qN b (qO F ?_);have d0:xr.fa.n=q.length:=b.fa.num;refine qR [] 5 [] λs8 g8 w8 E=>?_;by_cases h2:j<a.length
   .refine qI ((decide ((j:Int)<(I.n:Int)))) true (P' (by omega)) ?_;obtain⟨c,H⟩:∃ c,a[j]?=some c:=⟨_,H' h2⟩;have a4:=hw.ch hC (Bx i);obtain⟨bx,ox,a0⟩:=hw.addr h2;refine qR [] 5 [] λs9 g9 w9 G=>qV 0 (pt bx (ox+5*j)) (Rb a0 j (by omega)) ?_;have a5:=a4.ch (E.trans G);refine qV 1 (.agg #[iv c.k,iv c.c,iv c.s,iv c.n,iv c.v]) (ZD c λq_ u hu=>a5.cellAt a0 H hu) (qR [] 12 [0,0,2,0,19,0,2,4,6,8,10,0,12] λd3 b0 e3 o=>?_);by_cases h3:(xr.fa.n:Int)<40
    .refine qT 7 (.bool true) (λ_=>(rLt (t:=3) (x:=(.tmp 21)) (y:=(.const (iv 40))) (P' h3))) (qR [] 8 [16,18,20,22,24,26,28,0,30,2] λd4 a3 e4 r=>qC 16 (F7 (l:=q) (b.fa.ch (((E.trans G).trans o).trans r) (by simp) (by simp)).rd (by omega) c) ?_);rintro e' e5 ⟨rfl,Q⟩;refine⟨_,rfl,Q,?_⟩;have C:=Cg.ed (B:=w.heap.size) (T:=[]) (g:=a3) Q;refine qR [] 3 [34,36] λd5 b1 e6 D=>?_;by_cases h4:c∈q
     .refine qI ((!(decide (c∈q)))) false (by simpa using h4) (qR [] 3 [] λd6 b2 e7 S=>qV 0 (iv ((j:Int)+1)) (Bj 11 (j:Int) underlying3 (by omega)) (qR [] 2 [] λd7 b3 e8 U=>qB [false,false,false] λz P K=>hJ (a.length-(j+1)) _ _ _ z _ (by omega) ⟨j+1,q,rfl,by omega,rfl,rfl,?_,?_,by omega,((((((((hC.n E).n G).n o).n r).n C).n D).n S).n U)⟩ K))
      .exact(nsC b F (((((((E.n G).n o).n r).n C).n D).n S).n U) P)
      .rw[<- hI,DX H,GV,if_neg (λh=>h.2 h4)]
     .refine qI ((!(decide (c∈q)))) true (by simpa using h4) (qR [] 10 [14,0,2,4,6,8,10,12,0,14,2,17,0,0] λa1 b5 e9 M=>K3 9 (x:=xr.fa) 49 49 24 5 40 (.agg #[iv 0,iv 0,iv 0,iv 0,iv 0]) ⟨(a1 0),0,none⟩ 1 1 [iv c.k,iv c.c,iv c.s,iv c.n,iv c.v] (b.fa.ch ((((((E.trans G).trans o).trans r).trans C).trans D).trans M) (by simp) (by simp)) (by kernel_rfl) (by kernel_rfl) (by kernel_rfl) underlying49 (by kernel_rfl) (by kernel_rfl) (by decide) (by decide) rfl (by simp[Value.oneCell']) (λK=>Dx K 3 (a1 0) [iv c.k,iv c.c,iv c.s,iv c.n,iv c.v] 24 .z true (by kernel_rfl)) (by unfold maxLen;omega) (by omega) ?_);intro a8 b6 f0 a2 d2 Z a9;have V:=Z w.heap.size [.n 2 i] (D'.2 rfl);refine qR [.n 0 i] 8 [20,22,24,26,29,0,1] λd8 b7 f1 N=>qV 0 (iv ((j:Int)+1)) (Bj 11 (j:Int) underlying3 (by omega)) (qR [] 2 [] λd9 b8 f2 O=>qB [false,false,false,false] λz P K=>hJ (a.length-(j+1)) _ _ _ z _ (by omega) ⟨j+1,(q++[c]),rfl,by omega,rfl,rfl,?_,?_,by simp;omega,((((((((((hC.n E).n G).n o).n r).n C).n D).n M).trans (V.mono (by simp[TN]))).trans (N.mono (by simp[TN]))).n O)⟩ K);have d:=(((((((((E.nil ([.n 2 i,.n 0 i]:List Tg)).n G).n o).n r).n C).n D).n M).m V).m N).n O;have A:Tg.z∉([.n 2 i,.n 0 i]:List Tg):=by simp
      .exact⟨{ xr with fa:=a8 },a6,a7,P.nd 0 (b.tape.ch d A) (b.ic.ch d A) (BA b.al d A) (Ci b.br d A (by simp)) (by rw[Cw];exact((a2.ch N).ch O)) (b.ae.ch d) (b.au.ch d) (b.bw.ch d) b.rF,F.ch d A (by simp<;>omega),P.new⟩
      .rw[<- hI,DX H,GV,if_pos ⟨by omega,h4⟩]
    .refine qT 7 (.bool false) (λ_=>(rLt (t:=3) (x:=(.tmp 21)) (y:=(.const (iv 40))) (G' h3))) (qR [] 16 [16,18,20,22,24,26,28,30,32,34,36] λe0 b9 f3 W=>qV 0 (iv ((j:Int)+1)) (Bj 11 (j:Int) underlying3 (by omega)) (qR [] 2 [] λe1 c0 f4 X=>qB [false,false,false] λz P K=>hJ (a.length-(j+1)) _ _ _ z _ (by omega) ⟨j+1,q,rfl,by omega,rfl,rfl,?_,?_,by omega,(((((hC.n E).n G).n o).n W).n X)⟩ K))
     .exact(nsC b F ((((E.n G).n o).n W).n X) P)
     .rw[<- hI,DX H,GV,if_neg (by omega)]
   .refine qI ((decide ((j:Int)<(I.n:Int)))) false (G' (by omega)) (qR [] 1 [] λe2 c2 f5 Y=>?_);obtain rfl:j=a.length:=by omega
    rw[nR]at hI
    refine qE (.tuple #[]) λK=>?_;rw[<- hI];exact⟨_,rfl,(nsC b F (E.n Y) K),((hC.n E).n Y)⟩
 .refine qI ((!p.leads)) true (by simpa using h1) (qE (.tuple #[]) λK=>?_);rw[show p.dT a=p from if_neg h1];exact⟨_,rfl,(nsC hN hO ((R.n c4).n c5) K),(((R.nil (TN i)).n c4).n c5)⟩
theorem Fl(h:NS i nb ob g w p ls ts){b:Bool}(a:p.leads=b) :
  Calls prog 113 #[pt nb 0] w λe w'=>e=.returned (.bool b)/\Bw w w':=by subst a;exact Od h
theorem Ye(p:Nod)(l:List Cmd):(p.dT l).br=p.br:=by unfold Nod.dT;split<;>rfl
theorem Mw(h:NS i nb ob g w p ls ts)(k:Nat)(l:Let)(F:CQ g w k l)(E:l.kind=6)(O:p.br.length<100000000)(v:l.fm.length<100000000)(R:p.av.fa.length<=40) :
  Calls prog 76 #[pt nb 0,pt k 0] w (NP i nb ob g w (.tuple #[]) (p.take l) ls ts):=by
 obtain⟨x,lt,tl,C,D,P⟩:=h;refine gI (fn:=f76) (TN i) g func76 P (qN C (qO D ?_));have s:=F;obtain⟨X,G,j,Q,y⟩:=F;refine Cr ⟨k,.cells (FF l X G) 166,.z,false⟩ (λ_=>⟨j.r,j.z,λh=>(by cases h),λh=>absurd rfl h⟩) (by kernel_rfl) ?_;refine qR [] 12 [0,0,0,0,5,0,3,2,4,4,6,8,2] λm g1 w1 b=>qS 5 [false,false,true,true,true] C D b (λI=>JS I l.fm G (y.ch (b.nil (TN i)) (Bx i)) v R) λg2 w2 H S V a e o=>?_;have hn:=a.ae.num;refine qR [] 15 [11,0,2,2,4,6,0,8,1,10,12,14,16,3,18,20] λs4 g4 w4 d=>?_;by_cases B:l.bn<(p.dT l.fm).ae.length
 .refine qI ((decide ((l.bn:Int)<(H.ae.n:Int)))) true (P' (by omega)) (qR [] 3 [1] λs5 N Z q=>?_);rw[show p.take l=(p.dT l.fm).wait (.tell l.src l.bn)from by unfold Nod.take;rw[E];exact if_pos B];refine Af λK=>?_;obtain⟨z1,z2⟩:=K.rk 1 (m 0) (.cells #[pt nb 0] 99) false (by kernel_rfl);obtain⟨z3,z4⟩:=K.rk 2 (m 1) (.cells #[pt k 0] 167) false (by kernel_rfl);have J:NS i nb ob N Z (p.dT l.fm) ls ts:=(nsC a e (d.n q) K);refine qS0 2 [true,true,true,false,false] (AU J (by rw[Ye];exact O) _ _ (.tell l.src l.bn) ⟨(m 0),(m 1),k,l,rfl,⟨z1,z2⟩,⟨z3,z4⟩,s.ch ((((b.nil (TN i)).trans (o)).n d).n q) (Bx i),rfl,rfl⟩) λg6 w6 x6 T W t u L=>qR [] 1 [] λs8 g8 w8 A=>qF t u A ((((((b.nil (TN i)).trans (o)).n d).n q).trans (L)).n A)
 .refine qI ((decide ((l.bn:Int)<(H.ae.n:Int)))) false (G' (by omega)) (qR [] 1 [] λU M Y c=>qE (.tuple #[]) λK=>?_);rw[show p.take l=(p.dT l.fm)from by unfold Nod.take;rw[E];exact if_neg B];exact⟨_,rfl,(nsC a e (d.n c) K),((((b.nil (TN i)).trans (o)).n d).n c)⟩
theorem KF(h:NS i nb ob g w p ls ts){w0:World}(hB:Base w0 g w)(hT:Tabs w0)(M:Nat)(l:Let)(hl:CQ g w M l)(Z:l.kind=1)(hs:l.src<5)(hb:(p.ia 0 l.fm).ae.length<=40)(b2:l.fm.length<=40)(Y:(p.av.al l.src).vs.length<100000000) :
  Calls prog 71 #[pt nb 0,pt M 0] w (NP i nb ob g w (.tuple #[]) (p.take l) ls ts):=by
 obtain⟨I,src,q,b,bN,a,c,fm⟩:=l;simp only at Z hs hb b2 Y;obtain⟨x,lt,tl,hN,hO,hg⟩:=h;refine gI (fn:=f71) (TN i) g func71 hg (qN hN (qO hO ?_));obtain⟨vs,wh,a0,b3,a1⟩:=hl;obtain⟨wa,wn,wc⟩:=wh;obtain rfl:wn=fm.length:=a1.len;have d8:p.ae.length<=40:=mg (by unfold Nod.ia;rw[E'];omega) hb;refine Cr ⟨M,.cells (FF (Let.mk I src q b bN a c fm) vs (S3.mk wa fm.length wc)) 166,.z,false⟩ (λ_=>⟨a0.r,a0.z,λh=>(by cases h),λh=>absurd rfl h⟩) (by kernel_rfl) ?_;refine qR [] 7 [2] λs1 g1 w1 A=>qS 5 [false,false,true] hN hO A (λN2=>Of N2 0 fm (S3.mk wa fm.length wc) (a1.ch (A.nil (TN i)) (Bx i)) (by omega) (by omega) (by omega)) λg2 w2 x2 b4 b5 s t E=>?_;by_cases h1:(p.ia 0 fm).leads=false
 .refine qR [] 5 [29,0] λs4 g4 w4 c4=>Af λK=>?_;have N6:NS i nb ob g4 w4 (p.ia 0 fm) ls ts:=(nsC s t c4 K);refine qC 1 (Fl N6 h1) ?_;rintro e' w7 ⟨rfl,b7⟩;refine⟨_,rfl,b7,?_⟩;have c7:=Cg.ed (B:=w.heap.size) (T:=[]) (g:=g4) b7;refine qR [] 29 [4,6,8,10,12,14,16,18,20,22,24,26,28,30,32,34,36,38,40,42,44,46,48,50,52,54,56] λs8 g8 w8 c8=>qE (.tuple #[]) λK=>?_;rw[show p.take (Let.mk I src q b bN a c fm)=(p.ia 0 fm)from by unfold Nod.take;rw[Z];exact if_pos (.inl h1)];exact⟨_,rfl,(nsC s t ((c4.n c7).n c8) K),(((((A.nil (TN i)).trans (E)).n c4).n c7).n c8)⟩
 .have h10:(p.ia 0 fm).leads=true:=by simpa using h1
  refine qR [] 5 [29,0] λd9 S b6 d=>Af λK=>?_;have a3:NS i nb ob S b6 (p.ia 0 fm) ls ts:=(nsC s t d K);refine qC 1 (Fl a3 h10) ?_;rintro e' e9 ⟨rfl,O⟩;refine⟨_,rfl,O,?_⟩;have j:=Cg.ed (B:=w.heap.size) (T:=[]) (g:=S) O;refine qR [] 12 [4,6,8,10,12,14,0,16,18,20,22,24,26,1] λe0 c6 f0 k=>?_;by_cases h2:b≠(p.ia 0 fm).av.fv
  .refine qT 14 (.bool true) (λ_=>(IM (x:=(.tmp 17)) (y:=(.tmp 23)) b (p.ia 0 fm).av.fv h2)) (qR [] 16 [30,32,34,36,38,40,42,44,46,48,50,52,54,56] λe1 c9 f1 P=>qE (.tuple #[]) λK=>?_);rw[show p.take (Let.mk I src q b bN a c fm)=(p.ia 0 fm)from by unfold Nod.take;rw[Z];exact if_pos (.inr (.inl h2))];exact⟨_,rfl,(nsC s t (((d.n j).n k).n P) K),((((((A.nil (TN i)).trans (E)).n d).n j).n k).n P)⟩
  .have h20:b=(p.ia 0 fm).av.fv:=by simpa using h2
   refine qT 14 (.bool false) (λ_=>(IL (x:=(.tmp 17)) (y:=(.tmp 23)) b (p.ia 0 fm).av.fv h20)) (qR [] 11 [30,32,34,36,38,40,42,0,44,46,48,50] λe2 a9 b8 m=>Ct 69 (λg' w' e L=>e=[(0,pt nb 0),(1,pt M 0),(38,.bool ((p.ia 0 fm).av.nn src))]/\L=[⟨M,.cells (FF (Let.mk I src q b bN a c fm) vs (S3.mk wa fm.length wc)) 166,.z,false⟩,⟨nb,.cells (AF i ob (p.ia 0 fm) x2) 123,.n 0 i,false⟩,⟨ob,.cells #[S3.v b4,S3.v b5] 96,.n 50 0,false⟩]/\True/\Cg w.heap.size ([]:List Tg) a9 b8 g' w') (by kernel_rfl) ?_ ?_)
   .intro J hJ;rcases qk hs with rfl|rfl|rfl|rfl|rfl <;>
    (refine qR [] 4 [52,54,1,56] λe3 d1 f3 a6=>?_;exact qB [true,true,true] λz K0 K=>hJ _ _ _ z _ ⟨rfl,rfl,trivial,(a6.nil ([]:List Tg))⟩ K)
   rintro d0 f2 _ g3 _ ⟨rfl,rfl,_,o⟩;by_cases h3:(p.ia 0 fm).av.nn src=true
   .refine qI (((p.ia 0 fm).av.nn src)) true h3 (qE (.tuple #[]) λK=>?_);rw[show p.take (Let.mk I src q b bN a c fm)=(p.ia 0 fm)from by unfold Nod.take;rw[Z];exact if_pos (.inr (.inr h3))];exact⟨_,rfl,(nsC s t ((((d.n j).n k).n m).n o) K),(((((((A.nil (TN i)).trans (E)).n d).n j).n k).n m).n o)⟩
   .refine qI (((p.ia 0 fm).av.nn src)) false (by simpa using h3) (qR [] 15 [12,0,2,4,6,8,10,12,14,0,16,18,20,22,0] λe4 d2 f4 u=>qS 12 [true,false,false] s t (((((d.n j).n k).n m).n o).n u) (λa4=>Q3 a4 (hB.ch ((((((((A.nil (TN i)).trans (E)).n d).n j).n k).n m).n o).n u) (Bx i)) hT src hs a vs (b3.ch ((((((((A.nil (TN i)).trans (E)).n d).n j).n k).n m).n o).n u) (Bx i)) Y) λd3 f5 a2 C D U W Q=>qR [] 17 [15,0,2,4,6,8,0,10,12,14,16,0,18,20,22,24,26] λe5 b0 b9 F=>Ct 69 (λg' w' e L=>e=[(0,pt nb 0)]/\L=[⟨M,.cells (FF (Let.mk I src q b bN a c fm) vs (S3.mk wa fm.length wc)) 166,.z,false⟩,⟨nb,.cells (AF i ob ({ (p.ia 0 fm)with av:={ (p.ia 0 fm).av.qQ src a with bu:=upN (p.ia 0 fm).av.bu src fm.length } }) a2) 123,.n 0 i,false⟩,⟨ob,.cells #[S3.v C,S3.v D] 96,.n 50 0,false⟩]/\True/\Cg w.heap.size ([.n 0 i]:List Tg) b0 b9 g' w') (by kernel_rfl) ?_ ?_)
    .intro J hJ;rcases qk hs with rfl|rfl|rfl|rfl|rfl <;>
     (refine qR [.n 0 i] 3 [28,31,1,1] λe6 d5 f7 a7=>?_;exact qB [true,true,true] λz K0 K=>hJ _ _ _ z _ ⟨rfl,rfl,trivial,a7⟩ K)
    rintro d4 f6 _ g5 _ ⟨rfl,rfl,_,G⟩;refine qR [] 2 [] λe7 b1 c0 H=>?_;rw[show p.take (Let.mk I src q b bN a c fm)=Nod.qv { (p.ia 0 fm)with av:={ (p.ia 0 fm).av.qQ src a with bu:=upN (p.ia 0 fm).av.bu src fm.length } }from by unfold Nod.take;rw[Z];exact if_neg (by rintro(h|h|h);exact h1 h;exact h2 h;exact h3 h)];refine Af λK=>?_;have N:=((F.nil ([.n 0 i]:List Tg)).trans (G)).n H;have a5:NS i nb ob b1 c0 ({ (p.ia 0 fm)with av:={ (p.ia 0 fm).av.qQ src a with bu:=upN (p.ia 0 fm).av.bu src fm.length } }) ls ts:=⟨a2,C,D,K.sr 1 U N,W.ch N (hn:=by simp<;>omega),K.new⟩;refine qS0 1 [true,false,false] (Gb a5 (hB.ch ((((((((((((A.nil (TN i)).trans (E)).n d).n j).n k).n m).n o).n u).trans (Q)).n F).trans (G.mono (by simp[TN]))).n H) (Bx i)) hT hb) λd6 f8 g0 c3 c5 V X a8=>qR [] 1 [] λe8 d7 f9 R=>qF V X R ((((((((((((((A.nil (TN i)).trans (E)).n d).n j).n k).n m).n o).n u).trans (Q)).n F).trans (G.mono (by simp[TN]))).n H).trans (a8)).n R)
theorem FT(h:Sl w x.v l):x.n=l.length:=by obtain⟨a,c,b⟩:=h.qW;simp only[S3.v,Value.slice.injEq]at b;exact b.2.1
theorem aY:prog.underlying 27=some (.slice (prog.elem 27)):=by kernel_rfl
theorem sB(h:Sl w x.v l)(a:Nat)(b:a<=l.length):∃ y:S3,(∀ W,(Instr.sliceAt 27 x.v (some (iv (a:Int))) none none).run prog W=.ok y.v W)/\Sl w y.v (l.drop a)/\y.n=l.length-a:=by
 obtain⟨c,d,e,f⟩:=h.from a b;refine⟨⟨c,x.n-a,d⟩,λW=>?_,f,by rw[FT h]⟩;rw[run_sliceAt_slice _ _ _ _ _ _ aY];exact e W
theorem Rn(h:Sl w x.v l)(a:0<l.length):∃ bd od,(∀ W,(Instr.indexAt 27 x.v (iv 0)).run prog W=.ok (pt bd od) W)/\bd<w.heap.size/\w.cell? ⟨bd,od,none⟩=some (.int .u8 (l.getD 0 0)):=by
 obtain⟨j,g,k⟩:=x;have f:g=l.length:=FT h;obtain⟨bd,od,b,c,d⟩:=h.rC 0 a;subst b;exact⟨bd,od,λW=>Nn (P:=prog) (e:=5) (z:=1) (i:=0) underlying27 (by kernel_rfl) (by kernel_rfl) (by rw[f];exact a) od (by rw[Nat.mul_zero,oA]),c,d⟩
theorem Wu{t:TypeId}{x y:Operand}{m:Int}{b:Bool}(h:(m==n)=b):(do Go.eqGuard .eql t x y (.int .u8 m) (.int .u8 n);Go.binOp .eql t (.int .u8 m) (.int .u8 n):Sem Value).run P w=.ok (.bool b) w:=by
 subst h;rfl
theorem rUi(h:0<=n/\n<256):(convert 5 3 (.int .u8 n)).run prog w=.ok (iv n) w:=fJ (by kernel_rfl) underlying3 (by kernel_rfl) (by rw[IntKind.wrap_i64];omega)
theorem Po{B:Nat}(h:w.ownsRow B 5 1 y l.length (l.map (Value.int .u8)))(e:l.length<=140737488351232)(d:∀ x∈l,0<=x/\x<256):∃ z:S3,y=z.v/\Sl w z.v l:=by
 have c:=Sl.ni h e d;obtain⟨a,b,rfl⟩:=c.qW;exact⟨⟨a,l.length,b⟩,rfl,c⟩
theorem ZX(c:Sl w y l):∃ z:S3,y=z.v/\Sl w z.v l:=by
 obtain⟨a,b,rfl⟩:=c.qW;exact⟨⟨a,l.length,b⟩,rfl,c⟩
theorem Nt(w:World):Sl w s30.v []:=⟨⟨none,0,rfl,A' _,λ_=>rfl,.inl rfl⟩,by simp,by simp⟩
end
end
end Go.Proofs.YtdjfdfpkkenjbacGreatDoor
