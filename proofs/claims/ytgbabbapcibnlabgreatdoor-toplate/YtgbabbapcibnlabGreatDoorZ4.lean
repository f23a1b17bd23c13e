/- Part 4 of the walk. -/
import Derived.Laws.Cover3
import Derived.Test.YtgbabbapcibnlabGreatDoorZ3
set_option maxRecDepth 100000
set_option maxHeartbeats 4000000
open Go.Proofs.Tryz
set_option linter.unusedVariables false
namespace Go.Proofs.YtgbabbapcibnlabGreatDoor
section
open Go.RowKit
section
variable{B sz:Nat}{P:Program}{T:List Tg}{W w w':World}{e:TypeId}{g g':Gh}{l:List Cmd}{vs:List Value}{x:S3}
theorem Kn.sF{L:List Sh}(h:Kn B g w L)(k b:Nat)(o:Obj)(r i:Nat)(v:Bool)(c:L[k]?=some ⟨b,o,.n r i,v⟩):w.heap[b]?=some o/\g.t b=.n r i/\g.k b=0 :=
 have a:=h.row _ (mG c)
 ⟨a.1,a.2.1,a.2.2.2 (by simp)⟩
structure RdV(w:World)(x:S3)(sz:Nat)(vs:List Value):Prop where
 len:vs.length=x.n*sz
 cap:x.n<=x.c
 rM:x.a=none->x.c=0
 ex:x.n=0\/∃ b off,x.a=some ⟨b,off,none⟩/\b<w.heap.size/\∀ j u,vs[j]?=some u->w.cell? ⟨b,off+j,none⟩=some u
theorem RdC.rv(h:RdC w x l):RdV w x 5 (cmL l) :=
 ⟨by rw[BI,h.len],h.cap,h.rM,h.ex.imp (λe=>by rw[h.len,e];rfl) id⟩
theorem RdV.rc(h:RdV w x 5 (cmL l)):RdC w x l :=
 have a:x.n=l.length:=by have:=h.len;rw[BI]at this;omega
 ⟨a,h.cap,h.rM,h.ex.imp (λe=>Z' (by omega)) id⟩
theorem RdV.af(h:RdV w x sz vs)(b:Bw w w'):RdV w' x sz vs :=
 ⟨h.len,h.cap,h.rM,h.ex.imp id λ⟨k,a,d,c,e⟩=>⟨k,a,d,j' c b.size,λj u f=>(b.cell (p:=⟨k,a+j,none⟩) c).trans (e j u f)⟩⟩
theorem OwnS.rv{τ:Tg}{f:Bool}(h:OwnS g w τ f e sz x vs):RdV w x sz vs:=by
 rcases h.ex with⟨h1,h2,h3⟩|⟨b,cur,h1,h2,h3,h4,h5,h6,h7,h8⟩
 .exact⟨h.len,by omega,λ_=>h3,.inl h2⟩
 .refine⟨h.len,h3,λh=>(by rw[h1]at h;cases h),.inr ⟨b,0,h1,rl h2,λj u d=>?_⟩⟩;obtain⟨i,a,_,c⟩:=h.cell d;rw[h1]at a
  simp only[Y',Addr.mk.injEq,and_true]at a;subst a;rw[mT];exact c
theorem dM{t:TypeId}{x y:Operand}{z:S3}{b:Bool}(f:z.a.isNone=b)(h:P.underlying t=some (.slice e))(g:(Go.eqGuard .eql t x y z.v (.slice none 0 0)).run P W=.ok () W):(do Go.eqGuard .eql t x y z.v (.slice none 0 0);Go.binOp .eql t z.v (.slice none 0 0):Sem Value).run P W=.ok (.bool b) W:=by
 subst f;rw[Sem.run_bind,g,Result.andThen_ok];have d:=run_equal_slice_nil (P:=P) (w:=W) t e z.a z.n z.c h;simp only[S3.v,binOp,Sem.run_bind,d,Result.andThen_ok];rfl
theorem fx(t h e:TypeId)(i:TypeInfo)(g:P.underlying t=some (.slice e))(f:P.info? e=some i)(b:Nat)(a:Addr)(c:Nat):(Builtin.append_ #[t,t] h #[.slice (some ⟨b,0,none⟩) 0 0,.slice (some a) 0 c]).run P W=.ok (.slice (some ⟨b,0,none⟩) 0 0) W:=by
 have d:=run_firstCells_some (P:=P) W i.size 0 a 0 c [] (by simp) (by simp);simp[Builtin.append_,run_underlying g,sizeOf,typeInfo,f,Builtin.lenOf,d,storeCells]
structure FzV(g:Gh)(w:World)(x:S3)(sz:Nat)(vs:List Value):Prop where
 rd:RdV w x sz vs
 z:vs≠[]->Frz g x
theorem FzV.ch(h:FzV g w x sz vs)(c:Cg B T g w g' w')(v:Tg.z∉T:=by simp):FzV g' w' x sz vs:=by
 obtain⟨⟨k,q,r,i⟩,s⟩:=h;by_cases p:vs=[]
 .subst p;exact⟨⟨k,q,r,i.imp id λ⟨b,d,e,f,_⟩=>⟨b,d,e,j' f c.size,λj u o=>(by cases o)⟩⟩,λh=>absurd rfl h⟩
 .rcases i with i|⟨b,d,e,f,e3⟩
  .exact absurd (Z' (by rw[k,i,pO])) p
  .have hb:g.t b=.z:=s p _ e;refine⟨⟨k,q,r,.inr ⟨b,d,e,j' f c.size,λj u o=>?_⟩⟩,λ_ a m=>?_⟩
   .rw[World.cell?_of_block (w:=w) (c.zc v f hb)];exact e3 j u o
   .rw[e]at m;simp only[Y']at m;subst m
    rw[c.tag f (by rw[hb];intro h;cases h)];exact hb
structure Fa where
 ro:Option Nat
 p:Gh->World->Prop
 st:∀ {B:Nat} {T:List Tg} {g g':Gh} {w w':World},Tg.z∉T->(∀ r,ro=some r->Tg.n 60 r∉T)->Cg B T g w g' w'->p g w->p g' w'
@[reducible] def AllF (g:Gh) (w:World):List Fa->Prop
 | []=>True
 | f::l=>f.p g w/\AllF g w l
variable{Φ:List Fa}
theorem AllF.ch(h:AllF g w Φ)(c:Cg B T g w g' w')(d:Tg.z∉T:=by simp)(a:∀ f∈Φ,∀ r,f.ro=some r->Tg.n 60 r∉T):AllF g' w' Φ:=by
 induction Φ with
 | nil=>trivial
 | cons f l ih=>exact⟨f.st d (a f M') c h.1,ih h.2 λf b=>a f (I' _ b)⟩
theorem AllF.qH(h:AllF g w Φ)(c:Cg B [] g w g' w'):AllF g' w' Φ:=h.ch c Q' λ_ _ _ _=>Q'
def Fa.zv(x:S3)(sz:Nat)(vs:List Value):Fa:=⟨none,λg w=>FzV g w x sz vs,λhz _ c h=>h.ch c hz⟩
def Fa.sl(x:S3)(l:List Int):Fa:=⟨none,λg w=>FSl g w x l,λhz _ c h=>h.ch c hz⟩
def Fa.ow(r:Nat)(e:TypeId)(sz:Nat)(x:S3)(vs:List Value):Fa:=⟨some r,λg w=>OwnS g w (.n 60 r) true e sz x vs,λ_ hr c h=>h.ch c (hr r rfl) (by simp)⟩
def TQ:List Tg:=[.n 60 0,.n 60 1,.n 60 2,.n 60 3]
theorem kZ:Tg.z∉TQ:=by simp[TQ]
end
section
variable{P:Program}{fn:Func}{R:Ending->World->Prop}{w0:World}{Φ:List Fa}{g:Gh}{w:World}
section
structure GT(P:Program)(fn:Func)(R:Ending->World->Prop)(w0:World)(Φ:List Fa)(s:Xs)(g:Gh)(w:World):Prop where
 ex:AllF g w Φ->Cg w0.heap.size TQ gS w0 g w->GG P fn R w0.heap.size TQ s g w
theorem CgQ.af(c:Cg w0.heap.size TQ gS w0 g w):Bw w0 w:=Cg.af c λ_ _=>kZ
variable{J:Act->World->Prop}{f:FuncId}{n:Nat}{s:Xs}
theorem tIn{a:Array Value}(Φ:List Fa)(e:P.funcs[f]?=some fn)(b:AllF gS w0 Φ)(h:GT P fn R w0 Φ ⟨[.c (P5 fn)],⟨fn.ntmps,O0 0 a.toList,λ_=>undef⟩,[]⟩ gS w0)(d:fn.body.isSome=true:=by kernel_rfl)(g:Nat.ble a.size fn.ntmps=true:=by kernel_rfl):Calls P f a w0 R :=
 gIn TQ gS e d g (λ_ _=>⟨rfl,rfl⟩) (h.ex b (Cg.refl _ _ _ _))
theorem tX(h:AllF g w Φ->Cg w0.heap.size TQ gS w0 g w->GG P fn R w0.heap.size TQ s g w):GT P fn R w0 Φ s g w:=⟨h⟩
theorem tF(h:AllF g w Φ->Cg w0.heap.size TQ gS w0 g w->GT P fn R w0 Φ s g w):GT P fn R w0 Φ s g w:=⟨λF C=>(h F C).ex F C⟩
theorem tCv(Ψ:List Fa)(a:AllF g w Φ->AllF g w Ψ)(h:GT P fn R w0 Ψ s g w):GT P fn R w0 Φ s g w:=⟨λF C=>h.ex (a F) C⟩
theorem tR(m:Nat)(h:List Nat)(b:∀ gs g' w',GT P fn R w0 Φ (rn0 P [] gs m s h).s g' w')(a:∀ gs,(rn0 P [] gs m s h).o.map Ob.l'=(rn0 P [] gs m s h).o.map Ob.r':=by intro _;kernel_rfl):GT P fn R w0 Φ s g w :=
 ⟨λF C=>cG [] m h a λgs g' w' c=>(b gs g' w').ex (F.qH c) (C.n c)⟩
theorem tV(i:Nat)(v:Value){S:Sem Value}(c:AllF g w Φ->Cg w0.heap.size TQ gS w0 g w->S.run P w=.ok v w)(b:GT P fn R w0 Φ (nxt s i v s.L).s g w)(d:Dw s i=some (S>>=λv=>pure (.value v)):=by kernel_rfl)(a:(nxt s i undef s.L).o.map Ob.l'=(nxt s i undef s.L).o.map Ob.r':=by kernel_rfl):GT P fn R w0 Φ s g w:=⟨λF C=>qV i v (c F C) (b.ex F C) d a⟩
theorem tT(i:Nat)(v:Value){S:Sem Value}(c:∀ W,S.run P W=.ok v W)(b:GT P fn R w0 Φ (tkN s i v false).s g w)(d:Dw s i=some (S>>=λv=>pure (.value v)):=by kernel_rfl)(a:(tkN s i undef false).o.map Ob.l'=(tkN s i undef false).o.map Ob.r':=by kernel_rfl):GT P fn R w0 Φ s g w:=⟨λF C=>qT i v c (b.ex F C) d a⟩
theorem tI(b t:Bool)(a:b=t)(h:GT P fn R w0 Φ (KX s t) g w)(c:PH s=.bool b:=by kernel_rfl):GT P fn R w0 Φ s g w:=⟨λF C=>qI b t a (h.ex F C) c⟩
theorem tC(i:Nat){f:FuncId}{c:Array Value}{K:Ending->World->Prop}(k:AllF g w Φ->Cg w0.heap.size TQ gS w0 g w->Calls P f c w K)(m:(∀ b,w.heap.size<=b->g.t b=.z)->∀ e w',K e w'->∃ v Ψ,e=.returned v/\Bw w w'/\(AllF g w' Φ->AllF g w' Ψ)/\GT P fn R w0 Ψ (nxt s i v s.L).s g w')(n:∀ W,Dc P s i W=some (.ok (.enter f c) W):=by intro _;kernel_rfl)(l:Ki s i=true:=by kernel_rfl)(a:(nxt s i undef s.L).o.map Ob.l'=(nxt s i undef s.L).o.map Ob.r':=by kernel_rfl):GT P fn R w0 Φ s g w :=
 ⟨λF C=>Ag λd=>qC i (k F C) (λe w' h=>let ⟨v,Ψ,h1,h2,h3,h4⟩:=m (λb j=>(d.new b j).1) e w' h;⟨v,h1,h2,h4.ex (h3 (F.qH (Cg.eb (B:=w0.heap.size) h2))) (C.trans (Cg.eb h2))⟩) n l a⟩
theorem tC1(i:Nat){f:FuncId}{b:Array Value}{v:Value}(c:AllF g w Φ->Cg w0.heap.size TQ gS w0 g w->Calls P f b w λe w'=>e=.returned v/\Bw w w')(j:∀ w',GT P fn R w0 Φ (nxt s i v s.L).s g w')(k:∀ W,Dc P s i W=some (.ok (.enter f b) W):=by intro _;kernel_rfl)(d:Ki s i=true:=by kernel_rfl)(a:(nxt s i undef s.L).o.map Ob.l'=(nxt s i undef s.L).o.map Ob.r':=by kernel_rfl):GT P fn R w0 Φ s g w:=tC i c (λ_ e w' h=>⟨v,Φ,h.1,h.2,id,j w'⟩) k d a
theorem tE(v:Value)(h:AllF g w Φ->Bw w0 w->R (.returned v) w)(a:Kn w0.heap.size g w s.L->(results fn s.f.act.tmps).run P w=.ok v w:=by intro _;kernel_rfl)(b:MF s.K=true:=by kernel_rfl):GT P fn R w0 Φ s g w:=⟨λF C=>qE v (λ_=>h F (CgQ.af C)) a b⟩
def JT(P:Program)(w0:World)(n:Nat)(Inv:Nat->List (Nat × Value)->List Sh->List Fa->Prop)(k:Nat)(J:Act->World->Prop):Prop:=∀ k' e' L' Φ' g' w' z',k'<k->Inv k' e' L' Φ'->AllF g' w' Φ'->Cg w0.heap.size TQ gS w0 g' w'->Kn w0.heap.size g' w' L'->J (⟨n,e',z'⟩:Fm).act w'
theorem Dx(n:Nat)(c:List (Nat × Value))(m:List Bool)(o:List Sh)(b:List Fa)(a:Nat->List (Nat × Value)->List Sh->List Fa->Prop)(x:Nat)(E:a x c o b)(t:AllF g w Φ->AllF g w b)(round:∀ k e L Φ,a k e L Φ->∀ z g w J,JT P w0 n a k J->GT P fn R w0 Φ (dS s n J e z L) g w)(O:Sn s.K=true:=by kernel_rfl)(Q:s.f.n=n:=by kernel_rfl)(M:c.map (λp=>lk s.f.z s.f.e p.1)=c.map (·.2):=by kernel_rfl)(I:BM (AF m s.L)=o:=by kernel_rfl):GT P fn R w0 Φ s g w :=
 ⟨λF C=>BY n c m o (λk d h e L=>∃ Ψ,a k e L Ψ/\AllF d h Ψ/\Cg w0.heap.size TQ gS w0 d h) O Q M I x (λ_=>⟨b,E,t F,C⟩) λk d h e z L ⟨Ψ,G,A,y⟩ J H=>(round k e L Ψ G z d h J λS D B v q u T N r j i K=>H S q u D T B N ⟨v,r,j,i⟩ K).ex A y⟩
theorem tB{k:Nat}{b:Nat->List (Nat × Value)->List Sh->List Fa->Prop}(i:JT P w0 n b k J)(d:Nat)(t:d<k){e:List (Nat × Value)}(m:List Bool){L':List Sh}{a:List Fa}(h:b d e L' a)(c:AllF g w Φ->AllF g w a)(q:isJ s.K=true:=by kernel_rfl)(r:jK s.K=J:=by kernel_rfl)(u:s.f.n=n:=by kernel_rfl)(o:e.map (λp=>lk s.f.z s.f.e p.1)=e.map (·.2):=by kernel_rfl)(j:BM (AF m s.L)=L':=by kernel_rfl):GT P fn R w0 Φ s g w :=
 ⟨λF C=>qB m (λz _ K=>i d e L' a g w z t h (c F) C K) q r u o j⟩
def JC(P:Program)(w0:World)(n:Nat)(Inv:List (Nat × Value)->List Sh->List Fa->Prop)(J:Act->World->Prop):Prop:=∀ e' L' Φ' g' w' z',Inv e' L' Φ'->AllF g' w' Φ'->Cg w0.heap.size TQ gS w0 g' w'->Kn w0.heap.size g' w' L'->J (⟨n,e',z'⟩:Fm).act w'
theorem IG(n:Nat)(a:List (Nat × Value)->List Sh->List Fa->Prop)(m:∀ J,JC P w0 n a J->GT P fn R w0 Φ (XA s J) g w)(o:∀ e L Φ,a e L Φ->∀ z g w,GT P fn R w0 Φ ⟨s.K.tail,⟨n,e,z⟩,L⟩ g w)(q:s.K.isEmpty=false:=by kernel_rfl):GT P fn R w0 Φ s g w :=
 ⟨λF C=>Cn n (λb c e L=>∃ Ψ,a e L Ψ/\AllF b c Ψ/\Cg w0.heap.size TQ gS w0 b c) q (λJ p=>(m J λk j i b c r h f d K=>p b c k r j ⟨i,h,f,d⟩ K).ex F C) λb c e z L ⟨Ψ,h,f,d⟩=>(o e L Ψ h z b c).ex f d⟩
theorem tD{b:List (Nat × Value)->List Sh->List Fa->Prop}(i:JC P w0 n b J){e:List (Nat × Value)}(m:List Bool){c:List Sh}{a:List Fa}(h:b e c a)(d:AllF g w Φ->AllF g w a)(o:isJ s.K=true:=by kernel_rfl)(q:jK s.K=J:=by kernel_rfl)(r:s.f.n=n:=by kernel_rfl)(k:e.map (λp=>lk s.f.z s.f.e p.1)=e.map (·.2):=by kernel_rfl)(j:BM (AF m s.L)=c:=by kernel_rfl):GT P fn R w0 Φ s g w :=
 ⟨λF C=>qB m (λz _ K=>i e c a g w z h (d F) C K) o q r k j⟩
theorem IH(i j:Nat)(a:GT P fn R w0 Φ (J7 s i) g w)(b:GT P fn R w0 Φ (J7 s j) g w)(c:eD s i j=true:=by kernel_rfl):GT P fn R w0 Φ s g w:=⟨λF C=>Dm i j c (a.ex F C) (b.ex F C)⟩
theorem Jx(i:Nat)(r:Nat){x:S3}{xs:List Value}(t O e:TypeId)(p b:Nat)(z:Value)(a:Addr)(m c:Nat)(news:List Value)(hx:AllF g w Φ->OwnS g w (.n 60 r) true e p x xs)(Ψ:List Fa)(M:AllF g w Φ->AllF g w Ψ)(I:Ψ.all (λf=>f.ro != some r)=true)(H:Tg.n 60 r∈TQ)(X:news.length=m*p)(Q:∀ u∈news,u.oneCell'=true)(k:AllF g w Φ->Kn w0.heap.size g w s.L->∀ j u,news[j]?=some u->w.cell? (a.add j)=some u)(D:x.n+m<=maxLen)(d:(x.n+m)*b<=140737488355328)(W:∀ x' g' w',x'.n=x.n+m->GT P fn R w0 (Fa.ow r e p x' (xs++news)::Ψ) (nxt s i (S3.v x') s.L).s g' w')(E:0<m:=by decide)(J:0<p:=by decide)(ht:P.underlying t=some (.slice e):=by kernel_rfl)(h:(P.info? e).map (λi=>(i.zero,i.size,i.bytes))=some (some z,p,b):=by kernel_rfl)(K:Nat.beq z.cells.size p=true:=by kernel_rfl)(A:Dw s i=some (Builtin.append_ #[t,t] O #[x.v,.slice (some a) m c]>>=λv=>pure (.value v)):=by kernel_rfl)(G:(nxt s i undef s.L).o.map Ob.l'=(nxt s i undef s.L).o.map Ob.r':=by kernel_rfl)(U:s.L.all (λy=>[Tg.n 60 r].all λt=>y.t.ne t)=true:=by kernel_rfl):GT P fn R w0 Φ s g w:=by
 refine⟨λF C=>Kj i t O e p b z a m c news (hx F) A G U ht h K J E X Q (k F) D d λx' g' w' T Y N hG=>?_⟩;refine(W x' g' w' Y).ex ⟨T,(M F).ch (N w0.heap.size [.n 60 r] (D'.2 rfl)) (by simp) λf V q Z E=>?_⟩ (C.trans (N _ _ H));have B:=ng.1 I f V;rw[Z]at B
 have S:q=r:=by simpa using E
 rw[S]at B
 simp at B
end
end
end
section
section
structure Plc(l:List Vt)(s:Int)(p:Nat):Prop where
 le:p<=l.length
 lo:∀ (i:Nat) (v:Vt),i<p->l[i]?=some v->v.bt<s
 hi:∀ (i:Nat) (v:Vt),p<=i->l[i]?=some v->s<=v.bt
theorem NE(a b:List Vt)(v:Vt)(h:∀ u∈a,u.bt<v.bt):Bn (a++b) v=a++Bn b v:=by
 induction a with
 | nil=>rfl
 | cons x a ih =>
  show Bn (x::(a++b)) v=x::(a++Bn b v);rw[Bn,if_pos (h x M'),ih (λu c=>h u (I' _ c))]
variable{l:List Vt}{m p:Nat}{s:Int}{u v x:Vt}
theorem Plc.front(h:Plc l s p):∀ u∈l.take p,u.bt<s:=by
 intro u b;obtain⟨i,a⟩:=nr.1 b;rw[na]at a
 split at a
 .rename_i hip;exact h.lo i u hip a
 .cases a
theorem Plc.has(h:Plc l v.bt p)(f:l[p]?=some u)(c:u.bt=v.bt):Bn l v=l.take p++(v::l.drop (p+1)):=by
 obtain⟨d,e⟩:=V'.1 f;have b:l.drop p=u::l.drop (p+1):=by rw[<- e];exact mQ d
 have a:=NE (l.take p) (l.drop p) v h.front;rw[np]at a
 rw[a,b,Bn,if_neg (by omega),if_pos c]
theorem Plc.no(h:Plc l v.bt p)(c:∀ u,l[p]?=some u->u.bt≠v.bt):Bn l v=l.take p++(v::l.drop p):=by
 have a:=NE (l.take p) (l.drop p) v h.front;rw[np]at a
 rw[a];rcases mY p l.length with hp|hp
 .have hd:l.drop p=l[p]::l.drop (p+1):=mQ hp;have d:=h.hi p l[p] (A' _) (G' hp);have b:=c l[p] (G' hp);rw[hd,Bn,if_neg (by omega),if_neg b]
 .rw[mP hp,Bn]
theorem Plc.rF(d:BL l)(e:l[p]?=some u)(c:u.bt=s):Ae l s=[u]:=by
 have b:=Jn d s;have a:u∈Ae l s:=Bd.2 ⟨nr.2 ⟨p,e⟩,c⟩
 match hl:Ae l s with
 | []=>rw[hl]at a;cases a
 | [x]=>rw[hl]at a;rw[D'.1 a]
 | x::y::r=>rw[hl]at b;simp at b
theorem Plc.rj(b:BL l)(h:Plc l s p)(f:∀ u,l[p]?=some u->u.bt≠s):Ae l s=[]:=by
 rw[py];intro u a;obtain⟨a,e⟩:=Bd.1 a;obtain⟨i,c⟩:=nr.1 a;rcases pj i p with hip|rfl|hip
 .have:=h.lo i u hip c;omega
 .exact f u c e
 .have hip':i<l.length:=(V'.1 c).1;have d:p<l.length:=by omega
  have g:=h.hi p l[p] (A' _) (G' d);have k:=rise_lt b hip (G' d) c;omega
where
 rise_lt:∀ {l:List Vt} (b:BL l) {i j:Nat} (hij:i<j) {u v:Vt} (a:l[i]?=some u) (hv:l[j]?=some v),u.bt<v.bt
  | x::xs,b,0,j+1,_,u,v,a,hv=>by
   simp at a hv;subst a;exact b.1 v (nr.2 ⟨j,hv⟩)
  | x::xs,b,i+1,j+1,hij,u,v,a,hv=>rise_lt (l:=xs) b.2 (i:=i) (j:=j) (by omega) (by simpa using a) (by simpa using hv)
  | [],_,i,j,_,u,v,a,hv=>by simp at a
theorem BL.get(b:BL l){i j:Nat}(a:i<j){u v:Vt}(c:l[i]?=some u)(d:l[j]?=some v):u.bt<v.bt:=Plc.rj.rise_lt b a c d
theorem Plc.half(b:BL l){s:Int}{i j h:Nat}{u:Vt}(a:l[h]?=some u)(d:∀ (k:Nat) (v:Vt),k<i->l[k]?=some v->v.bt<s)(c:∀ (k:Nat) (v:Vt),j<=k->l[k]?=some v->s<=v.bt) :
  (u.bt<s->∀ (k:Nat) (v:Vt),k<h+1->l[k]?=some v->v.bt<s)/\(s<=u.bt->∀ (k:Nat) (v:Vt),h<=k->l[k]?=some v->s<=v.bt):=by
 constructor
 .intro g k v hk hv;rcases mY k h with hkh|hkh
  .have:=b.get hkh hv a;omega
  .obtain rfl:k=h:=by omega
   rw[a]at hv;cases hv;exact g
 .intro g k v hk hv;rcases mY h k with hkh|hkh
  .have:=b.get hkh a hv;omega
  .obtain rfl:k=h:=by omega
   rw[a]at hv;cases hv;exact g
def Qp(o:Option Vt)(v:Vt):Option Vt:=match o with
 | none=>some v
 | some u=>if u.b.lt v.b then some v else some u
theorem Rw(l:List Vt)(v:Vt)(o:Option Vt):BQ (l++[v]) o=Qp (BQ l o) v:=by
 induction l generalizing o with
 | nil =>
  cases o with
  | none=>rfl
  | some u =>
   show BQ [v] (some u)=Qp (some u) v;rw[BQ,Qp];split<;>rfl
 | cons x l ih =>
  cases o with
  | none=>exact ih _
  | some u =>
   show BQ (x::(l++[v])) (some u)=Qp (BQ (x::l) (some u)) v;rw[BQ,BQ];split
   .exact ih _
   .exact ih _
def vt0:Vt:=⟨0,⟨0,0⟩,⟨0,0,0,0,0⟩⟩
def ER(o:Option Vt)(x:Vt):Prop:=(o=none/\x=vt0)\/(o=some x/\Ab x.b)
theorem ER.next{o:Option Vt}(h:ER o x)(a:Ab v.b):ER (Qp o v) (if x.b.lt v.b then v else x):=by
 rcases h with⟨rfl,rfl⟩|⟨rfl,hx⟩
 .rw[if_pos (by unfold Ab at a;unfold Bal.lt;simp[vt0];omega)];exact .inr ⟨rfl,a⟩
 .show ER (if x.b.lt v.b then some v else some x) _;split
  .exact .inr ⟨rfl,a⟩
  .exact .inr ⟨rfl,hx⟩
theorem ER.pick{a:List (List Vt)}(d:0<=s/\s<=39)(c:∀ l∈a,∀ v∈l,Ai v)(h:ER (FU a s) x):(if Cd a s=0 then((FU a s).map (·.w)).getD ⟨0,0,0,0,0⟩else⟨0,0,0,0,0⟩)=x.w/\(if Cd a s=0 then(FU a s).isSome else false)=!decide (x.b.r=0/\x.b.n=0)/\Cd a s=0:=by
 have e:Cd a s=0:=by unfold Cd;rw[if_neg (λg=>g d),if_pos c]
 rw[if_pos e,if_pos e];rcases h with⟨h1,rfl⟩|⟨h1,h2⟩
 .rw[h1];exact⟨rfl,rfl,e⟩
 .rw[h1];refine⟨rfl,?_,e⟩;rw[E' (by unfold Ab at h2;omega)];rfl
theorem YV(l:List Vt){u v:Vt}(h:u≠v):BK l u+BK l v<=l.length:=by
 induction l with
 | nil=>simp[BK]
 | cons x l ih =>
  unfold BK at ih ⊢;rw[oP,oP,mE];by_cases a:x=u
  .subst a;rw[if_pos (by simp),if_neg (by simp[h])];omega
  .by_cases hy:x=v
   .subst hy;rw[if_neg (by simp[a]),if_pos (by simp)];omega
   .rw[if_neg (by simp[a]),if_neg (by simp[hy])];omega
theorem YT(h:0<BK l v):v∈l:=by
 unfold BK at h;obtain⟨u,a,e⟩:=pI.1 h;rw[<- mI e];exact a
theorem dm(a b:List Vt)(v:Vt):BK a v<=BK (a++b) v:=by
 unfold BK;rw[nM];omega
theorem R3(b:l.length<=m)(h:m<2*BK l v):GS l m=some v:=by
 cases hf:GS l m with
 | none =>
  have:=nu.1 hf v (YT (by omega));simp at this;omega
 | some u =>
  have a:=List.find?_some hf;simp at a;by_cases e:u=v
  .rw[e]
  .have:=YV l e;omega
theorem Xv(h:∀ v,2*BK l v<=m):GS l m=none:=by
 unfold GS;rw[nu];intro v _;have:=h v;simp;omega
end
end
section
open Go.RowKit
section
variable{B cap e n p sz:Nat}{P:Program}{a:Option Addr}{b:Bal}{l:List Vt}{r:Bool}{s:Int}{v:Vt}{w:World}{x:S3}{xs:List Value}{y:Value}
theorem NTab.sS(h:NTab w):w.cell? ⟨2,1*3+2,none⟩=some (.int .i64 1073741824):=h.cell 5 (by omega)
theorem NTab.value(h:NTab w)(k:Nat)(a:1<=k)(b:k<=3):w.cell? ⟨2,k*3+2,none⟩=some (.int .i64 (if k=1 then 1073741824 else 0)):=by
 rcases(by omega:k=1\/k=2\/k=3)with rfl|rfl|rfl
 .exact h.cell 5 (by omega)
 .exact h.cell 8 (by omega)
 .exact h.cell 11 (by omega)
theorem El(k c s n v:Int)(w:World)(G:NTab w) :
  Calls prog 76 #[.agg (cmA k c s n v)] w λe w'=>e=.returned (.int .i64 (Bm k c s n v))/\Bw w w':=by
 have b:Bw w (w.alloc (.cells (cmA k c s n v) 49)):=(Below.refl _ _).alloc (A' _) _;have h:=Bc.made w k c s n v;have t:=G.af b;have F:=GF k c s n v;generalize E:w.alloc (.cells (cmA k c s n v) 49)=W at b h t;have u:w.alloc (.cells #[.int .i64 k,.int .i64 c,.int .i64 s,.int .i64 n,.int .i64 v] 49)=W:=E;obtain⟨x,y,z,A,B⟩:=EU h.row;clear G;go_enter func76,ntmps76
 go_wp2_with fail
 clear E u;refine(Sm k _).mono ?_;rintro e K ⟨rfl,rfl⟩;by_cases o:0<=k/\k<=3
 .rw[O' o];by_cases C:k=0
  .subst C;go_wp2_with (refine wpList_load_row rfl 49 _ rfl w.heap.size rfl 49 _ (0,0) _ h.row underlying49 rfl F ?_)
   refine(YS c s n v _).mono ?_;rintro e f ⟨rfl,g⟩;have j:Bw w f:=b.trans (g.mono b.size);go_wp2
   go_ret;exact⟨rfl,j⟩
  .obtain⟨m,rfl⟩:=mO o.1;have r:1<=(m:Int)/\(m:Int)<=3:=by omega
   go_wp2_with (refine wpList_load_row rfl 49 _ rfl w.heap.size rfl 49 _ (0,0) _ h.row underlying49 rfl F ?_)
   refine(OG (m:Int) c s n v _ r t).mono ?_;rintro e f ⟨rfl,g⟩;have j:Bw w f:=b.trans (g.mono b.size);have i:=h.af g;have q:=t.af g;clear x y z A B h t g b;by_cases a:InC c s n v
   .rw[O' a];obtain⟨x,y,z,A,B⟩:=EU i.row;have D:=q.value m (by omega) (by omega);have H:(0:Int)<=(m:Int):=by omega
    have I:(m:Int)<4:=by omega
    have J:m<4:=by omega
    clear i q o C;by_cases p:v<=(if m=1 then 1073741824 else 0)
    .have d:Hid (0=Bm (m:Int) c s n v):=by
      refine(TI r a ?_).symm;unfold InC at a;split at p<;>omega
     clear a r;generalize (if m=1 then(1073741824:Int)else 0)=V at D p;go_wp2_with fail
     go_quiet (fail)
     have l:Bw w (f.drewN nq):=Ar j nq;generalize f.drewN nq=w3 at l ⊢;go_wp2
     go_ret;exact⟨CT d.out,l⟩
    .have d:Hid (3=Bm (m:Int) c s n v):=by
      unfold InC at a;refine(Vb ⟨?_,by omega⟩ (by unfold InC;omega) ?_).symm
      .split at p<;>omega
      .split at p<;>omega
     clear a r;generalize (if m=1 then(1073741824:Int)else 0)=V at D p;go_wp2_with fail
     go_quiet (fail)
     have l:Bw w (f.drewN nq):=Ar j nq;generalize f.drewN nq=w3 at l ⊢;go_wp2
     go_ret;exact⟨CT d.out,l⟩
   .rw[E' a];have d:Hid (2=Bm (m:Int) c s n v):=(RA r a).symm;clear a;go_wp2
    go_ret;exact⟨CT d.out,j⟩
 .rw[E' o];have d:Hid (4=Bm k c s n v):=(Vc o).symm;go_wp2
  go_ret;exact⟨CT d.out,b⟩
def KJ(l:List Vt)(n:Int):Prop:=0<=n/\n<=40/\∀ s:Int,0<=s->(n<=s↔∀ u∈l,u.bt<s)
theorem KJ.nil:KJ [] 0:=⟨by omega,by omega,λs a=>⟨λ_ u b=>(Q' b).elim,λ_=>a⟩⟩
theorem KJ.snoc{n:Int}(h:KJ l n){v:Vt}(b:0<=v.bt)(c:v.bt<=39)(d:n<=v.bt):KJ (l++[v]) (v.bt+1):=by
 refine⟨by omega,by omega,λs a=>⟨λg u hu=>?_,λg=>?_⟩⟩
 .rcases P'.1 hu with hu|hu
  .exact(h.2.2 s a).1 (by omega) u hu
  .obtain rfl:u=v:=by simpa using hu
   omega
 .have:=g v (by simp);omega
theorem jQ{p:Bal}(h:p≠Bb):(!decide (Ab p))=!decide (Ap p):=by
 have:Ab p↔Ap p:=⟨.inl,λg=>g.resolve_right λe=>h ((Bal.eq_iff p Bb).1 e)⟩;simp[this]
theorem jk{P Q:Prop}[Decidable P][Decidable Q](h:Q↔¬ P):decide P=!decide Q:=by by_cases g:P<;>simp[h,g]
theorem Wd(h:BL l)(k:Nat):BL (l.take k):=by
 induction k with
 | zero=>exact trivial
 | succ k ih =>
  cases hh:l[k]? with
  | none=>rw[mq (by have:=List.getElem?_eq_none_iff.1 hh;omega)];exact h
  | some v =>
   rw[FO l k v hh,NY];refine⟨ih,λu b=>?_⟩;obtain⟨i,a⟩:=nr.1 b;rw[na]at a
   split at a
   .rename_i hk;exact h.get hk a hh
   .cases a
theorem Eb(b:decide (0<=s/\s<=39)=r) :
  Calls prog 154 #[iv s] w λe w'=>e=.returned (.bool r)/\Bw w w':=by
 subst b;refine tIn [] func154 trivial (tR 7 [] λc _ _=>?_);by_cases a:0<=s
 .refine tV 1 (.bool true) (λF C=>(rGe (t:=3) (m:=s) (n:=0) (x:=(.tmp 3)) (y:=(.const (iv 0))) (O' a))) (tR 6 [] λd _ _=>tE (.bool (decide (s<40))) λ_ B=>⟨by rw[m9.2 (show s<40↔0<=s/\s<=39 by omega)],B⟩)
 .refine tV 1 (.bool false) (λF C=>(rGe (t:=3) (m:=s) (n:=0) (x:=(.tmp 3)) (y:=(.const (iv 0))) (E' a))) (tR 6 [] λf _ _=>tE (.bool false) λ_ B=>⟨by rw[E' (show ¬ (0<=s/\s<=39)by omega)],B⟩)
theorem I1(f:decide (Ab b)=r) :
  Calls prog 132 #[.agg #[iv b.r,iv b.n]] w λe w'=>e=.returned (.bool r)/\Bw w w':=by
 subst f;refine tIn [] func132 trivial (tR 9 [0,0,0] λg _ _=>?_);by_cases a:1<=b.r
 .refine tV 2 (.bool true) (λF C=>(rGe (t:=3) (m:=b.r) (n:=1) (x:=(.tmp 4)) (y:=(.const (iv 1))) (O' a))) (tR 3 [0] λh _ _=>?_);by_cases c:b.r<=65536
  .refine tV 6 (.bool true) (λF C=>(rLe (t:=3) (m:=b.r) (n:=65536) (x:=(.tmp 8)) (y:=(.const (iv 65536))) (O' c))) (tR 4 [0] λi _ _=>?_);by_cases d:0<=b.n
   .refine tV 11 (.bool true) (λF C=>(rGe (t:=3) (m:=b.n) (n:=0) (x:=(.tmp 13)) (y:=(.const (iv 0))) (O' d))) (tR 8 [0] λj _ _=>tE (.bool (decide (b.n<5))) λ_ B=>⟨by rw[m9.2 (show b.n<5↔Ab b by unfold Ab;omega)],B⟩)
   .refine tV 11 (.bool false) (λF C=>(rGe (t:=3) (m:=b.n) (n:=0) (x:=(.tmp 13)) (y:=(.const (iv 0))) (E' d))) (tR 8 [] λk _ _=>tE (.bool false) λ_ B=>⟨by rw[E' (show ¬ Ab b by unfold Ab;omega)],B⟩)
  .refine tV 6 (.bool false) (λF C=>(rLe (t:=3) (m:=b.r) (n:=65536) (x:=(.tmp 8)) (y:=(.const (iv 65536))) (E' c))) (tR 13 [] λl _ _=>tE (.bool false) λ_ B=>⟨by rw[E' (show ¬ Ab b by unfold Ab;omega)],B⟩)
 .refine tV 2 (.bool false) (λF C=>(rGe (t:=3) (m:=b.r) (n:=1) (x:=(.tmp 4)) (y:=(.const (iv 1))) (E' a))) (tR 17 [] λo _ _=>tE (.bool false) λ_ B=>⟨by rw[E' (show ¬ Ab b by unfold Ab;omega)],B⟩)
theorem Ei{a:Bal}(d:decide (a.lt b)=r) :
  Calls prog 133 #[.agg #[iv a.r,iv a.n],.agg #[iv b.r,iv b.n]] w λe w'=>e=.returned (.bool r)/\Bw w w':=by
 subst d;refine tIn [] func133 trivial (tR 15 [0,0,0,0,0,1] λf _ _=>?_);by_cases c:a.r≠b.r
 .refine tI ((a.r != b.r)) true (by simpa using c) (tR 9 [0,1] λg _ _=>tE (.bool (decide (a.r<b.r))) λ_ B=>⟨by rw[m9.2 (show a.r<b.r↔a.lt b by unfold Bal.lt;omega)],B⟩)
 .refine tI ((a.r != b.r)) false (by simpa using c) (tR 10 [0,1] λh _ _=>tE (.bool (decide (a.n<b.n))) λ_ B=>⟨by rw[m9.2 (show a.n<b.n↔a.lt b by unfold Bal.lt;omega)],B⟩)
theorem GM(i:NTab w){r:Bool}(h:decide (Ai v)=r) :
  Calls prog 138 #[.agg #[iv v.bt,iv v.b.r,iv v.b.n,iv v.w.k,iv v.w.c,iv v.w.s,iv v.w.n,iv v.w.v]] w λe w'=>e=.returned (.bool r)/\Bw w w':=by
 subst h;refine tIn [] func138 trivial (tR 9 [0,0,0] λj _ _=>?_);by_cases a:0<=v.bt/\v.bt<=39
 .refine tC1 2 (λF C=>Eb (r:=true) (O' a)) λ_=>tR 3 [0] λl _ _=>?_;by_cases d:Ab v.b
  .refine tC1 6 (λF C=>I1 (b:=v.b) (r:=true) (O' d)) λ_=>tR 4 [0] λm _ _=>tC1 11 (λF C=>El v.w.k v.w.c v.w.s v.w.n v.w.v _ (i.af (CgQ.af C))) λ_=>tR 4 [] λo _ _=>tE (.bool (Bm v.w.k v.w.c v.w.s v.w.n v.w.v==0)) λ_ B=>⟨by rw[show(Bm v.w.k v.w.c v.w.s v.w.n v.w.v==0)=decide (Ai v)from by rw[show(Bm v.w.k v.w.c v.w.s v.w.n v.w.v==0)=decide (v.w.e=0)from rfl];exact m9.2 ⟨λg=>⟨a,d,g⟩,λg=>g.2.2⟩],B⟩
  .refine tC1 6 (λF C=>I1 (b:=v.b) (r:=false) (E' d)) λ_=>tR 9 [] λp _ _=>tE (.bool false) λ_ B=>⟨by rw[E' (show ¬ Ai v from λg=>d g.2.1)],B⟩
 .refine tC1 2 (λF C=>Eb (r:=false) (E' a)) λ_=>tR 13 [] λf _ _=>tE (.bool false) λ_ B=>⟨by rw[E' (show ¬ Ai v from λg=>a g.1)],B⟩
theorem Ig{p:Bal}{u:Vt}:Ah ⟨p,l++[u]⟩↔Ah ⟨p,l⟩/\(Ai u/\¬ p.lt u.b)/\∀ x∈l,x.bt<u.bt:=by
 unfold Ah;simp only[NY,P',D'];exact⟨λh=>⟨⟨h.1,λv a=>h.2.1 v (.inl a),h.2.2.1⟩,h.2.1 u (.inr rfl),h.2.2.2⟩,λh=>⟨h.1.1,λv a=>a.elim (h.1.2.1 v) λe=>by rw[e];exact h.2.1,h.1.2.2,h.2.2⟩⟩
theorem WS{p:Bal}(h:Ah ⟨p,l⟩)(k:Nat):Ah ⟨p,l.take k⟩:=⟨h.1,λv a=>h.2.1 v (mr a),(Wd h.2.2 k)⟩
theorem Sv.op(h:Sv w x.v l):x.n=l.length/\(l=[]\/∃ b off,x.a=some ⟨b,off,none⟩/\∀ i v,l[i]?=some v->w.rangeAt b (off+8*i) (vtC v)):=by
 obtain⟨j,m,k⟩:=x;obtain⟨⟨a,c,e,_,_,d⟩,_⟩:=h;simp only[S3.v,Value.slice.injEq]at e;obtain⟨rfl,rfl,rfl⟩:=e;exact⟨rfl,d.imp id λ⟨b,off,f,_,g⟩=>⟨b,off,f,g⟩⟩
theorem Sv.at_(h:Sv w x.v l){b c i:Nat}{v:Vt}(e:x.a=some ⟨b,c,none⟩)(d:l[i]?=some v):w.rangeAt b (c+8*i) (vtC v):=by
 rcases h.op.2 with rfl|⟨b',off',ha,hc⟩
 .simp at d
 .rw[e]at ha;cases ha;exact hc i v d
theorem Sv.ad(h:Sv w x.v l){i:Nat}(c:i<l.length):∃ b off,x.a=some ⟨b,off,none⟩:=by
 rcases h.op.2 with rfl|⟨b',off',ha,hc⟩
 .exact absurd c (nQ _)
 .exact⟨b',off',ha⟩
theorem Sv.s3{x:Value}(h:Sv w x l):∃ y:S3,x=y.v:=by
 obtain⟨⟨a,b,e,_,_,c⟩,_⟩:=h;exact⟨⟨a,l.length,b⟩,e⟩
theorem IY(p:Bal)(x:Value)(l:List Vt)(w:World)(h:Sv w x l)(S:NTab w) :
  Calls prog 131 #[.agg (acA p x)] w λe w'=>e=.returned (.int .i64 (Fr ⟨p,l⟩))/\Bw w w':=by
 obtain⟨y,rfl⟩:=h.s3;have hn:=h.op.1;have a7:=h.len;show Calls prog 131 #[.agg #[iv p.r,iv p.n,S3.v y]] w _;refine tIn [] func131 trivial (tR 7 [0,0] λf _ _=>IG 43 (λL K d=>∃ (v:Bool),L=[(1,pt (f 0) 0),(15,.bool v)]/\K=[⟨(f 0),.cells #[iv p.r,iv p.n,S3.v y] 78,.z,false⟩]/\d=[]/\v=!decide (Ap p)) (λJ u=>?_) ?_)
 .refine tR 4 [0] λa8 _ _=>?_;by_cases q:p=Bb
  .refine tV 3 (.bool false) (λF C=>(I8 (x:=(.tmp 7)) (y:=(.tmp 8)) p Bb q)) (tR 7 [] λa9 _ _=>tD u [true] ⟨false,rfl,rfl,rfl,by rw[q];rfl⟩ (λF=>trivial))
  .refine tV 3 (.bool true) (λF C=>(I9 (x:=(.tmp 7)) (y:=(.tmp 8)) p Bb q)) (tR 3 [0] λb0 _ _=>tC1 7 (λF C=>I1 (b:=p) rfl) λ_=>tR 3 [] λb1 _ _=>tD u [true] ⟨_,rfl,rfl,rfl,jQ q⟩ (λF=>trivial))
 rintro _ _ _ ⟨v,rfl,rfl,rfl,H⟩ _ _ _;by_cases q:v=true
 .refine tI (v) true q (tR 4 [] λb2 _ _=>tE (iv 5) λ_ B=>⟨by rw[Fr,if_neg λg:Ah _=>absurd g.1 (by simpa[q]using H.symm)],B⟩)
 .refine tI (v) false (by simpa using q) ?_;have hp:Ap p:=by simpa[q]using H.symm
  refine tR 14 [0] λb3 _ _=>Dx 43 [(1,pt (f 0) 0),(3,iv 0),(17,S3.v y),(18,iv (y.n:Int)),(19,iv 0)] [true] [⟨(f 0),.cells #[iv p.r,iv p.n,S3.v y] 78,.z,false⟩] [] (λkk L K d=>∃ (j:Nat) (n:Int),kk=y.n-j/\L=[(1,pt (f 0) 0),(3,iv n),(17,S3.v y),(18,iv (y.n:Int)),(19,iv (j:Int))]/\K=[⟨(f 0),.cells #[iv p.r,iv p.n,S3.v y] 78,.z,false⟩]/\d=[]/\j<=y.n/\Ah ⟨p,l.take j⟩/\KJ (l.take j) n) (y.n) ⟨0,0,rfl,rfl,rfl,rfl,by omega,⟨hp,λv H=>(by cases H),trivial⟩,KJ.nil⟩ (λF=>trivial) ?_;rintro k _ _ _ ⟨j,n,rfl,rfl,rfl,rfl,hj,E,G⟩ _ _ _ J u;refine tR 5 [] λU _ _=>?_;by_cases I:j<y.n
  .refine tI ((decide ((j:Int)<(y.n:Int)))) true (O' (by omega)) ?_;obtain⟨v,H⟩:∃ v,l[j]?=some v:=⟨_,G' (by omega)⟩;obtain⟨b,O,Q⟩:=h.ad (i:=j) (by omega);have N:l.take (j+1)=l.take j++[v]:=FO l j v H;refine tR 5 [] λV _ _=>tV 0 (pt b (O+8*j)) (λF C=>(Uq Q j (by omega))) (tV 1 (.agg #[iv v.bt,iv v.b.r,iv v.b.n,iv v.w.k,iv v.w.c,iv v.w.s,iv v.w.n,iv v.w.v]) (λF C=>(dL v ((h.af (CgQ.af C)).at_ Q H))) (tR 5 [0,0,1,0] λD _ _=>IG 43 (λL K d=>∃ (z:Bool),L=[(1,pt (f 0) 0),(3,iv n),(5,pt (D 0) 0),(17,S3.v y),(18,iv (y.n:Int)),(19,iv (j:Int)),(38,.bool z)]/\K=[⟨(f 0),.cells #[iv p.r,iv p.n,S3.v y] 78,.z,false⟩,⟨(D 0),.cells #[iv v.bt,iv v.b.r,iv v.b.n,iv v.w.k,iv v.w.c,iv v.w.s,iv v.w.n,iv v.w.v] 140,.z,false⟩]/\d=[]/\z=!decide (Ah ⟨p,l.take j++[v]⟩)) (λJ u=>?_) ?_))
   .refine tR 2 [1] λW _ _=>?_;by_cases I:Ai v
    .refine tC1 1 (λF C=>GM (v:=v) (S.af (CgQ.af C)) (r:=true) (O' I)) λ_=>tR 5 [1] λX _ _=>?_;have R:=G.2.2 v.bt I.1.1;by_cases P:v.bt<n
     .refine tV 7 (.bool true) (λF C=>(rLt (t:=3) (m:=v.bt) (n:=n) (x:=(.tmp 28)) (y:=(.tmp 29)) (O' P))) (tR 9 [] λY _ _=>tD u [true,true] ⟨true,rfl,rfl,rfl,by rw[E' λg=>absurd (R.2 (Ig.1 g).2.2) (by omega)];rfl⟩ (λF=>trivial))
     .refine tV 7 (.bool false) (λF C=>(rLt (t:=3) (m:=v.bt) (n:=n) (x:=(.tmp 28)) (y:=(.tmp 29)) (E' P))) (tR 6 [0,1] λZ _ _=>tC1 14 (λF C=>Ei (a:=p) (b:=v.b) rfl) λ_=>tR 2 [] λa0 _ _=>tD u [true,true] ⟨_,rfl,rfl,rfl,jk (Ig.trans ⟨λg=>g.2.1.2,λg=>⟨E,⟨I,g⟩,R.1 (by omega)⟩⟩)⟩ (λF=>trivial))
    .refine tC1 1 (λF C=>GM (v:=v) (S.af (CgQ.af C)) (r:=false) (E' I)) λ_=>tR 15 [] λa1 _ _=>tD u [true,true] ⟨true,rfl,rfl,rfl,by rw[E' λg=>I (Ig.1 g).2.1.1];rfl⟩ (λF=>trivial)
   rintro _ _ _ ⟨z,rfl,rfl,rfl,T⟩ _ _ _;by_cases M:z=true
   .refine tI (z) true M (tR 4 [] λa2 _ _=>tE (iv 5) λ_ B=>⟨by rw[Fr,if_neg λg=>absurd (N▸WS g (j+1)) (by simpa[M]using T.symm)],B⟩)
   .refine tI (z) false (by simpa using M) ?_;have A:Ah ⟨p,l.take j++[v]⟩:=by simpa[M]using T.symm
    have o:=(Ig.1 A).2;refine tR 4 [1] λa3 _ _=>tV 2 (iv (v.bt+1)) (λF C=>(AK 40 v.bt underlying3 (by have:=o.1.1.1;omega))) (tR 4 [] λa4 _ _=>tV 0 (iv ((j:Int)+1)) (λF C=>(AK 19 (j:Int) underlying3 (by omega))) (tR 2 [] λa5 _ _=>tB u (y.n-(j+1)) (by omega) [true,false] ⟨j+1,v.bt+1,rfl,rfl,rfl,rfl,by omega,by rw[N];exact A,by rw[N];exact G.snoc o.1.1.1.1 o.1.1.1.2 ((G.2.2 v.bt o.1.1.1.1).2 o.2)⟩ (λF=>trivial)))
  .refine tI ((decide ((j:Int)<(y.n:Int)))) false (E' (by omega)) ?_;rw[mq (by omega)]at E
   refine tR 5 [] λa6 _ _=>tE (iv 0) λ_ B=>⟨by rw[Fr,if_pos E],B⟩
theorem Sv.cells{ad:Addr}{m:List Vt}(h:Sv w (.slice (some ad) n cap) m):∀ j u,(vtL m)[j]?=some u->w.cell? (ad.add j)=some u:=by
 intro j u d;obtain⟨⟨a,l,e,o,p,f⟩,_⟩:=h;simp only[Value.slice.injEq]at e;obtain⟨rfl,rfl,rfl⟩:=e;rcases f with rfl|⟨b,off,hab,_,hcell⟩
 .simp[vtL]at d
 .obtain rfl:ad=⟨b,off,none⟩:=by simpa using hab
  obtain⟨v,g,i⟩:=aV m j u d;have c:(⟨b,off,none⟩:Addr).add j=⟨b,off+j,none⟩:=by unfold Addr.add;split<;>simp_all
  rw[c];have k:=hcell (j/8) v g (j%8) u i
  rwa [show off+8*(j/8)+j%8=off+j by omega]at k
theorem QL(w:World)(b s B C e:Nat)(t:P.underlying s=some (.slice e))(o:(P.info? e).map (·.size)=some 8)(g n:Nat)(D:List Value)(f:w.ownsRow b e 8 (.slice (some ⟨g,0,none⟩) n n) n D)(u:Value)(m:List Vt)(c:m.length=n)(v:Sv w u m) :
  ∃ w',(Builtin.copy_ #[s,B] C #[.slice (some ⟨g,0,none⟩) n n,u]).run P w=.ok (goInt n) w'/\w'.ownsRow b e 8 (.slice (some ⟨g,0,none⟩) n n) n (vtL m)/\Below g w w':=by
 obtain⟨i,h,y⟩:∃ i,P.info? e=some i/\i.size=8:=by
  cases h:P.info? e with
  | none=>rw[h]at o;cases o
  | some i=>rw[h]at o;exact⟨i,rfl,by simpa using o⟩
 rcases f.2 with⟨h0,_⟩|⟨g',cap,cur,hvv,hbg,hg,hnc,hcm,hcs,ht⟩
 .cases h0
 .simp only[Value.slice.injEq,Y',Addr.mk.injEq]at hvv;obtain⟨⟨rfl,_⟩,_,rfl⟩:=hvv;have l:=v;obtain⟨⟨a,x,rfl,F,A,E⟩,_⟩:=v;rw[c]at l ⊢
  cases a with
  | none =>
   have p:=A rfl;subst p;have q:n=0:=by omega
   subst q;have r:m=[]:=Z' c;subst r;refine⟨w,?_,⟨rfl,.inr ⟨g,0,cur,rfl,hbg,hg,hnc,hcm,hcs,by simp[vtL]⟩⟩,Below.refl _ _⟩;simp[Builtin.copy_,run_underlying t,Builtin.lenOf,Builtin.firstCells,sizeOf,typeInfo,h,storeCells]
  | some ad =>
   have z:=run_firstCells_some (P:=P) w 8 n ad n x (vtL m) (by rw[Db,c]) l.cells;have j:=run_storeCells_at P g 0 e (vtL m) 0 cur w hg (by rw[Db,c];omega) (UF m);have d:(cur.toList.take (0+0)++vtL m++cur.toList.drop (0+0+(vtL m).length))=vtL m:=by
    rw[Db,c,mP (by rw[nz];omega)];simp
   rw[d]at j
   refine⟨w.setRow g (vtL m).toArray,?_,⟨by rw[Db,c],.inr ⟨g,n,(vtL m).toArray,rfl,hbg,setRow_heap w g cur _ e _ hg,A' _,hcm,by simp[Db,c],?_⟩⟩,?_⟩
   .simp[Builtin.copy_,run_underlying t,Builtin.lenOf,sizeOf,typeInfo,h,y,z,j]
   .rw[mq (by simp[Db,c])]
   .exact⟨rfl,rfl,rfl,by simp,λk G=>setRow_other w g k _ (by omega)⟩
theorem My(w:World){j:Array Oper}{c:List Oper}{o:Oper}{a:Act}{Q:Exit->Act->World->Prop}(l:o.guard=none)(d s:Operand)(k q:TypeId)(y:o.op=.call { callee:=.builtin .copy,args:=#[d,s],argTypes:=#[k,q] })(b e:Nat)(A:P.underlying k=some (.slice e))(z:(P.info? e).map (·.size)=some 8)(g n:Nat)(r:List Value)(v:a.eval d=.slice (some ⟨g,0,none⟩) n n)(f:w.ownsRow b e 8 (.slice (some ⟨g,0,none⟩) n n) n r)(u:Value)(p:a.eval s=u)(m:List Vt)(x:m.length=n)(B:Sv w u m)(h:∀ w',w'.ownsRow b e 8 (.slice (some ⟨g,0,none⟩) n n) n (vtL m)->Below g w w'->wpList P j Q c (a.put o.dst (goInt n)) w'):wpList P j Q (o::c) a w:=by
 refine wpList_plain l λK t=>?_;obtain⟨w',i,C,D⟩:=QL (P:=P) w b k q o.type e A z g n r f u m x B;unfold Oper.wp execOp;simp only[y,resolve,invoke,builtin,Sem.run_bind,Sem.run_pure,Result.andThen_ok,oN,mN,nA,v,p,i];exact t _ _ (h w' C D)
theorem M2(w:World){g:Array Oper}{d:List Oper}{o:Oper}{a:Act}{Q:Exit->Act->World->Prop}(v:o.guard=none)(l c:Operand)(t:TypeId)(h:o.op=Op.makeSlice t l c)(b:Nat)(e:TypeId)(r:P.underlying t=some (.slice e))(f:(P.info? e).map (λi=>(i.zero,i.size,i.bytes))=some (some zVt,8,64))(n:Nat)(y:a.eval l=.int .i64 (n:Int))(u:a.eval c=.int .i64 (n:Int))(B:n<=2199023255488)(p:b<=w.heap.size)(s:∀ w',Hid (∃ xs,w'.ownsRow b e 8 (.slice (some ⟨w.heap.size,0,none⟩) n n) n xs)->w.grownBy w' none->wpList P g Q d (a.put o.dst (.slice (some ⟨w.heap.size,0,none⟩) n n)) w'):wpList P g Q (o::d) a w:=by
 obtain⟨z,x,j,k,m⟩:=info_parts f;refine wpList_make_full w v l c t h b e z zVt 8 r x j k _ _ _ _ n y u rfl rfl (by rw[m];omega) (by unfold maxLen;omega) p (λw' A q=>s w' ⟨_,A⟩ q)
theorem FE{b a c:Nat}{v:Value}(h:w.ownsRow b e c v n xs)(d:a<=b):w.ownsRow a e c v n xs:=by
 refine⟨h.1,?_⟩;rcases h.2 with h2|⟨g,cap,cur,hv,hbg,hr⟩
 .exact .inl h2
 .exact .inr ⟨g,cap,cur,hv,me d hbg,hr⟩
theorem vt8:(prog.info? 140).map (·.size)=some 8:=by kernel_rfl
theorem RD(x:Value)(l:List Vt)(w:World)(h:Sv w x l) :
  Calls prog 134 #[x] w λe w'=>∃ x',e=.returned x'/\w'.ownsRow w.heap.size 140 8 x' l.length (vtL l)/\Bw w w':=by
 have b:=h.len;obtain⟨a,v,rfl⟩:=h.shape;obtain⟨N,f⟩:∃ N,l.length=N:=⟨_,rfl⟩;have n:Hid (l.length=N):=f;rw[f]at h b ⊢
 clear f;go_enter func134,ntmps134
 go_wp2_with ((with_reducible (refine CX ?_));at_make;refine M2 _ rfl _ _ 76 rfl w.heap.size 140 underlying76 EM N rfl rfl b (A' _) ?_)
 intro m c q;have i:Bw w m:=(Below.refl _ _).grown q (A' _) (λk s=>by cases s);have r:=h.af i;obtain⟨u,c⟩:=c.out;have g:Hid (m.ownsRow w.heap.size 140 8 (.slice (some ⟨w.heap.size,0,none⟩) N N) N u):=c;clear c;go_wp2_with ((with_reducible (refine CX ?_));refine My _ rfl _ _ 76 76 rfl w.heap.size 140 underlying76 vt8 w.heap.size N _ rfl g.out _ rfl l n.out r ?_)
 intro t j o;have d:Hid (t.ownsRow w.heap.size 140 8 (.slice (some ⟨w.heap.size,0,none⟩) N N) N (vtL l)):=j;have p:=i.trans o;clear j g;go_wp2
 go_ret;exact⟨_,rfl,d.out,p⟩
theorem Sv.first(h:Sv w (.slice a n cap) l)(i:Nat)(v:Vt)(e:l[i]?=some v):∃ b off,a=some ⟨b,off,none⟩/\b<w.heap.size/\w.cell? ⟨b,off+8*i,none⟩=some (.int .i64 v.bt):=by
 obtain⟨b,off,c,d,f⟩:=h.spot i v e;exact⟨b,off,c,d,f 0 _ rfl⟩
theorem Ta(f g:Nat)(a:Option Addr)(n c:Nat)(l:List Vt)(s:Int)(i:Nat)(v:Vt)(w:World)(u:l.length=n)(j:l[i]?=some v)(h:Sv w (.slice a n c) l)(p:w.cell? ⟨f,0,none⟩=some (.slice a n c))(q:w.cell? ⟨g,0,none⟩=some (.int .i64 s)) :
  Calls prog 184 #[.int .i64 (i:Int),.pointer (some ⟨f,0,none⟩),.pointer (some ⟨g,0,none⟩)] w λe w'=>e=.returned (.bool (decide (s<=v.bt)))/\Bw w w':=by
 obtain⟨b,d,rfl,t,r⟩:=h.first i v j;have hin:i<n:=by have:=(V'.1 j).1;omega
 have o:=Jr b d n c i hin;have k:=Below.refl w.heap.size w;go_enter func184,ntmps184
 go_wp2_with fail
 go_quiet (fail)
 have m:Bw w (w.drewN nq):=Ar k nq;go_wp2
 go_ret;exact⟨Ax (by simp),m⟩
theorem Tk(o q:Nat)(a:Option Addr)(n f:Nat)(l:List Vt)(s:Int)(w:World)(B:l.length=n)(M:BL l)(h:Sv w (.slice a n f) l)(N:o<w.heap.size)(O:q<w.heap.size)(G:w.cell? ⟨o,0,none⟩=some (.slice a n f))(H:w.cell? ⟨q,0,none⟩=some (.int .i64 s)) :
  Calls prog 183 #[.int .i64 (n:Int),.func (.func 184) #[] #[.pointer (some ⟨o,0,none⟩),.pointer (some ⟨q,0,none⟩)]] w λe w'=>∃ p:Nat,e=.returned (.int .i64 (p:Int))/\Plc l s p/\Bw w w':=by
 have t:=h.len;rw[B]at t
 have y:Hid (l.length=n):=B;clear B;go_enter func183,ntmps183
 go_wp2_with fail
 go_loopw [5,6] (λiv C wr=>∃ i j:Nat,i<=j/\j<=n/\iv=.int .i64 (i:Int)/\C=.int .i64 (j:Int)/\(∀ (k:Nat) (v:Vt),k<i->l[k]?=some v->v.bt<s)/\(∀ (k:Nat) (v:Vt),j<=k->l[k]?=some v->s<=v.bt)/\Bw w wr) (λiv C _=>(intOf C-intOf iv).toNat)
 case atStart=>exact⟨0,n,by omega,by omega,rfl,rfl,λk v K=>by omega,λk v K g=>by have:=(V'.1 g).1;have:=y.out;omega,Below.refl _ _⟩
 case round =>
  obtain⟨i,j,I,J,rfl,rfl,u,r,b⟩:=hrel;have d:Hid (∀ (k:Nat) (v:Vt),k<i->l[k]?=some v->v.bt<s):=u;have c:Hid (∀ (k:Nat) (v:Vt),j<=k->l[k]?=some v->s<=v.bt):=r;clear u r;by_cases L:i<j
  .have hlt':(i:Int)<(j:Int):=by omega
   go_wp2_with fail
   obtain⟨m,E⟩:∃ m:Nat,((i:Int)+(j:Int))/2=(m:Int):=⟨(i+j)/2,by omega⟩;rw[E];have P:i<=m:=by omega
   have Q:m<j:=by omega
   clear E;obtain⟨v,g⟩:∃ v,l[m]?=some v:=⟨_,G' (by have:=y.out;omega)⟩;refine(Ta o q a n f l s m v wr y.out g (h.af b) ((b.cell (p:=⟨o,0,none⟩) N).trans G) ((b.cell (p:=⟨q,0,none⟩) O).trans H)).mono ?_;rintro e R ⟨rfl,F⟩;have D:=b.trans (F.mono b.size);obtain⟨P1,A⟩:=Plc.half M g d.out c.out;by_cases x:s<=v.bt
   .rw[O' x];have z:Hid (∀ (k:Nat) (v:Vt),m<=k->l[k]?=some v->s<=v.bt):=A x;clear P1 A g x;go_wp2
    go_roundw
    case rel=>exact⟨i,m,by omega,by omega,rfl,rfl,d.out,z.out,D⟩
    case measure=>simp[intOf];omega
   .rw[E' x];have z:Hid (∀ (k:Nat) (v:Vt),k<m+1->l[k]?=some v->v.bt<s):=P1 (by omega);clear P1 A g x;go_wp2
    go_roundw
    case rel=>exact⟨m+1,j,by omega,by omega,by go_num,rfl,z.out,c.out,D⟩
    case measure=>simp[intOf];omega
  .obtain rfl:i=j:=by omega
   go_wp2
   go_ret;exact⟨i,rfl,⟨by have:=y.out;omega,d.out,c.out⟩,b⟩
theorem JO(x:Value)(l:List Vt)(s:Int)(w:World)(v:BL l)(h:Sv w x l) :
  Calls prog 165 #[x,.int .i64 s] w λe w'=>∃ p:Nat,e=.returned (.int .i64 (p:Int))/\Plc l s p/\Bw w w':=by
 obtain⟨a,b,rfl⟩:=h.shape;obtain⟨n,f⟩:∃ n,l.length=n:=⟨_,rfl⟩;rw[f]at h ⊢
 have m:Hid (l.length=n):=f;clear f;have j:=heap_alloc2_old w (.cells #[.slice a n b] 76) (.cells #[.int .i64 s] 3);have k:=heap_alloc2_new w (.cells #[.slice a n b] 76) (.cells #[.int .i64 s] 3);have c:Bw w ((w.alloc (.cells #[.slice a n b] 76)).alloc (.cells #[.int .i64 s] 3)):=((Below.refl _ _).alloc (A' _) _).alloc (by simp) _;generalize g:(w.alloc (.cells #[.slice a n b] 76)).alloc (.cells #[.int .i64 s] 3)=W at j k c;have z:W.heap.size=w.heap.size+2:=by rw[<- g];simp
 have r:W.cell? ⟨w.heap.size,0,none⟩=some (.slice a n b):=cell_of_row _ _ 0 _ _ _ j;have t:W.cell? ⟨w.heap.size+1,0,none⟩=some (.int .i64 s):=cell_of_row _ _ 0 _ _ _ k;have d:=h.af c;go_enter func165,ntmps165
 go_wp2_with fail
 clear g;refine(Tk w.heap.size (w.heap.size+1) a n b l s W m.out v d (by omega) (by omega) r t).mono ?_;rintro e y ⟨p,rfl,i,q⟩;have u:=c.trans (q.mono c.size);have o:Hid (Plc l s p):=i;clear i;go_wp2
 go_ret;exact⟨p,rfl,o.out,u⟩
def Lr(l:List Vt)(p:Nat)(s:Int):Bool:=match l[p]? with|some v=>decide (v.bt=s)|none=>false
theorem Jf(h:l[p]?=some v):Lr l p s=decide (v.bt=s):=by unfold Lr;rw[h]
theorem N1(h:l[p]?=none):Lr l p s=false:=by unfold Lr;rw[h]
theorem NA(h:Lr l p s=true):∃ v,l[p]?=some v/\v.bt=s:=by
 cases hu:l[p]? with
 | none=>rw[N1 hu]at h;cases h
 | some v=>rw[Jf hu]at h;exact⟨v,rfl,mI h⟩
theorem Ls(h:Lr l p s=false):∀ v,l[p]?=some v->v.bt≠s:=by
 intro v a;rw[Jf a]at h
 exact of_decide_eq_false h
theorem JH(x:Value)(l:List Vt)(p:Nat)(s:Int)(w:World)(h:Sv w x l) :
  Calls prog 166 #[x,.int .i64 (p:Int),.int .i64 s] w λe w'=>e=.returned (.bool (Lr l p s))/\w'=w:=by
 obtain⟨a,g,rfl⟩:=h.shape;obtain⟨n,c⟩:∃ n,l.length=n:=⟨_,rfl⟩;rw[c]at h ⊢
 by_cases j:p<n
 .obtain⟨v,hv⟩:∃ v,l[p]?=some v:=⟨_,G' (by omega)⟩;obtain⟨b,f,rfl,m,k⟩:=h.first p v hv;have i:=Jr b f n g p j;have d:(p:Int)<(n:Int):=by omega
  rw[Jf hv];clear c hv h;go_enter func166,ntmps166
  go_wp2
  go_ret;exact⟨Ax (by first|rfl|simp),rfl⟩
 .have hv:l[p]?=none:=nJ (by omega);have d:¬ (p:Int)<(n:Int):=by omega
  rw[N1 hv];clear c hv h;go_enter func166,ntmps166
  go_wp2
  go_ret;exact⟨rfl,rfl⟩
theorem Sv.qX(h:Sv w (.slice a n cap) l)(d f:Nat)(j:d<=f)(g:f<=l.length):Sv w (sliced a d f cap 8) ((l.take f).drop d):=by
 obtain⟨⟨s,k,e,u,r,p⟩,q⟩:=h;simp only[Value.slice.injEq]at e;obtain⟨rfl,rfl,rfl⟩:=e;have m:((l.take f).drop d).length=f-d:=by rw[mm,X'];omega
 cases a with
 | none =>
  have o:=r rfl;subst o;have t:l.length=0:=by omega
  refine⟨⟨_,_,by rw[m];rfl,by omega,λ_=>by omega,.inl (Z' (by omega))⟩,by omega⟩
 | some ad =>
  refine⟨⟨_,_,by rw[m];rfl,by omega,(by intro h;split at h<;>simp at h),?_⟩,by omega⟩;rcases Nat.eq_or_lt_of_le j with he|hlt
  .exact .inl (Z' (by omega))
  .rcases p with rfl|⟨b,off,e2,hbs,hcell⟩
   .simp at g;omega
   .simp only[Y']at e2;subst e2;refine .inr ⟨b,off+d*8,?_,hbs,λi v c=>?_⟩
    .rw[if_neg (by omega)];simp[Addr.add]
    .rw[nc,na]at c
     split at c
     .have:=hcell (d+i) v c
      rwa [show off+8*(d+i)=off+d*8+8*i by omega]at this
     .cases c
theorem Sv.qp(h:Sv w (.slice a n cap) l)(b:Nat)(c:b<=l.length) :
  ∃ a' c',(∀ W,(Instr.slice 76 (.slice a n cap) none (some (.int .i64 (b:Int))) none).run prog W=.ok (.slice a' b c') W)/\Sv w (.slice a' b c') (l.take b):=by
 have g:=h.qX 0 b (by omega) c;obtain⟨⟨a',d,e,j,k,i⟩,f⟩:=h;simp only[Value.slice.injEq]at e;obtain⟨rfl,rfl,rfl⟩:=e;refine⟨_,_,λW=>?_,by simpa[sliced]using g⟩;rw[run_slice_h (P:=prog) W 76 a _ cap underlying76 .i64 _ (by omega) (by omega)];rw[RN,Tm];simp[Result.andThen,sliced]
theorem Sv.from(h:Sv w (.slice a n cap) l)(b:Nat)(c:b<=l.length) :
  ∃ a' c',(∀ W,(Instr.slice 76 (.slice a n cap) (some (.int .i64 (b:Int))) none none).run prog W=.ok (.slice a' (n-b) c') W)/\Sv w (.slice a' (n-b) c') (l.drop b):=by
 have g:=h.qX b l.length c (A' _);obtain⟨⟨a',d,e,j,k,i⟩,f⟩:=h;simp only[Value.slice.injEq]at e;obtain⟨rfl,rfl,rfl⟩:=e;refine⟨_,_,λW=>?_,by simpa[sliced]using g⟩;rw[run_slice_l (P:=prog) W 76 a _ cap underlying76 .i64 _ (by omega) (by omega)];rw[RN,Tm];simp[Result.andThen,sliced]
theorem Fo(w:World){g:Array Oper}{d:List Oper}{o:Oper}{a:Act}{Q:Exit->Act->World->Prop}(x:o.guard=none)(l c:Operand)(t:TypeId)(h:o.op=Op.makeSlice t l c)(b:Nat)(e:TypeId)(r:P.underlying t=some (.slice e))(f:(P.info? e).map (λi=>(i.zero,i.size,i.bytes))=some (some zVt,8,64))(C:Int)(n:Nat)(z:a.eval l=.int .i64 0)(v:a.eval c=.int .i64 C)(s:C=(n:Int))(D:n<=2199023255500)(p:b<=w.heap.size)(u:∀ w',Hid (w'.ownsRow b e 8 (.slice (some ⟨w.heap.size,0,none⟩) 0 n) ([]:List Vt).length (vtL []))->w.grownBy w' none->wpList P g Q d (a.put o.dst (.slice (some ⟨w.heap.size,0,none⟩) 0 n)) w'):wpList P g Q (o::d) a w:=by
 obtain⟨A,y,j,k,m⟩:=info_parts f;exact wpList_make_own w x l c t h b e A zVt 8 r y j k _ _ C n z v s (by rw[m];omega) (by unfold maxLen;omega) p (λw' B q=>u w' B q)
theorem Pw(x:Value)(l:List Vt)(v:Vt)(w:World)(hr:BL l)(h:Sv w x l) :
  Calls prog 139 #[x,.agg (vtA v)] w λe w'=>∃ x',e=.returned x'/\w'.ownsRow w.heap.size 140 8 x' (Bn l v).length (vtL (Bn l v))/\Bw w w':=by
 have Z:=h.len;obtain⟨a,cp,rfl⟩:=h.shape;obtain⟨n,hn⟩:∃ n,l.length=n:=⟨_,rfl⟩;rw[hn]at h Z ⊢
 have R:Hid (l.length=n):=hn;clear hn;have P:Bw w (w.alloc (.cells (vtA v) 140)):=(Below.refl _ _).alloc (A' _) _;have B:=heap_alloc_new w (.cells (vtA v) 140);have M:=jb v;have HU:Hid (∀ p,Plc l v.bt p->Lr l p v.bt=true->Bn l v=l.take p++[v]++l.drop (p+1)/\p+1<=l.length):=λp E D=>by
  obtain⟨u,hu,he⟩:=NA D;exact⟨by rw[E.has hu he];simp,by have:=(V'.1 hu).1;omega⟩
 have HN:Hid (∀ p,Plc l v.bt p->Lr l p v.bt=false->Bn l v=l.take p++[v]++l.drop p/\p<=l.length):=λp E D=>⟨by rw[E.no (Ls D)];simp,E.le⟩;obtain⟨c,⟨m,i⟩,⟨f,d,j,g,o⟩⟩:=v;simp only[vtA,vtC]at P B M ⊢;generalize hW:w.alloc (.cells [.int .i64 c,.int .i64 m,.int .i64 i,.int .i64 f,.int .i64 d,.int .i64 j,.int .i64 g,.int .i64 o].toArray 140)=W at P B;have a3:w.heap.size<W.heap.size:=(U'.1 B).1;have c0:W.cell? ⟨w.heap.size,0,none⟩=some (.int .i64 c):=cell_of_row _ _ 0 _ _ _ B;go_enter func139,ntmps139
 go_wp2_with fail
 clear hW;refine(JO _ l c W hr (h.af P)).mono ?_;rintro e w1 ⟨p,rfl,E,b1⟩;have C:=P.trans (b1.mono P.size);have F:w.heap.size<w1.heap.size:=j' a3 b1.size;replace B:=(b1.block _ a3).trans B;have c0:w1.cell? ⟨w.heap.size,0,none⟩=some (.int .i64 c):=cell_of_row _ _ 0 _ _ _ B;have Q:=h.af C;have a5:p<=n:=by have:=E.le;have:=R.out;omega
 have HP:Hid (Plc l c p):=E;clear b1 P E;go_wp2_with fail
 refine(JH _ l p c w1 Q).mono ?_;rintro e b ⟨rfl,rfl⟩;obtain⟨a1,k1,u1,su⟩:=Q.qp p HP.out.le;have a0:(l.take p).length<=n:=by rw[X'];omega
 have hz:=C.size;generalize D:Lr l p c=bh;cases bh
 .obtain⟨HI0,hk0⟩:=HN.out p HP.out D;have G:Hid (Bn l ⟨c,⟨m,i⟩,⟨f,d,j,g,o⟩⟩=l.take p++([⟨c,⟨m,i⟩,⟨f,d,j,g,o⟩⟩]:List Vt)++l.drop (p)):=HI0;obtain⟨a2,k2,u2,sd⟩:=Q.from (p) hk0;have t:(l.take p).length+(l.drop (p)).length<=n:=by rw[X',mm];have:=R.out;omega
  have T:Hid (∀ w',Bw b w'->Sv w' (.slice a1 p k1) (l.take p)):=λw' L=>su.af L;have S:Hid (∀ w',Bw b w'->Sv w' (.slice a2 (n-(p)) k2) (l.drop (p))):=λw' L=>sd.af L;clear HI0 HU HN D su sd Q h hr;generalize l.take p=LP at G T a0 t;generalize l.drop (p)=LD at G S t;have a4:(p)<=n:=by have:=R.out;omega
  go_wp2_with ((with_reducible (refine CX ?_));at_make;refine Fo _ rfl _ _ 76 rfl b.heap.size 140 underlying76 EM _ (n+1) rfl rfl (by first|rfl|omega) (by omega) (A' _) ?_)
  intro w3 N U;have I:Bw b w3:=(Below.refl _ _).grown U (A' _) (λk s=>by cases s);have z3:=I.size;clear U;go_wp2_with ((with_reducible (refine CX ?_));at_builtin;refine B3 _ rfl _ _ 76 rfl b.heap.size 140 zVt underlying76 EM rfl _ _ rfl rfl [] (LP) N.out (T.out w3 I) (by simp;omega) (by omega) ?_)
  intro v4 w4 o4 V;have J:Bw b w4:=I.grown V (by omega) (λk s=>(N.out.lt k s).1);have z4:=J.size;have q:Hid (w4.ownsRow b.heap.size 140 8 v4 (LP).length (vtL (LP))):=by unfold Hid;simpa using o4
  have y:=q.out.lt;have A:=(J.block _ F).trans B;clear o4 V N;go_wp2_with ((with_reducible (refine CX ?_));first|(refine wpList_load_row rfl 140 _ rfl w.heap.size rfl 140 _ (0,0) _ A underlying140 rfl M ?_)|(at_builtin;refine B3 _ rfl _ _ 76 rfl b.heap.size 140 zVt underlying76 EM rfl _ _ rfl rfl (LP) ([⟨c,⟨m,i⟩,⟨f,d,j,g,o⟩⟩]:List Vt) (q.out.alloc _) (Sv.one _ ⟨c,⟨m,i⟩,⟨f,d,j,g,o⟩⟩ _ rfl) (by simp;omega) (by simp;omega) ?_))
  intro v5 O o5 X;have K:Bw b O:=(J.alloc (by omega) _).grown X (by simp;omega) (λk s=>(y k s).1);have z5:=K.size;have r:Hid (O.ownsRow b.heap.size 140 8 v5 (LP++([⟨c,⟨m,i⟩,⟨f,d,j,g,o⟩⟩]:List Vt)).length (vtL (LP++([⟨c,⟨m,i⟩,⟨f,d,j,g,o⟩⟩]:List Vt)))):=by unfold Hid;rw[H'];exact o5
  have z:=r.out.lt;clear o5 X q y A;go_wp2_with ((with_reducible (refine CX ?_));at_builtin;refine B3 _ rfl _ _ 76 rfl b.heap.size 140 zVt underlying76 EM rfl _ _ rfl rfl (LP++([⟨c,⟨m,i⟩,⟨f,d,j,g,o⟩⟩]:List Vt)) (LD) r.out (S.out O K) (by rw[H'];simp;omega) (by omega) ?_)
  intro v6 w6 o6 Y;have b6:Bw b w6:=K.grown Y (by omega) (λk s=>(z k s).1);have H:Hid (w6.ownsRow b.heap.size 140 8 v6 (LP++([⟨c,⟨m,i⟩,⟨f,d,j,g,o⟩⟩]:List Vt)++LD).length (vtL (LP++([⟨c,⟨m,i⟩,⟨f,d,j,g,o⟩⟩]:List Vt)++LD))):=by unfold Hid;simpa using o6
  have d6:=C.trans (b6.mono C.size);clear o6 Y r z;go_wp2
  go_ret;refine⟨v6,rfl,?_,d6⟩;rw[G.out];exact FE H.out C.size
 .obtain⟨HI0,hk0⟩:=HU.out p HP.out D;have G:Hid (Bn l ⟨c,⟨m,i⟩,⟨f,d,j,g,o⟩⟩=l.take p++([⟨c,⟨m,i⟩,⟨f,d,j,g,o⟩⟩]:List Vt)++l.drop (p+1)):=HI0;obtain⟨a2,k2,u2,sd⟩:=Q.from (p+1) hk0;rw[show((p+1:Nat):Int)=(p:Int)+1 by omega]at u2
  have t:(l.take p).length+(l.drop (p+1)).length<=n:=by rw[X',mm];have:=R.out;omega
  have T:Hid (∀ w',Bw b w'->Sv w' (.slice a1 p k1) (l.take p)):=λw' L=>su.af L;have S:Hid (∀ w',Bw b w'->Sv w' (.slice a2 (n-(p+1)) k2) (l.drop (p+1))):=λw' L=>sd.af L;clear HI0 HU HN D su sd Q h hr;generalize l.take p=LP at G T a0 t;generalize l.drop (p+1)=LD at G S t;have a4:(p+1)<=n:=by have:=R.out;omega
  go_wp2_with ((with_reducible (refine CX ?_));at_make;refine Fo _ rfl _ _ 76 rfl b.heap.size 140 underlying76 EM _ (n+1) rfl rfl (by first|rfl|omega) (by omega) (A' _) ?_)
  intro w3 N U;have I:Bw b w3:=(Below.refl _ _).grown U (A' _) (λk s=>by cases s);have z3:=I.size;clear U;go_wp2_with ((with_reducible (refine CX ?_));at_builtin;refine B3 _ rfl _ _ 76 rfl b.heap.size 140 zVt underlying76 EM rfl _ _ rfl rfl [] (LP) N.out (T.out w3 I) (by simp;omega) (by omega) ?_)
  intro v4 w4 o4 V;have J:Bw b w4:=I.grown V (by omega) (λk s=>(N.out.lt k s).1);have z4:=J.size;have q:Hid (w4.ownsRow b.heap.size 140 8 v4 (LP).length (vtL (LP))):=by unfold Hid;simpa using o4
  have y:=q.out.lt;have A:=(J.block _ F).trans B;clear o4 V N;go_wp2_with ((with_reducible (refine CX ?_));first|(refine wpList_load_row rfl 140 _ rfl w.heap.size rfl 140 _ (0,0) _ A underlying140 rfl M ?_)|(at_builtin;refine B3 _ rfl _ _ 76 rfl b.heap.size 140 zVt underlying76 EM rfl _ _ rfl rfl (LP) ([⟨c,⟨m,i⟩,⟨f,d,j,g,o⟩⟩]:List Vt) (q.out.alloc _) (Sv.one _ ⟨c,⟨m,i⟩,⟨f,d,j,g,o⟩⟩ _ rfl) (by simp;omega) (by simp;omega) ?_))
  intro v5 O o5 X;have K:Bw b O:=(J.alloc (by omega) _).grown X (by simp;omega) (λk s=>(y k s).1);have z5:=K.size;have r:Hid (O.ownsRow b.heap.size 140 8 v5 (LP++([⟨c,⟨m,i⟩,⟨f,d,j,g,o⟩⟩]:List Vt)).length (vtL (LP++([⟨c,⟨m,i⟩,⟨f,d,j,g,o⟩⟩]:List Vt)))):=by unfold Hid;rw[H'];exact o5
  have z:=r.out.lt;clear o5 X q y A;go_wp2_with ((with_reducible (refine CX ?_));at_builtin;refine B3 _ rfl _ _ 76 rfl b.heap.size 140 zVt underlying76 EM rfl _ _ rfl rfl (LP++([⟨c,⟨m,i⟩,⟨f,d,j,g,o⟩⟩]:List Vt)) (LD) r.out (S.out O K) (by rw[H'];simp;omega) (by omega) ?_)
  intro v6 w6 o6 Y;have b6:Bw b w6:=K.grown Y (by omega) (λk s=>(z k s).1);have H:Hid (w6.ownsRow b.heap.size 140 8 v6 (LP++([⟨c,⟨m,i⟩,⟨f,d,j,g,o⟩⟩]:List Vt)++LD).length (vtL (LP++([⟨c,⟨m,i⟩,⟨f,d,j,g,o⟩⟩]:List Vt)++LD))):=by unfold Hid;simpa using o6
  have d6:=C.trans (b6.mono C.size);clear o6 Y r z;go_wp2
  go_ret;refine⟨v6,rfl,?_,d6⟩;rw[G.out];exact FE H.out C.size
def Fa.fo(B:Nat)(e:TypeId)(sz:Nat)(x:Value)(n:Nat)(vs:List Value):Fa:=⟨none,λg w=>w.ownsRow B e sz x n vs/\∀ k,x.ownBlock=some k->k<w.heap.size/\g.t k=.z,λhz _ c h=>⟨SL h.1 λk hk=>c.zc hz (h.2 k hk).1 (h.2 k hk).2,λk hk=>⟨j' (h.2 k hk).1 c.size,(c.tag (h.2 k hk).1 λe=>by rw[(h.2 k hk).2]at e;cases e).trans (h.2 k hk).2⟩⟩⟩
theorem Yb{g:Gh}{a:Nat}(h:w.ownsRow B e sz y n xs)(d:a<=B)(G:∀ b,B<=b->g.t b=.z):w.ownsRow a e sz y n xs/\∀ k,y.ownBlock=some k->k<w.heap.size/\g.t k=.z:=by
 refine⟨FE h d,λk c=>?_⟩;rcases h.2 with⟨rfl,_⟩|⟨b,cap,cur,rfl,hb,hh,_⟩
 .cases c
 .cases c;exact⟨(U'.1 hh).1,G _ hb⟩
theorem Za(h:w.ownsRow B e sz y n xs):∃ z:S3,y=z.v:=by
 rcases h.2 with⟨rfl,_⟩|⟨b,cap,cur,rfl,_⟩
 .exact⟨s30,rfl⟩
 .exact⟨⟨some ⟨b,0,none⟩,n,cap⟩,rfl⟩
theorem TK{y:S3}(h:Sv w y.v l) :
  Calls prog 134 #[y.v] w λe w'=>∃ z:S3,e=.returned z.v/\w'.ownsRow w.heap.size 140 8 z.v l.length (vtL l)/\Bw w w' :=
 (RD y.v l w h).mono λe w' ⟨x,b,a,c⟩=>by obtain⟨z,rfl⟩:=Za a;exact⟨z,b,a,c⟩
theorem eY{y:S3}(g:BL l)(h:Sv w y.v l) :
  Calls prog 139 #[y.v,.agg #[iv v.bt,iv v.b.r,iv v.b.n,iv v.w.k,iv v.w.c,iv v.w.s,iv v.w.n,iv v.w.v]] w λe w'=>∃ z:S3,e=.returned z.v/\w'.ownsRow w.heap.size 140 8 z.v (Bn l v).length (vtL (Bn l v))/\Bw w w' :=
 (Pw y.v l v w g h).mono λe w' ⟨x,d,a,f⟩=>by obtain⟨z,rfl⟩:=Za a;exact⟨z,d,a,f⟩
end
section
variable{p:Bal}{l:List Vt}{w w':World}
theorem OT{b:Bal}{E:Int}(a:Ce ⟨p,l⟩ b=E)(c:E≠0)(f:Bw w w'):∃ y z,(Ending.returned (.tuple #[.agg #[iv 0,iv 0,sn],sn,iv E]):Ending)=.returned (.tuple #[.agg (acA (Fe ⟨p,l⟩ b) y),z,.int .i64 (Ce ⟨p,l⟩ b)])/\w'.ownsRow w.heap.size 140 8 y (DK ⟨p,l⟩ b).length (vtL (DK ⟨p,l⟩ b))/\w'.ownsRow w.heap.size 140 8 z (DK ⟨p,l⟩ b).length (vtL (DK ⟨p,l⟩ b))/\Bw w w':=by
 have d:Fe ⟨p,l⟩ b=⟨0,0⟩:=if_neg (by rw[a];exact c);have e:DK ⟨p,l⟩ b=[]:=if_neg (by rw[a];exact c);rw[d,e,a];exact⟨sn,sn,rfl,World.ownsRow_nil _ _ _ _,World.ownsRow_nil _ _ _ _,f⟩
theorem dG{b:Bal}{y z:S3}(e:Ah ⟨p,l⟩)(f:Ab b)(h:¬ b.lt p)(j:w'.ownsRow w.heap.size 140 8 y.v l.length (vtL l))(k:w'.ownsRow w.heap.size 140 8 z.v l.length (vtL l))(i:Bw w w'):∃ y' z',(Ending.returned (.tuple #[.agg #[iv b.r,iv b.n,y.v],z.v,iv 0]):Ending)=.returned (.tuple #[.agg (acA (Fe ⟨p,l⟩ b) y'),z',.int .i64 (Ce ⟨p,l⟩ b)])/\w'.ownsRow w.heap.size 140 8 y' (DK ⟨p,l⟩ b).length (vtL (DK ⟨p,l⟩ b))/\w'.ownsRow w.heap.size 140 8 z' (DK ⟨p,l⟩ b).length (vtL (DK ⟨p,l⟩ b))/\Bw w w':=by
 have a:Ce ⟨p,l⟩ b=0:=(if_neg (λg=>g e)).trans ((if_neg (λg=>g f)).trans (if_neg h));have c:Fe ⟨p,l⟩ b=b:=if_pos a;have d:DK ⟨p,l⟩ b=l:=if_pos a;rw[c,d,a];exact⟨y.v,z.v,rfl,j,k,i⟩
end
theorem Dh(p:Bal)(x:Value)(l:List Vt)(b:Bal)(w:World)(h:Sv w x l)(J:NTab w) :
  Calls prog 100 #[.agg (acA p x),.agg (baA b)] w λe w'=>∃ y z,e=.returned (.tuple #[.agg (acA (Fe ⟨p,l⟩ b) y),z,.int .i64 (Ce ⟨p,l⟩ b)])/\w'.ownsRow w.heap.size 140 8 y (DK ⟨p,l⟩ b).length (vtL (DK ⟨p,l⟩ b))/\w'.ownsRow w.heap.size 140 8 z (DK ⟨p,l⟩ b).length (vtL (DK ⟨p,l⟩ b))/\Bw w w':=by
 obtain⟨y,rfl⟩:=h.s3;show Calls prog 100 #[.agg #[iv p.r,iv p.n,S3.v y],.agg #[iv b.r,iv b.n]] w _;refine tIn [] func100 trivial (tR 12 [0,0,0,0,1,0,0] λc _ _=>tC1 1 (λF C=>IY p y.v l _ (h.af (CgQ.af C)) (J.af (CgQ.af C))) λ_=>tR 7 [] λK _ _=>?_);by_cases d:Ah ⟨p,l⟩
 .have hE:Fr ⟨p,l⟩=0:=if_pos d;refine tI (((Fr ⟨p,l⟩) != 0)) false (by rw[hE];decide) (tR 5 [1] λL _ _=>?_);by_cases f:Ab b
  .refine tC1 1 (λF C=>I1 (b:=b) (r:=true) (O' f)) λ_=>tR 10 [1,0] λM _ _=>?_;by_cases k:b.lt p
   .refine tC1 3 (λF C=>Ei (a:=b) (b:=p) (r:=true) (O' k)) λ_=>tR 9 [2,0] λN _ _=>tX λF C=>qE3 4 5 6 78 2 (c 2) #[iv 0,iv 0,sn] sn (iv 7) λ_=>OT ((if_neg (λg=>g d)).trans ((if_neg (λg=>g f)).trans (if_pos k))) (by decide) (CgQ.af C)
   .refine tC1 3 (λF C=>Ei (a:=b) (b:=p) (r:=false) (E' k)) λ_=>tR 10 [8,0,1,2,4,0,10,12,0] λD _ _=>tF λ_ m=>?_;have i:=m.size;refine tC 3 (λF C=>TK (h.af (CgQ.af C))) λo=>?_;rintro _ _ ⟨A,rfl,t,q⟩;refine⟨_,Fa.fo w.heap.size 140 8 A.v l.length (vtL l)::_,rfl,q,λF=>⟨Yb t i o,F⟩,?_⟩;refine tR 1 [8] λE _ _=>tF λ_ m=>?_;have j:=m.size;refine tC 7 (λF C=>TK (h.af (CgQ.af C))) λo=>?_;rintro _ _ ⟨B,rfl,u,s⟩;refine⟨_,Fa.fo w.heap.size 140 8 B.v l.length (vtL l)::_,rfl,s,λF=>⟨Yb u j o,F⟩,?_⟩;refine tR 4 [17,2,0,18,20] λG _ _=>tX λF C=>qE3 4 5 6 78 2 (c 2) #[iv b.r,iv b.n,S3.v A] (S3.v B) (iv 0) λ_=>dG d f k F.2.1.1 F.1.1 (CgQ.af C)
  .refine tC1 1 (λF C=>I1 (b:=b) (r:=false) (E' f)) λ_=>tR 10 [2,0] λH _ _=>tX λF C=>qE3 4 5 6 78 2 (c 2) #[iv 0,iv 0,sn] sn (iv 2) λ_=>OT ((if_neg (λg=>g d)).trans (if_pos f)) (by decide) (CgQ.af C)
 .have hE:Fr ⟨p,l⟩=5:=if_neg d;refine tI (((Fr ⟨p,l⟩) != 0)) true (by rw[hE];decide) ?_;refine tR 8 [2,0] λI _ _=>tX λF C=>qE3 4 5 6 78 2 (c 2) #[iv 0,iv 0,sn] sn (iv (Fr ⟨p,l⟩)) λ_=>by rw[hE];exact OT (if_pos d) (by decide) (CgQ.af C)
theorem CS(a:Acc)(b:Bal):(DK a b).length<=a.vs.length:=by unfold DK;split<;>simp
theorem Q6(p:Bal)(x:Value)(l:List Vt)(b:Bal)(w:World)(h:Sv w x l)(d:NTab w) :
  Calls prog 100 #[.agg (acA p x),.agg (baA b)] w λe w'=>∃ y z,e=.returned (.tuple #[.agg (acA (Fe ⟨p,l⟩ b) y),z,.int .i64 (Ce ⟨p,l⟩ b)])/\Sv w' y (DK ⟨p,l⟩ b)/\Sv w' z (DK ⟨p,l⟩ b)/\Bw w w' :=
 (Dh p x l b w h d).mono λe w' ⟨y,z,c,f,g,a⟩=>⟨y,z,c,Sv.pd f (me (CS ⟨p,l⟩ b) h.len),Sv.pd g (me (CS ⟨p,l⟩ b) h.len),a⟩
section
variable{p:Bal}{l:List Vt}{w w':World}{v:Vt}
theorem gO{p:Bal}{l:List Vt}{v:Vt}(a:Ah ⟨p,l⟩)(b:Ai v):(Bn l v).length<=40:=by
 rw[<- cJ 40 a.2.2 (λu c=>by have:=(a.2.1 u c).1.1;omega) (by have:=b.1;omega)];exact Yh _ a.2.2 40
theorem Ox{E:Int}(a:AX ⟨p,l⟩ v=E)(b:E≠0)(e:Bw w w'):∃ y,(Ending.returned (.tuple #[.agg #[iv 0,iv 0,sn],iv E]):Ending)=.returned (.tuple #[.agg (acA (BH ⟨p,l⟩ v) y),.int .i64 (AX ⟨p,l⟩ v)])/\w'.ownsRow w.heap.size 140 8 y (Bq ⟨p,l⟩ v).length (vtL (Bq ⟨p,l⟩ v))/\(Bq ⟨p,l⟩ v).length<=40/\Bw w w':=by
 have c:BH ⟨p,l⟩ v=⟨0,0⟩:=if_neg (by rw[a];exact b);have d:Bq ⟨p,l⟩ v=[]:=if_neg (by rw[a];exact b);rw[c,d,a];exact⟨sn,rfl,World.ownsRow_nil _ _ _ _,by simp,e⟩
theorem bg{y:S3}(c:Ah ⟨p,l⟩)(d:Ai v)(h:¬ v.b.lt p)(j:w'.ownsRow w.heap.size 140 8 y.v (Bn l v).length (vtL (Bn l v)))(i:Bw w w'):∃ y',(Ending.returned (.tuple #[.agg #[iv v.b.r,iv v.b.n,y.v],iv 0]):Ending)=.returned (.tuple #[.agg (acA (BH ⟨p,l⟩ v) y'),.int .i64 (AX ⟨p,l⟩ v)])/\w'.ownsRow w.heap.size 140 8 y' (Bq ⟨p,l⟩ v).length (vtL (Bq ⟨p,l⟩ v))/\(Bq ⟨p,l⟩ v).length<=40/\Bw w w':=by
 have a:AX ⟨p,l⟩ v=0:=(if_neg (λg=>g c)).trans ((if_neg (λg=>g d)).trans (if_neg h));have e:BH ⟨p,l⟩ v=v.b:=if_pos a;have f:Bq ⟨p,l⟩ v=Bn l v:=if_pos a;rw[e,f,a];exact⟨y.v,rfl,j,gO c d,i⟩
end
section
theorem Cp(p:Bal)(x:Value)(l:List Vt)(v:Vt)(w:World)(h:Sv w x l)(q:NTab w) :
  Calls prog 102 #[.agg (acA p x),.agg (vtA v)] w λe w'=>∃ y,e=.returned (.tuple #[.agg (acA (BH ⟨p,l⟩ v) y),.int .i64 (AX ⟨p,l⟩ v)])/\w'.ownsRow w.heap.size 140 8 y (Bq ⟨p,l⟩ v).length (vtL (Bq ⟨p,l⟩ v))/\(Bq ⟨p,l⟩ v).length<=40/\Bw w w':=by
 obtain⟨y,rfl⟩:=h.s3;show Calls prog 102 #[.agg #[iv p.r,iv p.n,S3.v y],.agg #[iv v.bt,iv v.b.r,iv v.b.n,iv v.w.k,iv v.w.c,iv v.w.s,iv v.w.n,iv v.w.v]] w _;refine tIn [] func102 trivial (tR 11 [0,0,0,0,1,0,0] λd _ _=>tC1 1 (λF C=>IY p y.v l _ (h.af (CgQ.af C)) (q.af (CgQ.af C))) λ_=>tR 7 [] λH _ _=>?_);by_cases f:Ah ⟨p,l⟩
 .have hE:Fr ⟨p,l⟩=0:=if_pos f;refine tI (((Fr ⟨p,l⟩) != 0)) false (by rw[hE];decide) (tR 5 [1] λI _ _=>?_);by_cases i:Ai v
  .refine tC1 1 (λF C=>GM (v:=v) (q.af (CgQ.af C)) (r:=true) (O' i)) λ_=>tR 11 [1,0] λJ _ _=>?_;by_cases m:v.b.lt p
   .refine tC1 4 (λF C=>Ei (a:=v.b) (b:=p) (r:=true) (O' m)) λ_=>tR 8 [2,0] λK _ _=>tX λF C=>qE2 4 5 78 2 (d 2) #[iv 0,iv 0,sn] (iv 7) λ_=>Ox ((if_neg (λg=>g f)).trans ((if_neg (λg=>g i)).trans (if_pos m))) (by decide) (CgQ.af C)
   .refine tC1 4 (λF C=>Ei (a:=v.b) (b:=p) (r:=false) (E' m)) λ_=>tR 10 [7,0,2,1,4,6,0,8,1] λz _ _=>tF λ_ E=>?_;have j:=E.size;refine tC 5 (λF C=>eY (v:=v) f.2.2 (h.af (CgQ.af C))) λG=>?_;rintro _ _ ⟨u,rfl,t,o⟩;refine⟨_,Fa.fo w.heap.size 140 8 u.v (Bn l v).length (vtL (Bn l v))::_,rfl,o,λF=>⟨Yb t j G,F⟩,?_⟩;refine tR 4 [12,15,2,0,16] λA _ _=>tX λF C=>qE2 4 5 78 2 (d 2) #[iv v.b.r,iv v.b.n,S3.v u] (iv 0) λ_=>bg f i m F.1.1 (CgQ.af C)
  .refine tC1 1 (λF C=>GM (v:=v) (q.af (CgQ.af C)) (r:=false) (E' i)) λ_=>tR 9 [2,0] λB _ _=>tX λF C=>qE2 4 5 78 2 (d 2) #[iv 0,iv 0,sn] (iv 2) λ_=>Ox ((if_neg (λg=>g f)).trans (if_pos i)) (by decide) (CgQ.af C)
 .have hE:Fr ⟨p,l⟩=5:=if_neg f;refine tI (((Fr ⟨p,l⟩) != 0)) true (by rw[hE];decide) ?_;refine tR 7 [2,0] λD _ _=>tX λF C=>qE2 4 5 78 2 (d 2) #[iv 0,iv 0,sn] (iv (Fr ⟨p,l⟩)) λ_=>by rw[hE];exact Ox (if_pos f) (by decide) (CgQ.af C)
theorem Rr(p:Bal)(x:Value)(l:List Vt)(v:Vt)(w:World)(h:Sv w x l)(c:NTab w) :
  Calls prog 102 #[.agg (acA p x),.agg (vtA v)] w λe w'=>∃ y,e=.returned (.tuple #[.agg (acA (BH ⟨p,l⟩ v) y),.int .i64 (AX ⟨p,l⟩ v)])/\Sv w' y (Bq ⟨p,l⟩ v)/\Bw w w' :=
 (Cp p x l v w h c).mono λe w' ⟨y,b,d,f,a⟩=>⟨y,b,Sv.pd d (by omega),a⟩
structure Base(w0:World)(g:Gh)(w:World):Prop where
 b:Bw w0 w
 z:∀ k,k<w0.heap.size->g.t k=.z
variable{B:Nat}{a:Acc}{g:Gh}{w w' w0:World}{y:Value}
theorem Base.ch{T:List Tg}{d:Gh}(h:Base w0 g w)(c:Cg B T g w d w')(f:Tg.z∉T:=by simp):Base w0 d w' :=
 have e:∀ k,k<w0.heap.size->k<w.heap.size:=λk a=>j' a h.b.size
 ⟨⟨c.os.trans h.b.os,c.tape.trans h.b.tape,c.output.trans h.b.output,me h.b.size c.size,λk a=>(c.zc f (e k a) (h.z k a)).trans (h.b.block k a)⟩,λk a=>(c.tag (e k a) (by rw[h.z k a];intro h;cases h)).trans (h.z k a)⟩
structure Tabs(w:World):Prop where
 t:AJ w
 n:NTab w
 q:Dj w
theorem Base.tt(h:Base w0 g w)(t:Tabs w0):AJ w:=t.t.af h.b
theorem Base.tn(h:Base w0 g w)(t:Tabs w0):NTab w:=t.n.af h.b
theorem Base.tq(h:Base w0 g w)(t:Tabs w0):Dj w:=t.q.af t.q.pos h.b
theorem DW{l:List Vt}(h:w'.ownsRow B 140 8 y l.length (vtL l))(e:∀ b,B<=b->g.t b=.z)(f:l.length<=2199023255488):∃ y3:S3,y=y3.v/\y3.n=l.length/\FSv g w' y3 l:=by
 have d:=Sv.pd h f;rcases h.2 with⟨rfl,h0⟩|⟨b,cap,cur,rfl,hb,_⟩
 .exact⟨s30,rfl,h0.symm,d,λi=>absurd (Z' h0) i⟩
 .exact⟨⟨some ⟨b,0,none⟩,l.length,cap⟩,rfl,rfl,d,λ_ a c=>by simp only[Y']at c;subst c;exact e b hb⟩
theorem dz{l:List Int}(h:w'.ownsRow B 5 1 y l.length (l.map (Value.int .u8)))(k:∀ b,B<=b->g.t b=.z)(m:l.length<=140737488351232)(j:∀ x∈l,0<=x/\x<256):∃ y3:S3,y=y3.v/\y3.n=l.length/\FSl g w' y3 l:=by
 rcases h.2 with⟨rfl,h0⟩|⟨b,cap,cur,rfl,hbb,hh,hc,_,hcs,ht⟩
 .have d:l=[]:=Z' h0;subst d;exact⟨s30,rfl,rfl,⟨⟨none,0,rfl,A' _,λ_=>rfl,.inl rfl⟩,by simp,by simp⟩,λd=>absurd rfl d⟩
 .refine⟨⟨some ⟨b,0,none⟩,l.length,cap⟩,rfl,rfl,⟨⟨_,_,rfl,hc,λh=>(by cases h),.inr ⟨b,0,rfl,rl hh,λi f=>?_⟩⟩,m,j⟩,λ_ a e=>by simp only[Y']at e;subst e;exact k b hbb⟩;have c:(l.map (Value.int .u8))[i]?=some (.int .u8 (l.getD i 0)):=by rw[mV,G' f,mL,G' f];rfl
  rw[<- ht,na]at c
  split at c
  .rw[cell_of_row _ _ _ _ _ _ hh,mT];simpa using c
  .cases c
theorem J8{d:List Int}{s:Int}{may:Prop}[Decidable may]{b:List Int}(h:CD d s may b=0):AP d s/\d.length+(b.length+5)<=100000/\may:=by
 unfold CD at h;by_cases c:Gw d s (b.length+5)≠0
 .rw[if_pos c]at h;exact absurd h c
 .rw[if_neg c]at h
  have e:may:=mR λe=>by rw[if_neg e]at h;cases h
  have a:Gw d s (b.length+5)=0:=by simpa using c
  unfold Gw at a;by_cases f:AP d s
  .rw[if_neg (λg=>g f)]at a
   refine⟨f,?_,e⟩;rcases mY 100000 (d.length+(b.length+5))with h2|h2
   .rw[if_pos h2]at a;cases a
   .exact h2
  .rw[if_pos f]at a;cases a
theorem ix{b:Bal}(h:Ce a b=0):Fe a b=b/\DK a b=a.vs:=⟨if_pos h,if_pos h⟩
theorem D8{v:Vt}(h:AX a v=0):BH a v=v.b/\Bq a v=Bn a.vs v:=⟨if_pos h,if_pos h⟩
end
end
section
open Go.ChangeShapes Go.WideShapes Go.ChangeAt Go.RowKit
theorem lU{W:World}(h:laidMetH prog Rows.topLateRow.laid W):Tabs W/\LWTab W/\LBTab W:=by
 have u:laidMet prog Rows.topLateRow.laid W:=h;obtain⟨B,⟨w,F,r,d,z,C,k,n,a,g,⟨x,G,s,e,p1,D,l,o,b,i,⟨y,H,t,f,A,E,m,p,c,j,v,_⟩,_⟩,_⟩,_⟩:=u;have q:=ez v;obtain rfl:=mS (Yd.symm.trans k);obtain rfl:=mS (RY.symm.trans n);obtain rfl:=mS (j3.symm.trans l);obtain rfl:=mS (Ye.symm.trans o);obtain rfl:=mS (fg.symm.trans m);obtain rfl:=mS (Vo.symm.trans p);exact⟨⟨ZD b i,dj c j,Zp a g⟩,q.1,q.2⟩
def IT(os:Os)(W:World):Prop :=
 W={ World.holding prog os ⟨#[],#[],[]⟩with heap:=(((((World.holding prog os ⟨#[],#[],[]⟩).heap.modify 4 (Y6 VX)).modify 3 (Y6 (Sp.map (Value.int .u32)).toArray)).modify 2 (Y6 (NN.map (Value.int .i64)).toArray)).modify 1 (Y2 PA)).modify 0 (Y2 R1) }
theorem cc(a:Os):∃ W,IT a W:=⟨_,rfl⟩
end
end Go.Proofs.YtgbabbapcibnlabGreatDoor
