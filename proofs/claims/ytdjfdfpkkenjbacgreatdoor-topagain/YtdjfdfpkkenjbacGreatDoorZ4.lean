/- Part 4 of the walk. -/
import Derived.Laws.Cover3
import Derived.Test.YtdjfdfpkkenjbacGreatDoorZ3
set_option maxRecDepth 100000
set_option maxHeartbeats 4000000
open Go.Proofs.Tryz
set_option linter.unusedVariables false
namespace Go.Proofs.YtdjfdfpkkenjbacGreatDoor
section
open Go.RowKit
section
variable{B sz:Nat}{P:Program}{T:List Tg}{W w w':World}{e:TypeId}{g g':Gh}{l:List Cmd}{vs:List Value}{x:S3}
theorem Kn.sK{L:List Sh}(h:Kn B g w L)(k b:Nat)(o:Obj)(r i:Nat)(v:Bool)(c:L[k]?=some ⟨b,o,.n r i,v⟩):w.heap[b]?=some o/\g.t b=.n r i/\g.k b=0 :=
 have a:=h.row _ (mD c)
 ⟨a.1,a.2.1,a.2.2.2 (by simp)⟩
structure RdV(w:World)(x:S3)(sz:Nat)(vs:List Value):Prop where
 len:vs.length=x.n*sz
 cap:x.n<=x.c
 rQ:x.a=none->x.c=0
 ex:x.n=0\/∃ b off,x.a=some ⟨b,off,none⟩/\b<w.heap.size/\∀ j u,vs[j]?=some u->w.cell? ⟨b,off+j,none⟩=some u
theorem RdC.rv(h:RdC w x l):RdV w x 5 (cmL l) :=
 ⟨by rw[BJ,h.len],h.cap,h.rQ,h.ex.imp (λe=>by rw[h.len,e];rfl) id⟩
theorem RdV.rc(h:RdV w x 5 (cmL l)):RdC w x l :=
 have a:x.n=l.length:=by have:=h.len;rw[BJ]at this;omega
 ⟨a,h.cap,h.rQ,h.ex.imp (λe=>Y' (by omega)) id⟩
theorem RdV.af(h:RdV w x sz vs)(b:Bw w w'):RdV w' x sz vs :=
 ⟨h.len,h.cap,h.rQ,h.ex.imp id λ⟨k,a,d,c,e⟩=>⟨k,a,d,Z' c b.size,λj u f=>(b.cell (p:=⟨k,a+j,none⟩) c).trans (e j u f)⟩⟩
theorem OwnS.rv{τ:Tg}{f:Bool}(h:OwnS g w τ f e sz x vs):RdV w x sz vs:=by
 rcases h.ex with⟨h1,h2,h3⟩|⟨b,cur,h1,h2,h3,h4,h5,h6,h7,h8⟩
 .exact⟨h.len,by omega,λ_=>h3,.inl h2⟩
 .refine⟨h.len,h3,λh=>(by rw[h1]at h;cases h),.inr ⟨b,0,h1,rl h2,λj u d=>?_⟩⟩;obtain⟨i,a,_,c⟩:=h.cell d;rw[h1]at a
  simp only[X',Addr.mk.injEq,and_true]at a;subst a;rw[mU];exact c
theorem dY{t:TypeId}{x y:Operand}{z:S3}{b:Bool}(f:z.a.isNone=b)(h:P.underlying t=some (.slice e))(g:(Go.eqGuard .eql t x y z.v (.slice none 0 0)).run P W=.ok () W):(do Go.eqGuard .eql t x y z.v (.slice none 0 0);Go.binOp .eql t z.v (.slice none 0 0):Sem Value).run P W=.ok (.bool b) W:=by
 subst f;rw[Sem.run_bind,g,Result.andThen_ok];have d:=run_equal_slice_nil (P:=P) (w:=W) t e z.a z.n z.c h;simp only[S3.v,binOp,Sem.run_bind,d,Result.andThen_ok];rfl
theorem fI(t h e:TypeId)(i:TypeInfo)(g:P.underlying t=some (.slice e))(f:P.info? e=some i)(b:Nat)(a:Addr)(c:Nat):(Builtin.append_ #[t,t] h #[.slice (some ⟨b,0,none⟩) 0 0,.slice (some a) 0 c]).run P W=.ok (.slice (some ⟨b,0,none⟩) 0 0) W:=by
 have d:=run_firstCells_some (P:=P) W i.size 0 a 0 c [] (by simp) (by simp);simp[Builtin.append_,run_underlying g,sizeOf,typeInfo,f,Builtin.lenOf,d,storeCells]
structure FzV(g:Gh)(w:World)(x:S3)(sz:Nat)(vs:List Value):Prop where
 rd:RdV w x sz vs
 z:vs≠[]->Frz g x
theorem FzV.ch(h:FzV g w x sz vs)(c:Cg B T g w g' w')(v:Tg.z∉T:=by simp):FzV g' w' x sz vs:=by
 obtain⟨⟨k,q,r,i⟩,s⟩:=h;by_cases p:vs=[]
 .subst p;exact⟨⟨k,q,r,i.imp id λ⟨b,d,e,f,_⟩=>⟨b,d,e,Z' f c.size,λj u o=>(by cases o)⟩⟩,λh=>absurd rfl h⟩
 .rcases i with i|⟨b,d,e,f,e3⟩
  .exact absurd (Y' (by rw[k,i,pU])) p
  .have hb:g.t b=.z:=s p _ e;refine⟨⟨k,q,r,.inr ⟨b,d,e,Z' f c.size,λj u o=>?_⟩⟩,λ_ a m=>?_⟩
   .rw[World.cell?_of_block (w:=w) (c.zc v f hb)];exact e3 j u o
   .rw[e]at m;simp only[X']at m;subst m
    rw[c.tag f (by rw[hb];intro h;cases h)];exact hb
structure Fa where
 ro:Option Nat
 p:Gh->World->Prop
 st:∀ {B:Nat} {T:List Tg} {g g':Gh} {w w':World},Tg.z∉T->(∀ r,ro=some r->Tg.n 60 r∉T)->Cg B T g w g' w'->p g w->p g' w'
@[reducible] def AllF (g:Gh) (w:World):List Fa->Prop
 | []=>True
 | f::l=>f.p g w/\AllF g w l
variable{Φ:List Fa}
theorem AllF.ch(h:AllF g w Φ)(c:Cg B T g w g' w')(d:Tg.z∉T:=by simp)(a:∀ f∈Φ,∀ r,f.ro=some r->Tg.n 60 r∉T):AllF g' w' Φ:=by
 induction Φ with
 | nil=>trivial
 | cons f l ih=>exact⟨f.st d (a f M') c h.1,ih h.2 λf b=>a f (I' _ b)⟩
theorem AllF.qM(h:AllF g w Φ)(c:Cg B [] g w g' w'):AllF g' w' Φ:=h.ch c O' λ_ _ _ _=>O'
def Fa.zv(x:S3)(sz:Nat)(vs:List Value):Fa:=⟨none,λg w=>FzV g w x sz vs,λhz _ c h=>h.ch c hz⟩
def Fa.sl(x:S3)(l:List Int):Fa:=⟨none,λg w=>FSl g w x l,λhz _ c h=>h.ch c hz⟩
def Fa.ow(r:Nat)(e:TypeId)(sz:Nat)(x:S3)(vs:List Value):Fa:=⟨some r,λg w=>OwnS g w (.n 60 r) true e sz x vs,λ_ hr c h=>h.ch c (hr r rfl) (by simp)⟩
def TQ:List Tg:=[.n 60 0,.n 60 1,.n 60 2,.n 60 3]
theorem l7:Tg.z∉TQ:=by simp[TQ]
end
section
variable{P:Program}{fn:Func}{R:Ending->World->Prop}{w0:World}{Φ:List Fa}{g:Gh}{w:World}
section
structure GT(P:Program)(fn:Func)(R:Ending->World->Prop)(w0:World)(Φ:List Fa)(s:Xs)(g:Gh)(w:World):Prop where
 ex:AllF g w Φ->Cg w0.heap.size TQ gS w0 g w->GG P fn R w0.heap.size TQ s g w
theorem CgQ.af(c:Cg w0.heap.size TQ gS w0 g w):Bw w0 w:=Cg.af c λ_ _=>l7
variable{J:Act->World->Prop}{f:FuncId}{n:Nat}{s:Xs}
theorem tIn{a:Array Value}(Φ:List Fa)(e:P.funcs[f]?=some fn)(b:AllF gS w0 Φ)(h:GT P fn R w0 Φ ⟨[.c (PS fn)],⟨fn.ntmps,ON 0 a.toList,λ_=>undef⟩,[]⟩ gS w0)(d:fn.body.isSome=true:=by kernel_rfl)(g:Nat.ble a.size fn.ntmps=true:=by kernel_rfl):Calls P f a w0 R :=
 gIn TQ gS e d g (λ_ _=>⟨rfl,rfl⟩) (h.ex b (Cg.refl _ _ _ _))
theorem tX(h:AllF g w Φ->Cg w0.heap.size TQ gS w0 g w->GG P fn R w0.heap.size TQ s g w):GT P fn R w0 Φ s g w:=⟨h⟩
theorem tF(h:AllF g w Φ->Cg w0.heap.size TQ gS w0 g w->GT P fn R w0 Φ s g w):GT P fn R w0 Φ s g w:=⟨λF C=>(h F C).ex F C⟩
theorem tCv(Ψ:List Fa)(a:AllF g w Φ->AllF g w Ψ)(h:GT P fn R w0 Ψ s g w):GT P fn R w0 Φ s g w:=⟨λF C=>h.ex (a F) C⟩
theorem tR(m:Nat)(h:List Nat)(b:∀ gs g' w',GT P fn R w0 Φ (rn0 P [] gs m s h).s g' w')(a:∀ gs,(rn0 P [] gs m s h).o.map Ob.l'=(rn0 P [] gs m s h).o.map Ob.r':=by intro _;kernel_rfl):GT P fn R w0 Φ s g w :=
 ⟨λF C=>cO [] m h a λgs g' w' c=>(b gs g' w').ex (F.qM c) (C.n c)⟩
theorem tV(i:Nat)(v:Value){S:Sem Value}(c:AllF g w Φ->Cg w0.heap.size TQ gS w0 g w->S.run P w=.ok v w)(b:GT P fn R w0 Φ (nxt s i v s.L).s g w)(d:D5 s i=some (S>>=λv=>pure (.value v)):=by kernel_rfl)(a:(nxt s i undef s.L).o.map Ob.l'=(nxt s i undef s.L).o.map Ob.r':=by kernel_rfl):GT P fn R w0 Φ s g w:=⟨λF C=>qV i v (c F C) (b.ex F C) d a⟩
theorem tT(i:Nat)(v:Value){S:Sem Value}(c:∀ W,S.run P W=.ok v W)(b:GT P fn R w0 Φ (tkN s i v false).s g w)(d:D5 s i=some (S>>=λv=>pure (.value v)):=by kernel_rfl)(a:(tkN s i undef false).o.map Ob.l'=(tkN s i undef false).o.map Ob.r':=by kernel_rfl):GT P fn R w0 Φ s g w:=⟨λF C=>qT i v c (b.ex F C) d a⟩
theorem tI(b t:Bool)(a:b=t)(h:GT P fn R w0 Φ (Ln s t) g w)(c:Qe s=.bool b:=by kernel_rfl):GT P fn R w0 Φ s g w:=⟨λF C=>qI b t a (h.ex F C) c⟩
theorem tC(i:Nat){f:FuncId}{c:Array Value}{K:Ending->World->Prop}(k:AllF g w Φ->Cg w0.heap.size TQ gS w0 g w->Calls P f c w K)(m:(∀ b,w.heap.size<=b->g.t b=.z)->∀ e w',K e w'->∃ v Ψ,e=.returned v/\Bw w w'/\(AllF g w' Φ->AllF g w' Ψ)/\GT P fn R w0 Ψ (nxt s i v s.L).s g w')(n:∀ W,Df P s i W=some (.ok (.enter f c) W):=by intro _;kernel_rfl)(l:Kz s i=true:=by kernel_rfl)(a:(nxt s i undef s.L).o.map Ob.l'=(nxt s i undef s.L).o.map Ob.r':=by kernel_rfl):GT P fn R w0 Φ s g w :=
 ⟨λF C=>Af λd=>qC i (k F C) (λe w' h=>let ⟨v,Ψ,h1,h2,h3,h4⟩:=m (λb j=>(d.new b j).1) e w' h;⟨v,h1,h2,h4.ex (h3 (F.qM (Cg.ed (B:=w0.heap.size) h2))) (C.trans (Cg.ed h2))⟩) n l a⟩
theorem tC1(i:Nat){f:FuncId}{b:Array Value}{v:Value}(c:AllF g w Φ->Cg w0.heap.size TQ gS w0 g w->Calls P f b w λe w'=>e=.returned v/\Bw w w')(j:∀ w',GT P fn R w0 Φ (nxt s i v s.L).s g w')(k:∀ W,Df P s i W=some (.ok (.enter f b) W):=by intro _;kernel_rfl)(d:Kz s i=true:=by kernel_rfl)(a:(nxt s i undef s.L).o.map Ob.l'=(nxt s i undef s.L).o.map Ob.r':=by kernel_rfl):GT P fn R w0 Φ s g w:=tC i c (λ_ e w' h=>⟨v,Φ,h.1,h.2,id,j w'⟩) k d a
theorem tE(v:Value)(h:AllF g w Φ->Bw w0 w->R (.returned v) w)(a:Kn w0.heap.size g w s.L->(results fn s.f.act.tmps).run P w=.ok v w:=by intro _;kernel_rfl)(b:MZ s.K=true:=by kernel_rfl):GT P fn R w0 Φ s g w:=⟨λF C=>qE v (λ_=>h F (CgQ.af C)) a b⟩
def JT(P:Program)(w0:World)(n:Nat)(Inv:Nat->List (Nat × Value)->List Sh->List Fa->Prop)(k:Nat)(J:Act->World->Prop):Prop:=∀ k' e' L' Φ' g' w' z',k'<k->Inv k' e' L' Φ'->AllF g' w' Φ'->Cg w0.heap.size TQ gS w0 g' w'->Kn w0.heap.size g' w' L'->J (⟨n,e',z'⟩:Fm).act w'
theorem Fu(n:Nat)(c:List (Nat × Value))(m:List Bool)(o:List Sh)(b:List Fa)(a:Nat->List (Nat × Value)->List Sh->List Fa->Prop)(x:Nat)(E:a x c o b)(t:AllF g w Φ->AllF g w b)(round:∀ k e L Φ,a k e L Φ->∀ z g w J,JT P w0 n a k J->GT P fn R w0 Φ (ei s n J e z L) g w)(O:SG s.K=true:=by kernel_rfl)(Q:s.f.n=n:=by kernel_rfl)(M:c.map (λp=>lk s.f.z s.f.e p.1)=c.map (·.2):=by kernel_rfl)(I:BM (AI m s.L)=o:=by kernel_rfl):GT P fn R w0 Φ s g w :=
 ⟨λF C=>Cc n c m o (λk d h e L=>∃ Ψ,a k e L Ψ/\AllF d h Ψ/\Cg w0.heap.size TQ gS w0 d h) O Q M I x (λ_=>⟨b,E,t F,C⟩) λk d h e z L ⟨Ψ,G,A,y⟩ J H=>(round k e L Ψ G z d h J λS D B v q u T N r j i K=>H S q u D T B N ⟨v,r,j,i⟩ K).ex A y⟩
theorem tB{k:Nat}{b:Nat->List (Nat × Value)->List Sh->List Fa->Prop}(i:JT P w0 n b k J)(d:Nat)(t:d<k){e:List (Nat × Value)}(m:List Bool){L':List Sh}{a:List Fa}(h:b d e L' a)(c:AllF g w Φ->AllF g w a)(q:isJ s.K=true:=by kernel_rfl)(r:jK s.K=J:=by kernel_rfl)(u:s.f.n=n:=by kernel_rfl)(o:e.map (λp=>lk s.f.z s.f.e p.1)=e.map (·.2):=by kernel_rfl)(j:BM (AI m s.L)=L':=by kernel_rfl):GT P fn R w0 Φ s g w :=
 ⟨λF C=>qB m (λz _ K=>i d e L' a g w z t h (c F) C K) q r u o j⟩
def JC(P:Program)(w0:World)(n:Nat)(Inv:List (Nat × Value)->List Sh->List Fa->Prop)(J:Act->World->Prop):Prop:=∀ e' L' Φ' g' w' z',Inv e' L' Φ'->AllF g' w' Φ'->Cg w0.heap.size TQ gS w0 g' w'->Kn w0.heap.size g' w' L'->J (⟨n,e',z'⟩:Fm).act w'
theorem KE(n:Nat)(a:List (Nat × Value)->List Sh->List Fa->Prop)(m:∀ J,JC P w0 n a J->GT P fn R w0 Φ (XM s J) g w)(o:∀ e L Φ,a e L Φ->∀ z g w,GT P fn R w0 Φ ⟨s.K.tail,⟨n,e,z⟩,L⟩ g w)(q:s.K.isEmpty=false:=by kernel_rfl):GT P fn R w0 Φ s g w :=
 ⟨λF C=>Ct n (λb c e L=>∃ Ψ,a e L Ψ/\AllF b c Ψ/\Cg w0.heap.size TQ gS w0 b c) q (λJ p=>(m J λk j i b c r h f d K=>p b c k r j ⟨i,h,f,d⟩ K).ex F C) λb c e z L ⟨Ψ,h,f,d⟩=>(o e L Ψ h z b c).ex f d⟩
theorem tD{b:List (Nat × Value)->List Sh->List Fa->Prop}(i:JC P w0 n b J){e:List (Nat × Value)}(m:List Bool){c:List Sh}{a:List Fa}(h:b e c a)(d:AllF g w Φ->AllF g w a)(o:isJ s.K=true:=by kernel_rfl)(q:jK s.K=J:=by kernel_rfl)(r:s.f.n=n:=by kernel_rfl)(k:e.map (λp=>lk s.f.z s.f.e p.1)=e.map (·.2):=by kernel_rfl)(j:BM (AI m s.L)=c:=by kernel_rfl):GT P fn R w0 Φ s g w :=
 ⟨λF C=>qB m (λz _ K=>i e c a g w z h (d F) C K) o q r k j⟩
theorem Fv(i j:Nat)(a:GT P fn R w0 Φ (JN s i) g w)(b:GT P fn R w0 Φ (JN s j) g w)(c:eL s i j=true:=by kernel_rfl):GT P fn R w0 Φ s g w:=⟨λF C=>Du i j c (a.ex F C) (b.ex F C)⟩
theorem Rv(i:Nat)(r:Nat){x:S3}{xs:List Value}(t O e:TypeId)(p b:Nat)(z:Value)(a:Addr)(m c:Nat)(news:List Value)(hx:AllF g w Φ->OwnS g w (.n 60 r) true e p x xs)(Ψ:List Fa)(M:AllF g w Φ->AllF g w Ψ)(I:Ψ.all (λf=>f.ro != some r)=true)(H:Tg.n 60 r∈TQ)(X:news.length=m*p)(Q:∀ u∈news,u.oneCell'=true)(k:AllF g w Φ->Kn w0.heap.size g w s.L->∀ j u,news[j]?=some u->w.cell? (a.add j)=some u)(D:x.n+m<=maxLen)(d:(x.n+m)*b<=140737488355328)(W:∀ x' g' w',x'.n=x.n+m->GT P fn R w0 (Fa.ow r e p x' (xs++news)::Ψ) (nxt s i (S3.v x') s.L).s g' w')(E:0<m:=by decide)(J:0<p:=by decide)(ht:P.underlying t=some (.slice e):=by kernel_rfl)(h:(P.info? e).map (λi=>(i.zero,i.size,i.bytes))=some (some z,p,b):=by kernel_rfl)(K:Nat.beq z.cells.size p=true:=by kernel_rfl)(A:D5 s i=some (Builtin.append_ #[t,t] O #[x.v,.slice (some a) m c]>>=λv=>pure (.value v)):=by kernel_rfl)(G:(nxt s i undef s.L).o.map Ob.l'=(nxt s i undef s.L).o.map Ob.r':=by kernel_rfl)(U:s.L.all (λy=>[Tg.n 60 r].all λt=>y.t.ne t)=true:=by kernel_rfl):GT P fn R w0 Φ s g w:=by
 refine⟨λF C=>K3 i t O e p b z a m c news (hx F) A G U ht h K J E X Q (k F) D d λx' g' w' T Y N hG=>?_⟩;refine(W x' g' w' Y).ex ⟨T,(M F).ch (N w0.heap.size [.n 60 r] (D'.2 rfl)) (by simp) λf V q Z E=>?_⟩ (C.trans (N _ _ H));have B:=nD.1 I f V;rw[Z]at B
 have S:q=r:=by simpa using E
 rw[S]at B
 simp at B
end
end
end
section
section
structure Plc(l:List Vt)(s:Int)(p:Nat):Prop where
 le:p<=l.length
 lo:∀ (i:Nat) (v:Vt),i<p->l[i]?=some v->v.bn<s
 hi:∀ (i:Nat) (v:Vt),p<=i->l[i]?=some v->s<=v.bn
theorem Oa(a b:List Vt)(v:Vt)(h:∀ u∈a,u.bn<v.bn):Bo (a++b) v=a++Bo b v:=by
 induction a with
 | nil=>rfl
 | cons x a ih =>
  show Bo (x::(a++b)) v=x::(a++Bo b v);rw[Bo,if_pos (h x M'),ih (λu c=>h u (I' _ c))]
variable{l:List Vt}{m p:Nat}{s:Int}{u v x:Vt}
theorem Plc.front(h:Plc l s p):∀ u∈l.take p,u.bn<s:=by
 intro u b;obtain⟨i,a⟩:=nw.1 b;rw[nk]at a
 split at a
 .rename_i hip;exact h.lo i u hip a
 .cases a
theorem Plc.has(h:Plc l v.bn p)(f:l[p]?=some u)(c:u.bn=v.bn):Bo l v=l.take p++(v::l.drop (p+1)):=by
 obtain⟨d,e⟩:=V'.1 f;have b:l.drop p=u::l.drop (p+1):=by rw[<- e];exact m9 d
 have a:=Oa (l.take p) (l.drop p) v h.front;rw[nv]at a
 rw[a,b,Bo,if_neg (by omega),if_pos c]
theorem Plc.no(h:Plc l v.bn p)(c:∀ u,l[p]?=some u->u.bn≠v.bn):Bo l v=l.take p++(v::l.drop p):=by
 have a:=Oa (l.take p) (l.drop p) v h.front;rw[nv]at a
 rw[a];rcases mZ p l.length with hp|hp
 .have hd:l.drop p=l[p]::l.drop (p+1):=m9 hp;have d:=h.hi p l[p] (A' _) (H' hp);have b:=c l[p] (H' hp);rw[hd,Bo,if_neg (by omega),if_neg b]
 .rw[na hp,Bo]
theorem Plc.rK(d:BL l)(e:l[p]?=some u)(c:u.bn=s):Ae l s=[u]:=by
 have b:=J5 d s;have a:u∈Ae l s:=AL.2 ⟨nw.2 ⟨p,e⟩,c⟩
 match hl:Ae l s with
 | []=>rw[hl]at a;cases a
 | [x]=>rw[hl]at a;rw[D'.1 a]
 | x::y::r=>rw[hl]at b;simp at b
theorem Plc.rA(b:BL l)(h:Plc l s p)(f:∀ u,l[p]?=some u->u.bn≠s):Ae l s=[]:=by
 rw[oC];intro u a;obtain⟨a,e⟩:=AL.1 a;obtain⟨i,c⟩:=nw.1 a;rcases py i p with hip|rfl|hip
 .have:=h.lo i u hip c;omega
 .exact f u c e
 .have hip':i<l.length:=(V'.1 c).1;have d:p<l.length:=by omega
  have g:=h.hi p l[p] (A' _) (H' d);have k:=rise_lt b hip (H' d) c;omega
where
 rise_lt:∀ {l:List Vt} (b:BL l) {i j:Nat} (hij:i<j) {u v:Vt} (a:l[i]?=some u) (hv:l[j]?=some v),u.bn<v.bn
  | x::xs,b,0,j+1,_,u,v,a,hv=>by
   simp at a hv;subst a;exact b.1 v (nw.2 ⟨j,hv⟩)
  | x::xs,b,i+1,j+1,hij,u,v,a,hv=>rise_lt (l:=xs) b.2 (i:=i) (j:=j) (by omega) (by simpa using a) (by simpa using hv)
  | [],_,i,j,_,u,v,a,hv=>by simp at a
theorem BL.get(b:BL l){i j:Nat}(a:i<j){u v:Vt}(c:l[i]?=some u)(d:l[j]?=some v):u.bn<v.bn:=Plc.rA.rise_lt b a c d
theorem Plc.half(b:BL l){s:Int}{i j h:Nat}{u:Vt}(a:l[h]?=some u)(d:∀ (k:Nat) (v:Vt),k<i->l[k]?=some v->v.bn<s)(c:∀ (k:Nat) (v:Vt),j<=k->l[k]?=some v->s<=v.bn) :
  (u.bn<s->∀ (k:Nat) (v:Vt),k<h+1->l[k]?=some v->v.bn<s)/\(s<=u.bn->∀ (k:Nat) (v:Vt),h<=k->l[k]?=some v->s<=v.bn):=by
 constructor
 .intro g k v hk hv;rcases mZ k h with hkh|hkh
  .have:=b.get hkh hv a;omega
  .obtain rfl:k=h:=by omega
   rw[a]at hv;cases hv;exact g
 .intro g k v hk hv;rcases mZ h k with hkh|hkh
  .have:=b.get hkh a hv;omega
  .obtain rfl:k=h:=by omega
   rw[a]at hv;cases hv;exact g
def QF(o:Option Vt)(v:Vt):Option Vt:=match o with
 | none=>some v
 | some u=>if u.b.lt v.b then some v else some u
theorem RI(l:List Vt)(v:Vt)(o:Option Vt):BR (l++[v]) o=QF (BR l o) v:=by
 induction l generalizing o with
 | nil =>
  cases o with
  | none=>rfl
  | some u =>
   show BR [v] (some u)=QF (some u) v;rw[BR,QF];split<;>rfl
 | cons x l ih =>
  cases o with
  | none=>exact ih _
  | some u =>
   show BR (x::(l++[v])) (some u)=QF (BR (x::l) (some u)) v;rw[BR,BR];split
   .exact ih _
   .exact ih _
def vt0:Vt:=⟨0,⟨0,0⟩,⟨0,0,0,0,0⟩⟩
def Ff(o:Option Vt)(x:Vt):Prop:=(o=none/\x=vt0)\/(o=some x/\Ab x.b)
theorem Ff.next{o:Option Vt}(h:Ff o x)(a:Ab v.b):Ff (QF o v) (if x.b.lt v.b then v else x):=by
 rcases h with⟨rfl,rfl⟩|⟨rfl,hx⟩
 .rw[if_pos (by unfold Ab at a;unfold Bal.lt;simp[vt0];omega)];exact .inr ⟨rfl,a⟩
 .show Ff (if x.b.lt v.b then some v else some x) _;split
  .exact .inr ⟨rfl,a⟩
  .exact .inr ⟨rfl,hx⟩
theorem Ff.pick{a:List (List Vt)}(d:0<=s/\s<=39)(c:∀ l∈a,∀ v∈l,Ah v)(h:Ff (Eh a s) x):(if BY a s=0 then((Eh a s).map (·.w)).getD ⟨0,0,0,0,0⟩else⟨0,0,0,0,0⟩)=x.w/\(if BY a s=0 then(Eh a s).isSome else false)=!decide (x.b.r=0/\x.b.n=0)/\BY a s=0:=by
 have e:BY a s=0:=by unfold BY;rw[if_neg (λg=>g d),if_pos c]
 rw[if_pos e,if_pos e];rcases h with⟨h1,rfl⟩|⟨h1,h2⟩
 .rw[h1];exact⟨rfl,rfl,e⟩
 .rw[h1];refine⟨rfl,?_,e⟩;rw[G' (by unfold Ab at h2;omega)];rfl
theorem Zf(l:List Vt){u v:Vt}(h:u≠v):BK l u+BK l v<=l.length:=by
 induction l with
 | nil=>simp[BK]
 | cons x l ih =>
  unfold BK at ih ⊢;rw[pI,pI,mJ];by_cases a:x=u
  .subst a;rw[if_pos (by simp),if_neg (by simp[h])];omega
  .by_cases hy:x=v
   .subst hy;rw[if_neg (by simp[a]),if_pos (by simp)];omega
   .rw[if_neg (by simp[a]),if_neg (by simp[hy])];omega
theorem Zd(h:0<BK l v):v∈l:=by
 unfold BK at h;obtain⟨u,a,e⟩:=pO.1 h;rw[<- mN e];exact a
theorem dA(a b:List Vt)(v:Vt):BK a v<=BK (a++b) v:=by
 unfold BK;rw[pi];omega
theorem RO(b:l.length<=m)(h:m<2*BK l v):Hj l m=some v:=by
 cases hf:Hj l m with
 | none =>
  have:=nz.1 hf v (Zd (by omega));simp at this;omega
 | some u =>
  have a:=qr hf;simp at a;by_cases e:u=v
  .rw[e]
  .have:=Zf l e;omega
theorem X9(h:∀ v,2*BK l v<=m):Hj l m=none:=by
 unfold Hj;rw[nz];intro v _;have:=h v;simp;omega
end
end
section
open Go.RowKit
section
variable{B cap e n p sz:Nat}{P:Program}{a:Option Addr}{b:Bal}{l:List Vt}{r:Bool}{s:Int}{v:Vt}{w:World}{x:S3}{xs:List Value}{y:Value}
theorem NTab.sY(h:NTab w):w.cell? ⟨0,1*3+2,none⟩=some (.int .i64 1073741824):=h.cell 5 (by omega)
theorem NTab.value(h:NTab w)(k:Nat)(a:1<=k)(b:k<=3):w.cell? ⟨0,k*3+2,none⟩=some (.int .i64 (if k=1 then 1073741824 else 0)):=by
 rcases(by omega:k=1\/k=2\/k=3)with rfl|rfl|rfl
 .exact h.cell 5 (by omega)
 .exact h.cell 8 (by omega)
 .exact h.cell 11 (by omega)
theorem E8(k c s n v:Int)(w:World)(G:NTab w) :
  Calls prog 22 #[.agg (cmA k c s n v)] w λe w'=>e=.returned (.int .i64 (Bh k c s n v))/\Bw w w':=by
 have b:Bw w (w.alloc (.cells (cmA k c s n v) 24)):=(Below.refl _ _).alloc (A' _) _;have h:=Bc.made w k c s n v;have t:=G.af b;have F:=GU k c s n v;generalize E:w.alloc (.cells (cmA k c s n v) 24)=W at b h t;have u:w.alloc (.cells #[.int .i64 k,.int .i64 c,.int .i64 s,.int .i64 n,.int .i64 v] 24)=W:=E;obtain⟨x,y,z,A,B⟩:=Fh h.row;clear G;go_enter func22,ntmps22
 go_wp2_with fail
 clear E u;refine(SF k _).mono ?_;rintro e K ⟨rfl,rfl⟩;by_cases o:0<=k/\k<=3
 .rw[P' o];by_cases C:k=0
  .subst C;go_wp2_with (refine wpList_load_row rfl 24 _ rfl w.heap.size rfl 24 _ (0,0) _ h.row underlying24 rfl F ?_)
   refine(Zc c s n v _).mono ?_;rintro e f ⟨rfl,g⟩;have j:Bw w f:=b.trans (g.mono b.size);go_wp2
   go_ret;exact⟨rfl,j⟩
  .obtain⟨m,rfl⟩:=mS o.1;have r:1<=(m:Int)/\(m:Int)<=3:=by omega
   go_wp2_with (refine wpList_load_row rfl 24 _ rfl w.heap.size rfl 24 _ (0,0) _ h.row underlying24 rfl F ?_)
   refine(Pd (m:Int) c s n v _ r t).mono ?_;rintro e f ⟨rfl,g⟩;have j:Bw w f:=b.trans (g.mono b.size);have i:=h.af g;have q:=t.af g;clear x y z A B h t g b;by_cases a:InC c s n v
   .rw[P' a];obtain⟨x,y,z,A,B⟩:=Fh i.row;have D:=q.value m (by omega) (by omega);have H:(0:Int)<=(m:Int):=by omega
    have I:(m:Int)<4:=by omega
    have J:m<4:=by omega
    clear i q o C;by_cases p:v<=(if m=1 then 1073741824 else 0)
    .have d:Hid (0=Bh (m:Int) c s n v):=by
      refine(Uh r a ?_).symm;unfold InC at a;split at p<;>omega
     clear a r;generalize (if m=1 then(1073741824:Int)else 0)=V at D p;go_wp2_with fail
     go_quiet (fail)
     have l:Bw w (f.drewN nq):=Aq j nq;generalize f.drewN nq=w3 at l ⊢;go_wp2
     go_ret;exact⟨CX d.out,l⟩
    .have d:Hid (3=Bh (m:Int) c s n v):=by
      unfold InC at a;refine(Vy ⟨?_,by omega⟩ (by unfold InC;omega) ?_).symm
      .split at p<;>omega
      .split at p<;>omega
     clear a r;generalize (if m=1 then(1073741824:Int)else 0)=V at D p;go_wp2_with fail
     go_quiet (fail)
     have l:Bw w (f.drewN nq):=Aq j nq;generalize f.drewN nq=w3 at l ⊢;go_wp2
     go_ret;exact⟨CX d.out,l⟩
   .rw[G' a];have d:Hid (2=Bh (m:Int) c s n v):=(RU r a).symm;clear a;go_wp2
    go_ret;exact⟨CX d.out,j⟩
 .rw[G' o];have d:Hid (4=Bh k c s n v):=(Vz o).symm;go_wp2
  go_ret;exact⟨CX d.out,b⟩
def KW(l:List Vt)(n:Int):Prop:=0<=n/\n<=40/\∀ s:Int,0<=s->(n<=s↔∀ u∈l,u.bn<s)
theorem KW.nil:KW [] 0:=⟨by omega,by omega,λs a=>⟨λ_ u b=>(O' b).elim,λ_=>a⟩⟩
theorem KW.snoc{n:Int}(h:KW l n){v:Vt}(b:0<=v.bn)(c:v.bn<=39)(d:n<=v.bn):KW (l++[v]) (v.bn+1):=by
 refine⟨by omega,by omega,λs a=>⟨λg u hu=>?_,λg=>?_⟩⟩
 .rcases Q'.1 hu with hu|hu
  .exact(h.2.2 s a).1 (by omega) u hu
  .obtain rfl:u=v:=by simpa using hu
   omega
 .have:=g v (by simp);omega
theorem jY{p:Bal}(h:p≠Be):(!decide (Ab p))=!decide (Ao p):=by
 have:Ab p↔Ao p:=⟨.inl,λg=>g.resolve_right λe=>h ((Bal.eq_iff p Be).1 e)⟩;simp[this]
theorem jq{P Q:Prop}[Decidable P][Decidable Q](h:Q↔¬ P):decide P=!decide Q:=by by_cases g:P<;>simp[h,g]
theorem W6(h:BL l)(k:Nat):BL (l.take k):=by
 induction k with
 | zero=>exact trivial
 | succ k ih =>
  cases hh:l[k]? with
  | none=>rw[mr (by have:=List.getElem?_eq_none_iff.1 hh;omega)];exact h
  | some v =>
   rw[FX l k v hh,O0];refine⟨ih,λu b=>?_⟩;obtain⟨i,a⟩:=nw.1 b;rw[nk]at a
   split at a
   .rename_i hk;exact h.get hk a hh
   .cases a
theorem Ew(b:decide (0<=s/\s<=39)=r) :
  Calls prog 176 #[iv s] w λe w'=>e=.returned (.bool r)/\Bw w w':=by
 subst b;refine tIn [] func176 trivial (tR 7 [] λc _ _=>?_);by_cases a:0<=s
 .refine tV 1 (.bool true) (λF C=>(rGe (t:=3) (m:=s) (n:=0) (x:=(.tmp 3)) (y:=(.const (iv 0))) (P' a))) (tR 6 [] λd _ _=>tE (.bool (decide (s<40))) λ_ B=>⟨by rw[nf.2 (show s<40↔0<=s/\s<=39 by omega)],B⟩)
 .refine tV 1 (.bool false) (λF C=>(rGe (t:=3) (m:=s) (n:=0) (x:=(.tmp 3)) (y:=(.const (iv 0))) (G' a))) (tR 6 [] λf _ _=>tE (.bool false) λ_ B=>⟨by rw[G' (show ¬ (0<=s/\s<=39)by omega)],B⟩)
theorem IC(f:decide (Ab b)=r) :
  Calls prog 156 #[.agg #[iv b.r,iv b.n]] w λe w'=>e=.returned (.bool r)/\Bw w w':=by
 subst f;refine tIn [] func156 trivial (tR 9 [0,0,0] λg _ _=>?_);by_cases a:1<=b.r
 .refine tV 2 (.bool true) (λF C=>(rGe (t:=3) (m:=b.r) (n:=1) (x:=(.tmp 4)) (y:=(.const (iv 1))) (P' a))) (tR 3 [0] λh _ _=>?_);by_cases c:b.r<=65536
  .refine tV 6 (.bool true) (λF C=>(rLe (t:=3) (m:=b.r) (n:=65536) (x:=(.tmp 8)) (y:=(.const (iv 65536))) (P' c))) (tR 4 [0] λi _ _=>?_);by_cases d:0<=b.n
   .refine tV 11 (.bool true) (λF C=>(rGe (t:=3) (m:=b.n) (n:=0) (x:=(.tmp 13)) (y:=(.const (iv 0))) (P' d))) (tR 8 [0] λj _ _=>tE (.bool (decide (b.n<5))) λ_ B=>⟨by rw[nf.2 (show b.n<5↔Ab b by unfold Ab;omega)],B⟩)
   .refine tV 11 (.bool false) (λF C=>(rGe (t:=3) (m:=b.n) (n:=0) (x:=(.tmp 13)) (y:=(.const (iv 0))) (G' d))) (tR 8 [] λk _ _=>tE (.bool false) λ_ B=>⟨by rw[G' (show ¬ Ab b by unfold Ab;omega)],B⟩)
  .refine tV 6 (.bool false) (λF C=>(rLe (t:=3) (m:=b.r) (n:=65536) (x:=(.tmp 8)) (y:=(.const (iv 65536))) (G' c))) (tR 13 [] λl _ _=>tE (.bool false) λ_ B=>⟨by rw[G' (show ¬ Ab b by unfold Ab;omega)],B⟩)
 .refine tV 2 (.bool false) (λF C=>(rGe (t:=3) (m:=b.r) (n:=1) (x:=(.tmp 4)) (y:=(.const (iv 1))) (G' a))) (tR 17 [] λo _ _=>tE (.bool false) λ_ B=>⟨by rw[G' (show ¬ Ab b by unfold Ab;omega)],B⟩)
theorem E4{a:Bal}(d:decide (a.lt b)=r) :
  Calls prog 157 #[.agg #[iv a.r,iv a.n],.agg #[iv b.r,iv b.n]] w λe w'=>e=.returned (.bool r)/\Bw w w':=by
 subst d;refine tIn [] func157 trivial (tR 15 [0,0,0,0,0,1] λf _ _=>?_);by_cases c:a.r≠b.r
 .refine tI ((a.r != b.r)) true (by simpa using c) (tR 9 [0,1] λg _ _=>tE (.bool (decide (a.r<b.r))) λ_ B=>⟨by rw[nf.2 (show a.r<b.r↔a.lt b by unfold Bal.lt;omega)],B⟩)
 .refine tI ((a.r != b.r)) false (by simpa using c) (tR 10 [0,1] λh _ _=>tE (.bool (decide (a.n<b.n))) λ_ B=>⟨by rw[nf.2 (show a.n<b.n↔a.lt b by unfold Bal.lt;omega)],B⟩)
theorem GZ(i:NTab w){r:Bool}(h:decide (Ah v)=r) :
  Calls prog 162 #[.agg #[iv v.bn,iv v.b.r,iv v.b.n,iv v.w.k,iv v.w.c,iv v.w.s,iv v.w.n,iv v.w.v]] w λe w'=>e=.returned (.bool r)/\Bw w w':=by
 subst h;refine tIn [] func162 trivial (tR 9 [0,0,0] λj _ _=>?_);by_cases a:0<=v.bn/\v.bn<=39
 .refine tC1 2 (λF C=>Ew (r:=true) (P' a)) λ_=>tR 3 [0] λl _ _=>?_;by_cases d:Ab v.b
  .refine tC1 6 (λF C=>IC (b:=v.b) (r:=true) (P' d)) λ_=>tR 4 [0] λm _ _=>tC1 11 (λF C=>E8 v.w.k v.w.c v.w.s v.w.n v.w.v _ (i.af (CgQ.af C))) λ_=>tR 4 [] λo _ _=>tE (.bool (Bh v.w.k v.w.c v.w.s v.w.n v.w.v==0)) λ_ B=>⟨by rw[show(Bh v.w.k v.w.c v.w.s v.w.n v.w.v==0)=decide (Ah v)from by rw[show(Bh v.w.k v.w.c v.w.s v.w.n v.w.v==0)=decide (v.w.e=0)from rfl];exact nf.2 ⟨λg=>⟨a,d,g⟩,λg=>g.2.2⟩],B⟩
  .refine tC1 6 (λF C=>IC (b:=v.b) (r:=false) (G' d)) λ_=>tR 9 [] λp _ _=>tE (.bool false) λ_ B=>⟨by rw[G' (show ¬ Ah v from λg=>d g.2.1)],B⟩
 .refine tC1 2 (λF C=>Ew (r:=false) (G' a)) λ_=>tR 13 [] λf _ _=>tE (.bool false) λ_ B=>⟨by rw[G' (show ¬ Ah v from λg=>a g.1)],B⟩
theorem Iq{p:Bal}{u:Vt}:Ag ⟨p,l++[u]⟩↔Ag ⟨p,l⟩/\(Ah u/\¬ p.lt u.b)/\∀ x∈l,x.bn<u.bn:=by
 unfold Ag;simp only[O0,Q',D'];exact⟨λh=>⟨⟨h.1,λv a=>h.2.1 v (.inl a),h.2.2.1⟩,h.2.1 u (.inr rfl),h.2.2.2⟩,λh=>⟨h.1.1,λv a=>a.elim (h.1.2.1 v) λe=>by rw[e];exact h.2.1,h.1.2.2,h.2.2⟩⟩
theorem Xj{p:Bal}(h:Ag ⟨p,l⟩)(k:Nat):Ag ⟨p,l.take k⟩:=⟨h.1,λv a=>h.2.1 v (mx a),(W6 h.2.2 k)⟩
theorem Sv.op(h:Sv w x.v l):x.n=l.length/\(l=[]\/∃ b off,x.a=some ⟨b,off,none⟩/\∀ i v,l[i]?=some v->w.rangeAt b (off+8*i) (vtC v)):=by
 obtain⟨j,m,k⟩:=x;obtain⟨⟨a,c,e,_,_,d⟩,_⟩:=h;simp only[S3.v,Value.slice.injEq]at e;obtain⟨rfl,rfl,rfl⟩:=e;exact⟨rfl,d.imp id λ⟨b,off,f,_,g⟩=>⟨b,off,f,g⟩⟩
theorem Sv.at_(h:Sv w x.v l){b c i:Nat}{v:Vt}(e:x.a=some ⟨b,c,none⟩)(d:l[i]?=some v):w.rangeAt b (c+8*i) (vtC v):=by
 rcases h.op.2 with rfl|⟨b',off',ha,hc⟩
 .simp at d
 .rw[e]at ha;cases ha;exact hc i v d
theorem Sv.ad(h:Sv w x.v l){i:Nat}(c:i<l.length):∃ b off,x.a=some ⟨b,off,none⟩:=by
 rcases h.op.2 with rfl|⟨b',off',ha,hc⟩
 .exact absurd c (nW _)
 .exact⟨b',off',ha⟩
theorem Sv.s3{x:Value}(h:Sv w x l):∃ y:S3,x=y.v:=by
 obtain⟨⟨a,b,e,_,_,c⟩,_⟩:=h;exact⟨⟨a,l.length,b⟩,e⟩
theorem Jo(p:Bal)(x:Value)(l:List Vt)(w:World)(h:Sv w x l)(S:NTab w) :
  Calls prog 155 #[.agg (acA p x)] w λe w'=>e=.returned (.int .i64 (F4 ⟨p,l⟩))/\Bw w w':=by
 obtain⟨y,rfl⟩:=h.s3;have hn:=h.op.1;have a7:=h.len;show Calls prog 155 #[.agg #[iv p.r,iv p.n,S3.v y]] w _;refine tIn [] func155 trivial (tR 7 [0,0] λf _ _=>KE 43 (λL K d=>∃ (v:Bool),L=[(1,pt (f 0) 0),(15,.bool v)]/\K=[⟨(f 0),.cells #[iv p.r,iv p.n,S3.v y] 107,.z,false⟩]/\d=[]/\v=!decide (Ao p)) (λJ u=>?_) ?_)
 .refine tR 4 [0] λa8 _ _=>?_;by_cases q:p=Be
  .refine tV 3 (.bool false) (λF C=>(IL (x:=(.tmp 7)) (y:=(.tmp 8)) p Be q)) (tR 7 [] λa9 _ _=>tD u [true] ⟨false,rfl,rfl,rfl,by rw[q];rfl⟩ (λF=>trivial))
  .refine tV 3 (.bool true) (λF C=>(IM (x:=(.tmp 7)) (y:=(.tmp 8)) p Be q)) (tR 3 [0] λb0 _ _=>tC1 7 (λF C=>IC (b:=p) rfl) λ_=>tR 3 [] λb1 _ _=>tD u [true] ⟨_,rfl,rfl,rfl,jY q⟩ (λF=>trivial))
 rintro _ _ _ ⟨v,rfl,rfl,rfl,H⟩ _ _ _;by_cases q:v=true
 .refine tI (v) true q (tR 4 [] λb2 _ _=>tE (iv 5) λ_ B=>⟨by rw[F4,if_neg λg:Ag _=>absurd g.1 (by simpa[q]using H.symm)],B⟩)
 .refine tI (v) false (by simpa using q) ?_;have hp:Ao p:=by simpa[q]using H.symm
  refine tR 14 [0] λb3 _ _=>Fu 43 [(1,pt (f 0) 0),(3,iv 0),(17,S3.v y),(18,iv (y.n:Int)),(19,iv 0)] [true] [⟨(f 0),.cells #[iv p.r,iv p.n,S3.v y] 107,.z,false⟩] [] (λkk L K d=>∃ (j:Nat) (n:Int),kk=y.n-j/\L=[(1,pt (f 0) 0),(3,iv n),(17,S3.v y),(18,iv (y.n:Int)),(19,iv (j:Int))]/\K=[⟨(f 0),.cells #[iv p.r,iv p.n,S3.v y] 107,.z,false⟩]/\d=[]/\j<=y.n/\Ag ⟨p,l.take j⟩/\KW (l.take j) n) (y.n) ⟨0,0,rfl,rfl,rfl,rfl,by omega,⟨hp,λv H=>(by cases H),trivial⟩,KW.nil⟩ (λF=>trivial) ?_;rintro k _ _ _ ⟨j,n,rfl,rfl,rfl,rfl,hj,E,G⟩ _ _ _ J u;refine tR 5 [] λU _ _=>?_;by_cases I:j<y.n
  .refine tI ((decide ((j:Int)<(y.n:Int)))) true (P' (by omega)) ?_;obtain⟨v,H⟩:∃ v,l[j]?=some v:=⟨_,H' (by omega)⟩;obtain⟨b,O,Q⟩:=h.ad (i:=j) (by omega);have N:l.take (j+1)=l.take j++[v]:=FX l j v H;refine tR 5 [] λV _ _=>tV 0 (pt b (O+8*j)) (λF C=>(UH Q j (by omega))) (tV 1 (.agg #[iv v.bn,iv v.b.r,iv v.b.n,iv v.w.k,iv v.w.c,iv v.w.s,iv v.w.n,iv v.w.v]) (λF C=>(dX v ((h.af (CgQ.af C)).at_ Q H))) (tR 5 [0,0,1,0] λD _ _=>KE 43 (λL K d=>∃ (z:Bool),L=[(1,pt (f 0) 0),(3,iv n),(5,pt (D 0) 0),(17,S3.v y),(18,iv (y.n:Int)),(19,iv (j:Int)),(38,.bool z)]/\K=[⟨(f 0),.cells #[iv p.r,iv p.n,S3.v y] 107,.z,false⟩,⟨(D 0),.cells #[iv v.bn,iv v.b.r,iv v.b.n,iv v.w.k,iv v.w.c,iv v.w.s,iv v.w.n,iv v.w.v] 164,.z,false⟩]/\d=[]/\z=!decide (Ag ⟨p,l.take j++[v]⟩)) (λJ u=>?_) ?_))
   .refine tR 2 [1] λW _ _=>?_;by_cases I:Ah v
    .refine tC1 1 (λF C=>GZ (v:=v) (S.af (CgQ.af C)) (r:=true) (P' I)) λ_=>tR 5 [1] λX _ _=>?_;have R:=G.2.2 v.bn I.1.1;by_cases P:v.bn<n
     .refine tV 7 (.bool true) (λF C=>(rLt (t:=3) (m:=v.bn) (n:=n) (x:=(.tmp 28)) (y:=(.tmp 29)) (P' P))) (tR 9 [] λY _ _=>tD u [true,true] ⟨true,rfl,rfl,rfl,by rw[G' λg=>absurd (R.2 (Iq.1 g).2.2) (by omega)];rfl⟩ (λF=>trivial))
     .refine tV 7 (.bool false) (λF C=>(rLt (t:=3) (m:=v.bn) (n:=n) (x:=(.tmp 28)) (y:=(.tmp 29)) (G' P))) (tR 6 [0,1] λZ _ _=>tC1 14 (λF C=>E4 (a:=p) (b:=v.b) rfl) λ_=>tR 2 [] λa0 _ _=>tD u [true,true] ⟨_,rfl,rfl,rfl,jq (Iq.trans ⟨λg=>g.2.1.2,λg=>⟨E,⟨I,g⟩,R.1 (by omega)⟩⟩)⟩ (λF=>trivial))
    .refine tC1 1 (λF C=>GZ (v:=v) (S.af (CgQ.af C)) (r:=false) (G' I)) λ_=>tR 15 [] λa1 _ _=>tD u [true,true] ⟨true,rfl,rfl,rfl,by rw[G' λg=>I (Iq.1 g).2.1.1];rfl⟩ (λF=>trivial)
   rintro _ _ _ ⟨z,rfl,rfl,rfl,T⟩ _ _ _;by_cases M:z=true
   .refine tI (z) true M (tR 4 [] λa2 _ _=>tE (iv 5) λ_ B=>⟨by rw[F4,if_neg λg=>absurd (N▸Xj g (j+1)) (by simpa[M]using T.symm)],B⟩)
   .refine tI (z) false (by simpa using M) ?_;have A:Ag ⟨p,l.take j++[v]⟩:=by simpa[M]using T.symm
    have o:=(Iq.1 A).2;refine tR 4 [1] λa3 _ _=>tV 2 (iv (v.bn+1)) (λF C=>(Bj 40 v.bn underlying3 (by have:=o.1.1.1;omega))) (tR 4 [] λa4 _ _=>tV 0 (iv ((j:Int)+1)) (λF C=>(Bj 19 (j:Int) underlying3 (by omega))) (tR 2 [] λa5 _ _=>tB u (y.n-(j+1)) (by omega) [true,false] ⟨j+1,v.bn+1,rfl,rfl,rfl,rfl,by omega,by rw[N];exact A,by rw[N];exact G.snoc o.1.1.1.1 o.1.1.1.2 ((G.2.2 v.bn o.1.1.1.1).2 o.2)⟩ (λF=>trivial)))
  .refine tI ((decide ((j:Int)<(y.n:Int)))) false (G' (by omega)) ?_;rw[mr (by omega)]at E
   refine tR 5 [] λa6 _ _=>tE (iv 0) λ_ B=>⟨by rw[F4,if_pos E],B⟩
theorem Sv.cells{ad:Addr}{m:List Vt}(h:Sv w (.slice (some ad) n cap) m):∀ j u,(vtL m)[j]?=some u->w.cell? (ad.add j)=some u:=by
 intro j u d;obtain⟨⟨a,l,e,o,p,f⟩,_⟩:=h;simp only[Value.slice.injEq]at e;obtain⟨rfl,rfl,rfl⟩:=e;rcases f with rfl|⟨b,off,hab,_,hcell⟩
 .simp[vtL]at d
 .obtain rfl:ad=⟨b,off,none⟩:=by simpa using hab
  obtain⟨v,g,i⟩:=bv m j u d;have c:(⟨b,off,none⟩:Addr).add j=⟨b,off+j,none⟩:=by unfold Addr.add;split<;>simp_all
  rw[c];have k:=hcell (j/8) v g (j%8) u i
  rwa [show off+8*(j/8)+j%8=off+j by omega]at k
theorem Rl(w:World)(b s B C e:Nat)(t:P.underlying s=some (.slice e))(o:(P.info? e).map (·.size)=some 8)(g n:Nat)(D:List Value)(f:w.ownsRow b e 8 (.slice (some ⟨g,0,none⟩) n n) n D)(u:Value)(m:List Vt)(c:m.length=n)(v:Sv w u m) :
  ∃ w',(Builtin.copy_ #[s,B] C #[.slice (some ⟨g,0,none⟩) n n,u]).run P w=.ok (goInt n) w'/\w'.ownsRow b e 8 (.slice (some ⟨g,0,none⟩) n n) n (vtL m)/\Below g w w':=by
 obtain⟨i,h,y⟩:∃ i,P.info? e=some i/\i.size=8:=by
  cases h:P.info? e with
  | none=>rw[h]at o;cases o
  | some i=>rw[h]at o;exact⟨i,rfl,by simpa using o⟩
 rcases f.2 with⟨h0,_⟩|⟨g',cap,cur,hvv,hbg,hg,hnc,hcm,hcs,ht⟩
 .cases h0
 .simp only[Value.slice.injEq,X',Addr.mk.injEq]at hvv;obtain⟨⟨rfl,_⟩,_,rfl⟩:=hvv;have l:=v;obtain⟨⟨a,x,rfl,F,A,E⟩,_⟩:=v;rw[c]at l ⊢
  cases a with
  | none =>
   have p:=A rfl;subst p;have q:n=0:=by omega
   subst q;have r:m=[]:=Y' c;subst r;refine⟨w,?_,⟨rfl,.inr ⟨g,0,cur,rfl,hbg,hg,hnc,hcm,hcs,by simp[vtL]⟩⟩,Below.refl _ _⟩;simp[Builtin.copy_,run_underlying t,Builtin.lenOf,Builtin.firstCells,sizeOf,typeInfo,h,storeCells]
  | some ad =>
   have z:=run_firstCells_some (P:=P) w 8 n ad n x (vtL m) (by rw[De,c]) l.cells;have j:=run_storeCells_at P g 0 e (vtL m) 0 cur w hg (by rw[De,c];omega) (Va m);have d:(cur.toList.take (0+0)++vtL m++cur.toList.drop (0+0+(vtL m).length))=vtL m:=by
    rw[De,c,na (by rw[nF];omega)];simp
   rw[d]at j
   refine⟨w.setRow g (vtL m).toArray,?_,⟨by rw[De,c],.inr ⟨g,n,(vtL m).toArray,rfl,hbg,setRow_heap w g cur _ e _ hg,A' _,hcm,by simp[De,c],?_⟩⟩,?_⟩
   .simp[Builtin.copy_,run_underlying t,Builtin.lenOf,sizeOf,typeInfo,h,y,z,j]
   .rw[mr (by simp[De,c])]
   .exact⟨rfl,rfl,rfl,by simp,λk G=>setRow_other w g k _ (by omega)⟩
theorem MQ(w:World){j:Array Oper}{c:List Oper}{o:Oper}{a:Act}{Q:Exit->Act->World->Prop}(l:o.guard=none)(d s:Operand)(k q:TypeId)(y:o.op=.call { callee:=.builtin .copy,args:=#[d,s],argTypes:=#[k,q] })(b e:Nat)(A:P.underlying k=some (.slice e))(z:(P.info? e).map (·.size)=some 8)(g n:Nat)(r:List Value)(v:a.eval d=.slice (some ⟨g,0,none⟩) n n)(f:w.ownsRow b e 8 (.slice (some ⟨g,0,none⟩) n n) n r)(u:Value)(p:a.eval s=u)(m:List Vt)(x:m.length=n)(B:Sv w u m)(h:∀ w',w'.ownsRow b e 8 (.slice (some ⟨g,0,none⟩) n n) n (vtL m)->Below g w w'->wpList P j Q c (a.put o.dst (goInt n)) w'):wpList P j Q (o::c) a w:=by
 refine wpList_plain l λK t=>?_;obtain⟨w',i,C,D⟩:=Rl (P:=P) w b k q o.type e A z g n r f u m x B;unfold Oper.wp execOp;simp only[y,resolve,invoke,builtin,Sem.run_bind,Sem.run_pure,Result.andThen_ok,oT,mR,nG,v,p,i];exact t _ _ (h w' C D)
theorem MT(w:World){g:Array Oper}{d:List Oper}{o:Oper}{a:Act}{Q:Exit->Act->World->Prop}(v:o.guard=none)(l c:Operand)(t:TypeId)(h:o.op=Op.makeSlice t l c)(b:Nat)(e:TypeId)(r:P.underlying t=some (.slice e))(f:(P.info? e).map (λi=>(i.zero,i.size,i.bytes))=some (some zVt,8,64))(n:Nat)(y:a.eval l=.int .i64 (n:Int))(u:a.eval c=.int .i64 (n:Int))(B:n<=2199023255488)(p:b<=w.heap.size)(s:∀ w',Hid (∃ xs,w'.ownsRow b e 8 (.slice (some ⟨w.heap.size,0,none⟩) n n) n xs)->w.grownBy w' none->wpList P g Q d (a.put o.dst (.slice (some ⟨w.heap.size,0,none⟩) n n)) w'):wpList P g Q (o::d) a w:=by
 obtain⟨z,x,j,k,m⟩:=info_parts f;refine wpList_make_full w v l c t h b e z zVt 8 r x j k _ _ _ _ n y u rfl rfl (by rw[m];omega) (by unfold maxLen;omega) p (λw' A q=>s w' ⟨_,A⟩ q)
theorem FN{b a c:Nat}{v:Value}(h:w.ownsRow b e c v n xs)(d:a<=b):w.ownsRow a e c v n xs:=by
 refine⟨h.1,?_⟩;rcases h.2 with h2|⟨g,cap,cur,hv,hbg,hr⟩
 .exact .inl h2
 .exact .inr ⟨g,cap,cur,hv,mg d hbg,hr⟩
theorem vt8:(prog.info? 164).map (·.size)=some 8:=by kernel_rfl
theorem RX(x:Value)(l:List Vt)(w:World)(h:Sv w x l) :
  Calls prog 158 #[x] w λe w'=>∃ x',e=.returned x'/\w'.ownsRow w.heap.size 164 8 x' l.length (vtL l)/\Bw w w':=by
 have b:=h.len;obtain⟨a,v,rfl⟩:=h.shape;obtain⟨N,f⟩:∃ N,l.length=N:=⟨_,rfl⟩;have n:Hid (l.length=N):=f;rw[f]at h b ⊢
 clear f;go_enter func158,ntmps158
 go_wp2_with ((with_reducible (refine Da ?_));at_make;refine MT _ rfl _ _ 105 rfl w.heap.size 164 underlying105 EZ N rfl rfl b (A' _) ?_)
 intro m c q;have i:Bw w m:=(Below.refl _ _).grown q (A' _) (λk s=>by cases s);have r:=h.af i;obtain⟨u,c⟩:=c.out;have g:Hid (m.ownsRow w.heap.size 164 8 (.slice (some ⟨w.heap.size,0,none⟩) N N) N u):=c;clear c;go_wp2_with ((with_reducible (refine Da ?_));refine MQ _ rfl _ _ 105 105 rfl w.heap.size 164 underlying105 vt8 w.heap.size N _ rfl g.out _ rfl l n.out r ?_)
 intro t j o;have d:Hid (t.ownsRow w.heap.size 164 8 (.slice (some ⟨w.heap.size,0,none⟩) N N) N (vtL l)):=j;have p:=i.trans o;clear j g;go_wp2
 go_ret;exact⟨_,rfl,d.out,p⟩
theorem Sv.first(h:Sv w (.slice a n cap) l)(i:Nat)(v:Vt)(e:l[i]?=some v):∃ b off,a=some ⟨b,off,none⟩/\b<w.heap.size/\w.cell? ⟨b,off+8*i,none⟩=some (.int .i64 v.bn):=by
 obtain⟨b,off,c,d,f⟩:=h.spot i v e;exact⟨b,off,c,d,f 0 _ rfl⟩
theorem Tv(f g:Nat)(a:Option Addr)(n c:Nat)(l:List Vt)(s:Int)(i:Nat)(v:Vt)(w:World)(u:l.length=n)(j:l[i]?=some v)(h:Sv w (.slice a n c) l)(p:w.cell? ⟨f,0,none⟩=some (.slice a n c))(q:w.cell? ⟨g,0,none⟩=some (.int .i64 s)) :
  Calls prog 198 #[.int .i64 (i:Int),.pointer (some ⟨f,0,none⟩),.pointer (some ⟨g,0,none⟩)] w λe w'=>e=.returned (.bool (decide (s<=v.bn)))/\Bw w w':=by
 obtain⟨b,d,rfl,t,r⟩:=h.first i v j;have hin:i<n:=by have:=(V'.1 j).1;omega
 have o:=JA b d n c i hin;have k:=Below.refl w.heap.size w;go_enter func198,ntmps198
 go_wp2_with fail
 go_quiet (fail)
 have m:Bw w (w.drewN nq):=Aq k nq;go_wp2
 go_ret;exact⟨Aw (by simp),m⟩
theorem T7(o q:Nat)(a:Option Addr)(n f:Nat)(l:List Vt)(s:Int)(w:World)(B:l.length=n)(M:BL l)(h:Sv w (.slice a n f) l)(N:o<w.heap.size)(O:q<w.heap.size)(G:w.cell? ⟨o,0,none⟩=some (.slice a n f))(H:w.cell? ⟨q,0,none⟩=some (.int .i64 s)) :
  Calls prog 197 #[.int .i64 (n:Int),.func (.func 198) #[] #[.pointer (some ⟨o,0,none⟩),.pointer (some ⟨q,0,none⟩)]] w λe w'=>∃ p:Nat,e=.returned (.int .i64 (p:Int))/\Plc l s p/\Bw w w':=by
 have t:=h.len;rw[B]at t
 have y:Hid (l.length=n):=B;clear B;go_enter func197,ntmps197
 go_wp2_with fail
 go_loopw [5,6] (λiv C wr=>∃ i j:Nat,i<=j/\j<=n/\iv=.int .i64 (i:Int)/\C=.int .i64 (j:Int)/\(∀ (k:Nat) (v:Vt),k<i->l[k]?=some v->v.bn<s)/\(∀ (k:Nat) (v:Vt),j<=k->l[k]?=some v->s<=v.bn)/\Bw w wr) (λiv C _=>(intOf C-intOf iv).toNat)
 case atStart=>exact⟨0,n,by omega,by omega,rfl,rfl,λk v K=>by omega,λk v K g=>by have:=(V'.1 g).1;have:=y.out;omega,Below.refl _ _⟩
 case round =>
  obtain⟨i,j,I,J,rfl,rfl,u,r,b⟩:=hrel;have d:Hid (∀ (k:Nat) (v:Vt),k<i->l[k]?=some v->v.bn<s):=u;have c:Hid (∀ (k:Nat) (v:Vt),j<=k->l[k]?=some v->s<=v.bn):=r;clear u r;by_cases L:i<j
  .have hlt':(i:Int)<(j:Int):=by omega
   go_wp2_with fail
   obtain⟨m,E⟩:∃ m:Nat,((i:Int)+(j:Int))/2=(m:Int):=⟨(i+j)/2,by omega⟩;rw[E];have P:i<=m:=by omega
   have Q:m<j:=by omega
   clear E;obtain⟨v,g⟩:∃ v,l[m]?=some v:=⟨_,H' (by have:=y.out;omega)⟩;refine(Tv o q a n f l s m v wr y.out g (h.af b) ((b.cell (p:=⟨o,0,none⟩) N).trans G) ((b.cell (p:=⟨q,0,none⟩) O).trans H)).mono ?_;rintro e R ⟨rfl,F⟩;have D:=b.trans (F.mono b.size);obtain⟨P1,A⟩:=Plc.half M g d.out c.out;by_cases x:s<=v.bn
   .rw[P' x];have z:Hid (∀ (k:Nat) (v:Vt),m<=k->l[k]?=some v->s<=v.bn):=A x;clear P1 A g x;go_wp2
    go_roundw
    case rel=>exact⟨i,m,by omega,by omega,rfl,rfl,d.out,z.out,D⟩
    case measure=>simp[intOf];omega
   .rw[G' x];have z:Hid (∀ (k:Nat) (v:Vt),k<m+1->l[k]?=some v->v.bn<s):=P1 (by omega);clear P1 A g x;go_wp2
    go_roundw
    case rel=>exact⟨m+1,j,by omega,by omega,by go_num,rfl,z.out,c.out,D⟩
    case measure=>simp[intOf];omega
  .obtain rfl:i=j:=by omega
   go_wp2
   go_ret;exact⟨i,rfl,⟨by have:=y.out;omega,d.out,c.out⟩,b⟩
theorem Ke(x:Value)(l:List Vt)(s:Int)(w:World)(v:BL l)(h:Sv w x l) :
  Calls prog 187 #[x,.int .i64 s] w λe w'=>∃ p:Nat,e=.returned (.int .i64 (p:Int))/\Plc l s p/\Bw w w':=by
 obtain⟨a,b,rfl⟩:=h.shape;obtain⟨n,f⟩:∃ n,l.length=n:=⟨_,rfl⟩;rw[f]at h ⊢
 have m:Hid (l.length=n):=f;clear f;have j:=heap_alloc2_old w (.cells #[.slice a n b] 105) (.cells #[.int .i64 s] 3);have k:=heap_alloc2_new w (.cells #[.slice a n b] 105) (.cells #[.int .i64 s] 3);have c:Bw w ((w.alloc (.cells #[.slice a n b] 105)).alloc (.cells #[.int .i64 s] 3)):=((Below.refl _ _).alloc (A' _) _).alloc (by simp) _;generalize g:(w.alloc (.cells #[.slice a n b] 105)).alloc (.cells #[.int .i64 s] 3)=W at j k c;have z:W.heap.size=w.heap.size+2:=by rw[<- g];simp
 have r:W.cell? ⟨w.heap.size,0,none⟩=some (.slice a n b):=cell_of_row _ _ 0 _ _ _ j;have t:W.cell? ⟨w.heap.size+1,0,none⟩=some (.int .i64 s):=cell_of_row _ _ 0 _ _ _ k;have d:=h.af c;go_enter func187,ntmps187
 go_wp2_with fail
 clear g;refine(T7 w.heap.size (w.heap.size+1) a n b l s W m.out v d (by omega) (by omega) r t).mono ?_;rintro e y ⟨p,rfl,i,q⟩;have u:=c.trans (q.mono c.size);have o:Hid (Plc l s p):=i;clear i;go_wp2
 go_ret;exact⟨p,rfl,o.out,u⟩
def LA(l:List Vt)(p:Nat)(s:Int):Bool:=match l[p]? with|some v=>decide (v.bn=s)|none=>false
theorem Ju(h:l[p]?=some v):LA l p s=decide (v.bn=s):=by unfold LA;rw[h]
theorem NU(h:l[p]?=none):LA l p s=false:=by unfold LA;rw[h]
theorem NV(h:LA l p s=true):∃ v,l[p]?=some v/\v.bn=s:=by
 cases hu:l[p]? with
 | none=>rw[NU hu]at h;cases h
 | some v=>rw[Ju hu]at h;exact⟨v,rfl,mN h⟩
theorem LB(h:LA l p s=false):∀ v,l[p]?=some v->v.bn≠s:=by
 intro v a;rw[Ju a]at h
 exact of_decide_eq_false h
theorem JX(x:Value)(l:List Vt)(p:Nat)(s:Int)(w:World)(h:Sv w x l) :
  Calls prog 188 #[x,.int .i64 (p:Int),.int .i64 s] w λe w'=>e=.returned (.bool (LA l p s))/\w'=w:=by
 obtain⟨a,g,rfl⟩:=h.shape;obtain⟨n,c⟩:∃ n,l.length=n:=⟨_,rfl⟩;rw[c]at h ⊢
 by_cases j:p<n
 .obtain⟨v,hv⟩:∃ v,l[p]?=some v:=⟨_,H' (by omega)⟩;obtain⟨b,f,rfl,m,k⟩:=h.first p v hv;have i:=JA b f n g p j;have d:(p:Int)<(n:Int):=by omega
  rw[Ju hv];clear c hv h;go_enter func188,ntmps188
  go_wp2
  go_ret;exact⟨Aw (by first|rfl|simp),rfl⟩
 .have hv:l[p]?=none:=nN (by omega);have d:¬ (p:Int)<(n:Int):=by omega
  rw[NU hv];clear c hv h;go_enter func188,ntmps188
  go_wp2
  go_ret;exact⟨rfl,rfl⟩
theorem Sv.rh(h:Sv w (.slice a n cap) l)(d f:Nat)(j:d<=f)(g:f<=l.length):Sv w (sliced a d f cap 8) ((l.take f).drop d):=by
 obtain⟨⟨s,k,e,u,r,p⟩,q⟩:=h;simp only[Value.slice.injEq]at e;obtain⟨rfl,rfl,rfl⟩:=e;have m:((l.take f).drop d).length=f-d:=by rw[mo,j'];omega
 cases a with
 | none =>
  have o:=r rfl;subst o;have t:l.length=0:=by omega
  refine⟨⟨_,_,by rw[m];rfl,by omega,λ_=>by omega,.inl (Y' (by omega))⟩,by omega⟩
 | some ad =>
  refine⟨⟨_,_,by rw[m];rfl,by omega,(by intro h;split at h<;>simp at h),?_⟩,by omega⟩;rcases Nat.eq_or_lt_of_le j with he|hlt
  .exact .inl (Y' (by omega))
  .rcases p with rfl|⟨b,off,e2,hbs,hcell⟩
   .simp at g;omega
   .simp only[X']at e2;subst e2;refine .inr ⟨b,off+d*8,?_,hbs,λi v c=>?_⟩
    .rw[if_neg (by omega)];simp[Addr.add]
    .rw[ng,nk]at c
     split at c
     .have:=hcell (d+i) v c
      rwa [show off+8*(d+i)=off+d*8+8*i by omega]at this
     .cases c
theorem Sv.ov(h:Sv w (.slice a n cap) l)(b:Nat)(c:b<=l.length) :
  ∃ a' c',(∀ W,(Instr.slice 105 (.slice a n cap) none (some (.int .i64 (b:Int))) none).run prog W=.ok (.slice a' b c') W)/\Sv w (.slice a' b c') (l.take b):=by
 have g:=h.rh 0 b (by omega) c;obtain⟨⟨a',d,e,j,k,i⟩,f⟩:=h;simp only[Value.slice.injEq]at e;obtain⟨rfl,rfl,rfl⟩:=e;refine⟨_,_,λW=>?_,by simpa[sliced]using g⟩;rw[run_slice_h (P:=prog) W 105 a _ cap underlying105 .i64 _ (by omega) (by omega)];rw[Sn,T9];simp[Result.andThen,sliced]
theorem Sv.from(h:Sv w (.slice a n cap) l)(b:Nat)(c:b<=l.length) :
  ∃ a' c',(∀ W,(Instr.slice 105 (.slice a n cap) (some (.int .i64 (b:Int))) none none).run prog W=.ok (.slice a' (n-b) c') W)/\Sv w (.slice a' (n-b) c') (l.drop b):=by
 have g:=h.rh b l.length c (A' _);obtain⟨⟨a',d,e,j,k,i⟩,f⟩:=h;simp only[Value.slice.injEq]at e;obtain⟨rfl,rfl,rfl⟩:=e;refine⟨_,_,λW=>?_,by simpa[sliced]using g⟩;rw[run_slice_l (P:=prog) W 105 a _ cap underlying105 .i64 _ (by omega) (by omega)];rw[Sn,T9];simp[Result.andThen,sliced]
theorem Fx(w:World){g:Array Oper}{d:List Oper}{o:Oper}{a:Act}{Q:Exit->Act->World->Prop}(x:o.guard=none)(l c:Operand)(t:TypeId)(h:o.op=Op.makeSlice t l c)(b:Nat)(e:TypeId)(r:P.underlying t=some (.slice e))(f:(P.info? e).map (λi=>(i.zero,i.size,i.bytes))=some (some zVt,8,64))(C:Int)(n:Nat)(z:a.eval l=.int .i64 0)(v:a.eval c=.int .i64 C)(s:C=(n:Int))(D:n<=2199023255500)(p:b<=w.heap.size)(u:∀ w',Hid (w'.ownsRow b e 8 (.slice (some ⟨w.heap.size,0,none⟩) 0 n) ([]:List Vt).length (vtL []))->w.grownBy w' none->wpList P g Q d (a.put o.dst (.slice (some ⟨w.heap.size,0,none⟩) 0 n)) w'):wpList P g Q (o::d) a w:=by
 obtain⟨A,y,j,k,m⟩:=info_parts f;exact wpList_make_own w x l c t h b e A zVt 8 r y j k _ _ C n z v s (by rw[m];omega) (by unfold maxLen;omega) p (λw' B q=>u w' B q)
theorem PK(x:Value)(l:List Vt)(v:Vt)(w:World)(hr:BL l)(h:Sv w x l) :
  Calls prog 163 #[x,.agg (vtA v)] w λe w'=>∃ x',e=.returned x'/\w'.ownsRow w.heap.size 164 8 x' (Bo l v).length (vtL (Bo l v))/\Bw w w':=by
 have Z:=h.len;obtain⟨a,cp,rfl⟩:=h.shape;obtain⟨n,hn⟩:∃ n,l.length=n:=⟨_,rfl⟩;rw[hn]at h Z ⊢
 have R:Hid (l.length=n):=hn;clear hn;have P:Bw w (w.alloc (.cells (vtA v) 164)):=(Below.refl _ _).alloc (A' _) _;have B:=heap_alloc_new w (.cells (vtA v) 164);have M:=jh v;have HU:Hid (∀ p,Plc l v.bn p->LA l p v.bn=true->Bo l v=l.take p++[v]++l.drop (p+1)/\p+1<=l.length):=λp E D=>by
  obtain⟨u,hu,he⟩:=NV D;exact⟨by rw[E.has hu he];simp,by have:=(V'.1 hu).1;omega⟩
 have HN:Hid (∀ p,Plc l v.bn p->LA l p v.bn=false->Bo l v=l.take p++[v]++l.drop p/\p<=l.length):=λp E D=>⟨by rw[E.no (LB D)];simp,E.le⟩;obtain⟨c,⟨m,i⟩,⟨f,d,j,g,o⟩⟩:=v;simp only[vtA,vtC]at P B M ⊢;generalize hW:w.alloc (.cells [.int .i64 c,.int .i64 m,.int .i64 i,.int .i64 f,.int .i64 d,.int .i64 j,.int .i64 g,.int .i64 o].toArray 164)=W at P B;have a3:w.heap.size<W.heap.size:=(U'.1 B).1;have c0:W.cell? ⟨w.heap.size,0,none⟩=some (.int .i64 c):=cell_of_row _ _ 0 _ _ _ B;go_enter func163,ntmps163
 go_wp2_with fail
 clear hW;refine(Ke _ l c W hr (h.af P)).mono ?_;rintro e w1 ⟨p,rfl,E,b1⟩;have C:=P.trans (b1.mono P.size);have F:w.heap.size<w1.heap.size:=Z' a3 b1.size;replace B:=(b1.block _ a3).trans B;have c0:w1.cell? ⟨w.heap.size,0,none⟩=some (.int .i64 c):=cell_of_row _ _ 0 _ _ _ B;have Q:=h.af C;have a5:p<=n:=by have:=E.le;have:=R.out;omega
 have HP:Hid (Plc l c p):=E;clear b1 P E;go_wp2_with fail
 refine(JX _ l p c w1 Q).mono ?_;rintro e b ⟨rfl,rfl⟩;obtain⟨a1,k1,u1,su⟩:=Q.ov p HP.out.le;have a0:(l.take p).length<=n:=by rw[j'];omega
 have hz:=C.size;generalize D:LA l p c=bh;cases bh
 .obtain⟨HI0,hk0⟩:=HN.out p HP.out D;have G:Hid (Bo l ⟨c,⟨m,i⟩,⟨f,d,j,g,o⟩⟩=l.take p++([⟨c,⟨m,i⟩,⟨f,d,j,g,o⟩⟩]:List Vt)++l.drop (p)):=HI0;obtain⟨a2,k2,u2,sd⟩:=Q.from (p) hk0;have t:(l.take p).length+(l.drop (p)).length<=n:=by rw[j',mo];have:=R.out;omega
  have T:Hid (∀ w',Bw b w'->Sv w' (.slice a1 p k1) (l.take p)):=λw' L=>su.af L;have S:Hid (∀ w',Bw b w'->Sv w' (.slice a2 (n-(p)) k2) (l.drop (p))):=λw' L=>sd.af L;clear HI0 HU HN D su sd Q h hr;generalize l.take p=LP at G T a0 t;generalize l.drop (p)=LD at G S t;have a4:(p)<=n:=by have:=R.out;omega
  go_wp2_with ((with_reducible (refine Da ?_));at_make;refine Fx _ rfl _ _ 105 rfl b.heap.size 164 underlying105 EZ _ (n+1) rfl rfl (by first|rfl|omega) (by omega) (A' _) ?_)
  intro w3 N U;have I:Bw b w3:=(Below.refl _ _).grown U (A' _) (λk s=>by cases s);have z3:=I.size;clear U;go_wp2_with ((with_reducible (refine Da ?_));at_builtin;refine B3 _ rfl _ _ 105 rfl b.heap.size 164 zVt underlying105 EZ rfl _ _ rfl rfl [] (LP) N.out (T.out w3 I) (by simp;omega) (by omega) ?_)
  intro v4 w4 o4 V;have J:Bw b w4:=I.grown V (by omega) (λk s=>(N.out.lt k s).1);have z4:=J.size;have q:Hid (w4.ownsRow b.heap.size 164 8 v4 (LP).length (vtL (LP))):=by unfold Hid;simpa using o4
  have y:=q.out.lt;have A:=(J.block _ F).trans B;clear o4 V N;go_wp2_with ((with_reducible (refine Da ?_));first|(refine wpList_load_row rfl 164 _ rfl w.heap.size rfl 164 _ (0,0) _ A underlying164 rfl M ?_)|(at_builtin;refine B3 _ rfl _ _ 105 rfl b.heap.size 164 zVt underlying105 EZ rfl _ _ rfl rfl (LP) ([⟨c,⟨m,i⟩,⟨f,d,j,g,o⟩⟩]:List Vt) (q.out.alloc _) (Sv.one _ ⟨c,⟨m,i⟩,⟨f,d,j,g,o⟩⟩ _ rfl) (by simp;omega) (by simp;omega) ?_))
  intro v5 O o5 X;have K:Bw b O:=(J.alloc (by omega) _).grown X (by simp;omega) (λk s=>(y k s).1);have z5:=K.size;have r:Hid (O.ownsRow b.heap.size 164 8 v5 (LP++([⟨c,⟨m,i⟩,⟨f,d,j,g,o⟩⟩]:List Vt)).length (vtL (LP++([⟨c,⟨m,i⟩,⟨f,d,j,g,o⟩⟩]:List Vt)))):=by unfold Hid;rw[E'];exact o5
  have z:=r.out.lt;clear o5 X q y A;go_wp2_with ((with_reducible (refine Da ?_));at_builtin;refine B3 _ rfl _ _ 105 rfl b.heap.size 164 zVt underlying105 EZ rfl _ _ rfl rfl (LP++([⟨c,⟨m,i⟩,⟨f,d,j,g,o⟩⟩]:List Vt)) (LD) r.out (S.out O K) (by rw[E'];simp;omega) (by omega) ?_)
  intro v6 w6 o6 Y;have b6:Bw b w6:=K.grown Y (by omega) (λk s=>(z k s).1);have H:Hid (w6.ownsRow b.heap.size 164 8 v6 (LP++([⟨c,⟨m,i⟩,⟨f,d,j,g,o⟩⟩]:List Vt)++LD).length (vtL (LP++([⟨c,⟨m,i⟩,⟨f,d,j,g,o⟩⟩]:List Vt)++LD))):=by unfold Hid;simpa using o6
  have d6:=C.trans (b6.mono C.size);clear o6 Y r z;go_wp2
  go_ret;refine⟨v6,rfl,?_,d6⟩;rw[G.out];exact FN H.out C.size
 .obtain⟨HI0,hk0⟩:=HU.out p HP.out D;have G:Hid (Bo l ⟨c,⟨m,i⟩,⟨f,d,j,g,o⟩⟩=l.take p++([⟨c,⟨m,i⟩,⟨f,d,j,g,o⟩⟩]:List Vt)++l.drop (p+1)):=HI0;obtain⟨a2,k2,u2,sd⟩:=Q.from (p+1) hk0;rw[show((p+1:Nat):Int)=(p:Int)+1 by omega]at u2
  have t:(l.take p).length+(l.drop (p+1)).length<=n:=by rw[j',mo];have:=R.out;omega
  have T:Hid (∀ w',Bw b w'->Sv w' (.slice a1 p k1) (l.take p)):=λw' L=>su.af L;have S:Hid (∀ w',Bw b w'->Sv w' (.slice a2 (n-(p+1)) k2) (l.drop (p+1))):=λw' L=>sd.af L;clear HI0 HU HN D su sd Q h hr;generalize l.take p=LP at G T a0 t;generalize l.drop (p+1)=LD at G S t;have a4:(p+1)<=n:=by have:=R.out;omega
  go_wp2_with ((with_reducible (refine Da ?_));at_make;refine Fx _ rfl _ _ 105 rfl b.heap.size 164 underlying105 EZ _ (n+1) rfl rfl (by first|rfl|omega) (by omega) (A' _) ?_)
  intro w3 N U;have I:Bw b w3:=(Below.refl _ _).grown U (A' _) (λk s=>by cases s);have z3:=I.size;clear U;go_wp2_with ((with_reducible (refine Da ?_));at_builtin;refine B3 _ rfl _ _ 105 rfl b.heap.size 164 zVt underlying105 EZ rfl _ _ rfl rfl [] (LP) N.out (T.out w3 I) (by simp;omega) (by omega) ?_)
  intro v4 w4 o4 V;have J:Bw b w4:=I.grown V (by omega) (λk s=>(N.out.lt k s).1);have z4:=J.size;have q:Hid (w4.ownsRow b.heap.size 164 8 v4 (LP).length (vtL (LP))):=by unfold Hid;simpa using o4
  have y:=q.out.lt;have A:=(J.block _ F).trans B;clear o4 V N;go_wp2_with ((with_reducible (refine Da ?_));first|(refine wpList_load_row rfl 164 _ rfl w.heap.size rfl 164 _ (0,0) _ A underlying164 rfl M ?_)|(at_builtin;refine B3 _ rfl _ _ 105 rfl b.heap.size 164 zVt underlying105 EZ rfl _ _ rfl rfl (LP) ([⟨c,⟨m,i⟩,⟨f,d,j,g,o⟩⟩]:List Vt) (q.out.alloc _) (Sv.one _ ⟨c,⟨m,i⟩,⟨f,d,j,g,o⟩⟩ _ rfl) (by simp;omega) (by simp;omega) ?_))
  intro v5 O o5 X;have K:Bw b O:=(J.alloc (by omega) _).grown X (by simp;omega) (λk s=>(y k s).1);have z5:=K.size;have r:Hid (O.ownsRow b.heap.size 164 8 v5 (LP++([⟨c,⟨m,i⟩,⟨f,d,j,g,o⟩⟩]:List Vt)).length (vtL (LP++([⟨c,⟨m,i⟩,⟨f,d,j,g,o⟩⟩]:List Vt)))):=by unfold Hid;rw[E'];exact o5
  have z:=r.out.lt;clear o5 X q y A;go_wp2_with ((with_reducible (refine Da ?_));at_builtin;refine B3 _ rfl _ _ 105 rfl b.heap.size 164 zVt underlying105 EZ rfl _ _ rfl rfl (LP++([⟨c,⟨m,i⟩,⟨f,d,j,g,o⟩⟩]:List Vt)) (LD) r.out (S.out O K) (by rw[E'];simp;omega) (by omega) ?_)
  intro v6 w6 o6 Y;have b6:Bw b w6:=K.grown Y (by omega) (λk s=>(z k s).1);have H:Hid (w6.ownsRow b.heap.size 164 8 v6 (LP++([⟨c,⟨m,i⟩,⟨f,d,j,g,o⟩⟩]:List Vt)++LD).length (vtL (LP++([⟨c,⟨m,i⟩,⟨f,d,j,g,o⟩⟩]:List Vt)++LD))):=by unfold Hid;simpa using o6
  have d6:=C.trans (b6.mono C.size);clear o6 Y r z;go_wp2
  go_ret;refine⟨v6,rfl,?_,d6⟩;rw[G.out];exact FN H.out C.size
def Fa.fo(B:Nat)(e:TypeId)(sz:Nat)(x:Value)(n:Nat)(vs:List Value):Fa:=⟨none,λg w=>w.ownsRow B e sz x n vs/\∀ k,x.ownBlock=some k->k<w.heap.size/\g.t k=.z,λhz _ c h=>⟨Te h.1 λk hk=>c.zc hz (h.2 k hk).1 (h.2 k hk).2,λk hk=>⟨Z' (h.2 k hk).1 c.size,(c.tag (h.2 k hk).1 λe=>by rw[(h.2 k hk).2]at e;cases e).trans (h.2 k hk).2⟩⟩⟩
theorem Yn{g:Gh}{a:Nat}(h:w.ownsRow B e sz y n xs)(d:a<=B)(G:∀ b,B<=b->g.t b=.z):w.ownsRow a e sz y n xs/\∀ k,y.ownBlock=some k->k<w.heap.size/\g.t k=.z:=by
 refine⟨FN h d,λk c=>?_⟩;rcases h.2 with⟨rfl,_⟩|⟨b,cap,cur,rfl,hb,hh,_⟩
 .cases c
 .cases c;exact⟨(U'.1 hh).1,G _ hb⟩
theorem Zo(h:w.ownsRow B e sz y n xs):∃ z:S3,y=z.v:=by
 rcases h.2 with⟨rfl,_⟩|⟨b,cap,cur,rfl,_⟩
 .exact⟨s30,rfl⟩
 .exact⟨⟨some ⟨b,0,none⟩,n,cap⟩,rfl⟩
theorem Uj{y:S3}(h:Sv w y.v l) :
  Calls prog 158 #[y.v] w λe w'=>∃ z:S3,e=.returned z.v/\w'.ownsRow w.heap.size 164 8 z.v l.length (vtL l)/\Bw w w' :=
 (RX y.v l w h).mono λe w' ⟨x,b,a,c⟩=>by obtain⟨z,rfl⟩:=Zo a;exact⟨z,b,a,c⟩
theorem fh{y:S3}(g:BL l)(h:Sv w y.v l) :
  Calls prog 163 #[y.v,.agg #[iv v.bn,iv v.b.r,iv v.b.n,iv v.w.k,iv v.w.c,iv v.w.s,iv v.w.n,iv v.w.v]] w λe w'=>∃ z:S3,e=.returned z.v/\w'.ownsRow w.heap.size 164 8 z.v (Bo l v).length (vtL (Bo l v))/\Bw w w' :=
 (PK y.v l v w g h).mono λe w' ⟨x,d,a,f⟩=>by obtain⟨z,rfl⟩:=Zo a;exact⟨z,d,a,f⟩
end
section
variable{p:Bal}{l:List Vt}{w w':World}
theorem Pr{b:Bal}{E:Int}(a:Cl ⟨p,l⟩ b=E)(c:E≠0)(f:Bw w w'):∃ y z,(Ending.returned (.tuple #[.agg #[iv 0,iv 0,sn],sn,iv E]):Ending)=.returned (.tuple #[.agg (acA (Fq ⟨p,l⟩ b) y),z,.int .i64 (Cl ⟨p,l⟩ b)])/\w'.ownsRow w.heap.size 164 8 y (Ea ⟨p,l⟩ b).length (vtL (Ea ⟨p,l⟩ b))/\w'.ownsRow w.heap.size 164 8 z (Ea ⟨p,l⟩ b).length (vtL (Ea ⟨p,l⟩ b))/\Bw w w':=by
 have d:Fq ⟨p,l⟩ b=⟨0,0⟩:=if_neg (by rw[a];exact c);have e:Ea ⟨p,l⟩ b=[]:=if_neg (by rw[a];exact c);rw[d,e,a];exact⟨sn,sn,rfl,World.ownsRow_nil _ _ _ _,World.ownsRow_nil _ _ _ _,f⟩
theorem dQ{b:Bal}{y z:S3}(e:Ag ⟨p,l⟩)(f:Ab b)(h:¬ b.lt p)(j:w'.ownsRow w.heap.size 164 8 y.v l.length (vtL l))(k:w'.ownsRow w.heap.size 164 8 z.v l.length (vtL l))(i:Bw w w'):∃ y' z',(Ending.returned (.tuple #[.agg #[iv b.r,iv b.n,y.v],z.v,iv 0]):Ending)=.returned (.tuple #[.agg (acA (Fq ⟨p,l⟩ b) y'),z',.int .i64 (Cl ⟨p,l⟩ b)])/\w'.ownsRow w.heap.size 164 8 y' (Ea ⟨p,l⟩ b).length (vtL (Ea ⟨p,l⟩ b))/\w'.ownsRow w.heap.size 164 8 z' (Ea ⟨p,l⟩ b).length (vtL (Ea ⟨p,l⟩ b))/\Bw w w':=by
 have a:Cl ⟨p,l⟩ b=0:=(if_neg (λg=>g e)).trans ((if_neg (λg=>g f)).trans (if_neg h));have c:Fq ⟨p,l⟩ b=b:=if_pos a;have d:Ea ⟨p,l⟩ b=l:=if_pos a;rw[c,d,a];exact⟨y.v,z.v,rfl,j,k,i⟩
end
theorem Dm(p:Bal)(x:Value)(l:List Vt)(b:Bal)(w:World)(h:Sv w x l)(J:NTab w) :
  Calls prog 127 #[.agg (acA p x),.agg (baA b)] w λe w'=>∃ y z,e=.returned (.tuple #[.agg (acA (Fq ⟨p,l⟩ b) y),z,.int .i64 (Cl ⟨p,l⟩ b)])/\w'.ownsRow w.heap.size 164 8 y (Ea ⟨p,l⟩ b).length (vtL (Ea ⟨p,l⟩ b))/\w'.ownsRow w.heap.size 164 8 z (Ea ⟨p,l⟩ b).length (vtL (Ea ⟨p,l⟩ b))/\Bw w w':=by
 obtain⟨y,rfl⟩:=h.s3;show Calls prog 127 #[.agg #[iv p.r,iv p.n,S3.v y],.agg #[iv b.r,iv b.n]] w _;refine tIn [] func127 trivial (tR 12 [0,0,0,0,1,0,0] λc _ _=>tC1 1 (λF C=>Jo p y.v l _ (h.af (CgQ.af C)) (J.af (CgQ.af C))) λ_=>tR 7 [] λK _ _=>?_);by_cases d:Ag ⟨p,l⟩
 .have hE:F4 ⟨p,l⟩=0:=if_pos d;refine tI (((F4 ⟨p,l⟩) != 0)) false (by rw[hE];decide) (tR 5 [1] λL _ _=>?_);by_cases f:Ab b
  .refine tC1 1 (λF C=>IC (b:=b) (r:=true) (P' f)) λ_=>tR 10 [1,0] λM _ _=>?_;by_cases k:b.lt p
   .refine tC1 3 (λF C=>E4 (a:=b) (b:=p) (r:=true) (P' k)) λ_=>tR 9 [2,0] λN _ _=>tX λF C=>qE3 4 5 6 107 2 (c 2) #[iv 0,iv 0,sn] sn (iv 7) λ_=>Pr ((if_neg (λg=>g d)).trans ((if_neg (λg=>g f)).trans (if_pos k))) (by decide) (CgQ.af C)
   .refine tC1 3 (λF C=>E4 (a:=b) (b:=p) (r:=false) (G' k)) λ_=>tR 10 [8,0,1,2,4,0,10,12,0] λD _ _=>tF λ_ m=>?_;have i:=m.size;refine tC 3 (λF C=>Uj (h.af (CgQ.af C))) λo=>?_;rintro _ _ ⟨A,rfl,t,q⟩;refine⟨_,Fa.fo w.heap.size 164 8 A.v l.length (vtL l)::_,rfl,q,λF=>⟨Yn t i o,F⟩,?_⟩;refine tR 1 [8] λE _ _=>tF λ_ m=>?_;have j:=m.size;refine tC 7 (λF C=>Uj (h.af (CgQ.af C))) λo=>?_;rintro _ _ ⟨B,rfl,u,s⟩;refine⟨_,Fa.fo w.heap.size 164 8 B.v l.length (vtL l)::_,rfl,s,λF=>⟨Yn u j o,F⟩,?_⟩;refine tR 4 [17,2,0,18,20] λG _ _=>tX λF C=>qE3 4 5 6 107 2 (c 2) #[iv b.r,iv b.n,S3.v A] (S3.v B) (iv 0) λ_=>dQ d f k F.2.1.1 F.1.1 (CgQ.af C)
  .refine tC1 1 (λF C=>IC (b:=b) (r:=false) (G' f)) λ_=>tR 10 [2,0] λH _ _=>tX λF C=>qE3 4 5 6 107 2 (c 2) #[iv 0,iv 0,sn] sn (iv 2) λ_=>Pr ((if_neg (λg=>g d)).trans (if_pos f)) (by decide) (CgQ.af C)
 .have hE:F4 ⟨p,l⟩=5:=if_neg d;refine tI (((F4 ⟨p,l⟩) != 0)) true (by rw[hE];decide) ?_;refine tR 8 [2,0] λI _ _=>tX λF C=>qE3 4 5 6 107 2 (c 2) #[iv 0,iv 0,sn] sn (iv (F4 ⟨p,l⟩)) λ_=>by rw[hE];exact Pr (if_pos d) (by decide) (CgQ.af C)
theorem CW(a:Acc)(b:Bal):(Ea a b).length<=a.vs.length:=by unfold Ea;split<;>simp
theorem QU(p:Bal)(x:Value)(l:List Vt)(b:Bal)(w:World)(h:Sv w x l)(d:NTab w) :
  Calls prog 127 #[.agg (acA p x),.agg (baA b)] w λe w'=>∃ y z,e=.returned (.tuple #[.agg (acA (Fq ⟨p,l⟩ b) y),z,.int .i64 (Cl ⟨p,l⟩ b)])/\Sv w' y (Ea ⟨p,l⟩ b)/\Sv w' z (Ea ⟨p,l⟩ b)/\Bw w w' :=
 (Dm p x l b w h d).mono λe w' ⟨y,z,c,f,g,a⟩=>⟨y,z,c,Sv.ni f (mg (CW ⟨p,l⟩ b) h.len),Sv.ni g (mg (CW ⟨p,l⟩ b) h.len),a⟩
section
variable{p:Bal}{l:List Vt}{w w':World}{v:Vt}
theorem gR{p:Bal}{l:List Vt}{v:Vt}(a:Ag ⟨p,l⟩)(b:Ah v):(Bo l v).length<=40:=by
 rw[<- cR 40 a.2.2 (λu c=>by have:=(a.2.1 u c).1.1;omega) (by have:=b.1;omega)];exact Yt _ a.2.2 40
theorem OJ{E:Int}(a:Ba ⟨p,l⟩ v=E)(b:E≠0)(e:Bw w w'):∃ y,(Ending.returned (.tuple #[.agg #[iv 0,iv 0,sn],iv E]):Ending)=.returned (.tuple #[.agg (acA (BI ⟨p,l⟩ v) y),.int .i64 (Ba ⟨p,l⟩ v)])/\w'.ownsRow w.heap.size 164 8 y (Br ⟨p,l⟩ v).length (vtL (Br ⟨p,l⟩ v))/\(Br ⟨p,l⟩ v).length<=40/\Bw w w':=by
 have c:BI ⟨p,l⟩ v=⟨0,0⟩:=if_neg (by rw[a];exact b);have d:Br ⟨p,l⟩ v=[]:=if_neg (by rw[a];exact b);rw[c,d,a];exact⟨sn,rfl,World.ownsRow_nil _ _ _ _,by simp,e⟩
theorem bE{y:S3}(c:Ag ⟨p,l⟩)(d:Ah v)(h:¬ v.b.lt p)(j:w'.ownsRow w.heap.size 164 8 y.v (Bo l v).length (vtL (Bo l v)))(i:Bw w w'):∃ y',(Ending.returned (.tuple #[.agg #[iv v.b.r,iv v.b.n,y.v],iv 0]):Ending)=.returned (.tuple #[.agg (acA (BI ⟨p,l⟩ v) y'),.int .i64 (Ba ⟨p,l⟩ v)])/\w'.ownsRow w.heap.size 164 8 y' (Br ⟨p,l⟩ v).length (vtL (Br ⟨p,l⟩ v))/\(Br ⟨p,l⟩ v).length<=40/\Bw w w':=by
 have a:Ba ⟨p,l⟩ v=0:=(if_neg (λg=>g c)).trans ((if_neg (λg=>g d)).trans (if_neg h));have e:BI ⟨p,l⟩ v=v.b:=if_pos a;have f:Br ⟨p,l⟩ v=Bo l v:=if_pos a;rw[e,f,a];exact⟨y.v,rfl,j,gR c d,i⟩
end
section
theorem Cv(p:Bal)(x:Value)(l:List Vt)(v:Vt)(w:World)(h:Sv w x l)(q:NTab w) :
  Calls prog 129 #[.agg (acA p x),.agg (vtA v)] w λe w'=>∃ y,e=.returned (.tuple #[.agg (acA (BI ⟨p,l⟩ v) y),.int .i64 (Ba ⟨p,l⟩ v)])/\w'.ownsRow w.heap.size 164 8 y (Br ⟨p,l⟩ v).length (vtL (Br ⟨p,l⟩ v))/\(Br ⟨p,l⟩ v).length<=40/\Bw w w':=by
 obtain⟨y,rfl⟩:=h.s3;show Calls prog 129 #[.agg #[iv p.r,iv p.n,S3.v y],.agg #[iv v.bn,iv v.b.r,iv v.b.n,iv v.w.k,iv v.w.c,iv v.w.s,iv v.w.n,iv v.w.v]] w _;refine tIn [] func129 trivial (tR 11 [0,0,0,0,1,0,0] λd _ _=>tC1 1 (λF C=>Jo p y.v l _ (h.af (CgQ.af C)) (q.af (CgQ.af C))) λ_=>tR 7 [] λH _ _=>?_);by_cases f:Ag ⟨p,l⟩
 .have hE:F4 ⟨p,l⟩=0:=if_pos f;refine tI (((F4 ⟨p,l⟩) != 0)) false (by rw[hE];decide) (tR 5 [1] λI _ _=>?_);by_cases i:Ah v
  .refine tC1 1 (λF C=>GZ (v:=v) (q.af (CgQ.af C)) (r:=true) (P' i)) λ_=>tR 11 [1,0] λJ _ _=>?_;by_cases m:v.b.lt p
   .refine tC1 4 (λF C=>E4 (a:=v.b) (b:=p) (r:=true) (P' m)) λ_=>tR 8 [2,0] λK _ _=>tX λF C=>qE2 4 5 107 2 (d 2) #[iv 0,iv 0,sn] (iv 7) λ_=>OJ ((if_neg (λg=>g f)).trans ((if_neg (λg=>g i)).trans (if_pos m))) (by decide) (CgQ.af C)
   .refine tC1 4 (λF C=>E4 (a:=v.b) (b:=p) (r:=false) (G' m)) λ_=>tR 10 [7,0,2,1,4,6,0,8,1] λz _ _=>tF λ_ E=>?_;have j:=E.size;refine tC 5 (λF C=>fh (v:=v) f.2.2 (h.af (CgQ.af C))) λG=>?_;rintro _ _ ⟨u,rfl,t,o⟩;refine⟨_,Fa.fo w.heap.size 164 8 u.v (Bo l v).length (vtL (Bo l v))::_,rfl,o,λF=>⟨Yn t j G,F⟩,?_⟩;refine tR 4 [12,15,2,0,16] λA _ _=>tX λF C=>qE2 4 5 107 2 (d 2) #[iv v.b.r,iv v.b.n,S3.v u] (iv 0) λ_=>bE f i m F.1.1 (CgQ.af C)
  .refine tC1 1 (λF C=>GZ (v:=v) (q.af (CgQ.af C)) (r:=false) (G' i)) λ_=>tR 9 [2,0] λB _ _=>tX λF C=>qE2 4 5 107 2 (d 2) #[iv 0,iv 0,sn] (iv 2) λ_=>OJ ((if_neg (λg=>g f)).trans (if_pos i)) (by decide) (CgQ.af C)
 .have hE:F4 ⟨p,l⟩=5:=if_neg f;refine tI (((F4 ⟨p,l⟩) != 0)) true (by rw[hE];decide) ?_;refine tR 7 [2,0] λD _ _=>tX λF C=>qE2 4 5 107 2 (d 2) #[iv 0,iv 0,sn] (iv (F4 ⟨p,l⟩)) λ_=>by rw[hE];exact OJ (if_pos f) (by decide) (CgQ.af C)
theorem RF(p:Bal)(x:Value)(l:List Vt)(v:Vt)(w:World)(h:Sv w x l)(c:NTab w) :
  Calls prog 129 #[.agg (acA p x),.agg (vtA v)] w λe w'=>∃ y,e=.returned (.tuple #[.agg (acA (BI ⟨p,l⟩ v) y),.int .i64 (Ba ⟨p,l⟩ v)])/\Sv w' y (Br ⟨p,l⟩ v)/\Bw w w' :=
 (Cv p x l v w h c).mono λe w' ⟨y,b,d,f,a⟩=>⟨y,b,Sv.ni d (by omega),a⟩
structure Base(w0:World)(g:Gh)(w:World):Prop where
 b:Bw w0 w
 z:∀ k,k<w0.heap.size->g.t k=.z
variable{B:Nat}{a:Acc}{g:Gh}{w w' w0:World}{y:Value}
theorem Base.ch{T:List Tg}{d:Gh}(h:Base w0 g w)(c:Cg B T g w d w')(f:Tg.z∉T:=by simp):Base w0 d w' :=
 have e:∀ k,k<w0.heap.size->k<w.heap.size:=λk a=>Z' a h.b.size
 ⟨⟨c.os.trans h.b.os,c.tape.trans h.b.tape,c.output.trans h.b.output,mg h.b.size c.size,λk a=>(c.zc f (e k a) (h.z k a)).trans (h.b.block k a)⟩,λk a=>(c.tag (e k a) (by rw[h.z k a];intro h;cases h)).trans (h.z k a)⟩
structure Tabs(w:World):Prop where
 t:AK w
 n:NTab w
 q:Dq w
theorem Base.tt(h:Base w0 g w)(t:Tabs w0):AK w:=t.t.af h.b
theorem Base.tn(h:Base w0 g w)(t:Tabs w0):NTab w:=t.n.af h.b
theorem Base.tq(h:Base w0 g w)(t:Tabs w0):Dq w:=t.q.af t.q.pos h.b
theorem Eo{l:List Vt}(h:w'.ownsRow B 164 8 y l.length (vtL l))(e:∀ b,B<=b->g.t b=.z)(f:l.length<=2199023255488):∃ y3:S3,y=y3.v/\y3.n=l.length/\FSv g w' y3 l:=by
 have d:=Sv.ni h f;rcases h.2 with⟨rfl,h0⟩|⟨b,cap,cur,rfl,hb,_⟩
 .exact⟨s30,rfl,h0.symm,d,λi=>absurd (Y' h0) i⟩
 .exact⟨⟨some ⟨b,0,none⟩,l.length,cap⟩,rfl,rfl,d,λ_ a c=>by simp only[X']at c;subst c;exact e b hb⟩
theorem dH{l:List Int}(h:w'.ownsRow B 5 1 y l.length (l.map (Value.int .u8)))(k:∀ b,B<=b->g.t b=.z)(m:l.length<=140737488351232)(j:∀ x∈l,0<=x/\x<256):∃ y3:S3,y=y3.v/\y3.n=l.length/\FSl g w' y3 l:=by
 rcases h.2 with⟨rfl,h0⟩|⟨b,cap,cur,rfl,hbb,hh,hc,_,hcs,ht⟩
 .have d:l=[]:=Y' h0;subst d;exact⟨s30,rfl,rfl,⟨⟨none,0,rfl,A' _,λ_=>rfl,.inl rfl⟩,by simp,by simp⟩,λd=>absurd rfl d⟩
 .refine⟨⟨some ⟨b,0,none⟩,l.length,cap⟩,rfl,rfl,⟨⟨_,_,rfl,hc,λh=>(by cases h),.inr ⟨b,0,rfl,rl hh,λi f=>?_⟩⟩,m,j⟩,λ_ a e=>by simp only[X']at e;subst e;exact k b hbb⟩;have c:(l.map (Value.int .u8))[i]?=some (.int .u8 (l.getD i 0)):=by rw[mX,H' f,mO,H' f];rfl
  rw[<- ht,nk]at c
  split at c
  .rw[cell_of_row _ _ _ _ _ _ hh,mU];simpa using c
  .cases c
theorem JO{d:List Int}{s:Int}{may:Prop}[Decidable may]{b:List Int}(h:CK d s may b=0):AR d s/\d.length+(b.length+5)<=100000/\may:=by
 unfold CK at h;by_cases c:G9 d s (b.length+5)≠0
 .rw[if_pos c]at h;exact absurd h c
 .rw[if_neg c]at h
  have e:may:=mV λe=>by rw[if_neg e]at h;cases h
  have a:G9 d s (b.length+5)=0:=by simpa using c
  unfold G9 at a;by_cases f:AR d s
  .rw[if_neg (λg=>g f)]at a
   refine⟨f,?_,e⟩;rcases mZ 100000 (d.length+(b.length+5))with h2|h2
   .rw[if_pos h2]at a;cases a
   .exact h2
  .rw[if_pos f]at a;cases a
theorem i8{b:Bal}(h:Cl a b=0):Fq a b=b/\Ea a b=a.vs:=⟨if_pos h,if_pos h⟩
theorem DM{v:Vt}(h:Ba a v=0):BI a v=v.b/\Br a v=Bo a.vs v:=⟨if_pos h,if_pos h⟩
end
end
section
open Go.ChangeShapes Go.WideShapes Go.ChangeAt Go.RowKit
theorem lW{W:World}(h:laidMetH prog Rows.topAgainRow.laid W):Tabs W/\LWTab W/\LBTab W:=by
 have u:laidMet prog Rows.topAgainRow.laid W:=h;obtain⟨B,⟨w,F,r,d,z,C,k,n,a,g,⟨x,G,s,e,p1,D,l,o,b,i,⟨y,H,t,f,A,E,m,p,c,j,v,_⟩,_⟩,_⟩,_⟩:=u;have q:=eH v;obtain rfl:=mT (Yp.symm.trans k);obtain rfl:=mT (S2.symm.trans n);obtain rfl:=mT (jC.symm.trans l);obtain rfl:=mT (Yq.symm.trans o);obtain rfl:=mT (fA.symm.trans m);obtain rfl:=mT (VB.symm.trans p);exact⟨⟨ZO b i,dy c j,ZB a g⟩,q.1,q.2⟩
def Jj(os:Os)(W:World):Prop :=
 W={ World.holding prog os ⟨#[],#[],[]⟩with heap:=(((((World.holding prog os ⟨#[],#[],[]⟩).heap.modify 4 (YG Wt)).modify 3 (YG (SI.map (Value.int .u32)).toArray)).modify 0 (YG (Ol.map (Value.int .i64)).toArray)).modify 2 (YC PX)).modify 1 (YC RM) }
theorem cG(a:Os):∃ W,Jj a W:=⟨_,rfl⟩
end
section
open Go.RowKit
section
def Nb(B:Nat)(y:S3)(l:List Int):Prop:=l≠[]->∀ a,y.a=some a->B<=a.block
variable{B sz:Nat}{e:TypeId}{g:Gh}{l:List Int}{w:World}{x:S3}{xs:List Value}
theorem J6{y:Value}(h:w.ownsRow B 5 1 y l.length (l.map (Value.int .u8)))(f:l.length<=140737488351232)(e:∀ x∈l,0<=x/\x<256):∃ z:S3,y=z.v/\Sl w z.v l/\Nb B z l:=by
 have d:=Sl.ni h f e;rcases h.2 with⟨rfl,h0⟩|⟨b,cap,cur,rfl,hbb,_⟩
 .exact⟨s30,rfl,d,λg=>absurd (Y' h0) g⟩
 .exact⟨⟨some ⟨b,0,none⟩,l.length,cap⟩,rfl,d,λ_ a c=>by simp only[X']at c;subst c;exact hbb⟩
theorem V9(g:Gh)(w:World):FSl g w s30 []:=⟨⟨⟨none,0,rfl,A' _,λ_=>rfl,.inl rfl⟩,by simp,by simp⟩,λh=>absurd rfl h⟩
theorem DE{y:S3}(h:Sl w y.v l)(n:Nb B y l)(G:∀ b,B<=b->g.t b=.z):FSl g w y l:=⟨h,λd a c=>G _ (n d a c)⟩
structure OwN(B:Nat)(w:World)(e:TypeId)(sz:Nat)(x:S3)(xs:List Value):Prop where
 len:xs.length=x.n*sz
 ex:(x.a=none/\x.n=0/\x.c=0)\/∃ b cur,B<=b/\x.a=some ⟨b,0,none⟩/\w.heap[b]?=some (.cells cur e (0,0))/\x.n<=x.c/\x.c<=maxLen/\cur.size=x.c*sz/\cur.toList.take (x.n*sz)=xs
theorem OwnS.own{c:World}{r:Nat}{p:Bool}(h:OwnS g w (.n 60 r) p e sz x xs)(C:Cg c.heap.size TQ gS c g w):OwN c.heap.size w e sz x xs:=by
 refine⟨h.len,h.ex.imp id λ⟨b,a,f,i,j,k,l,m,o,q⟩=>⟨b,a,?_,f,i,j,k,l,m⟩⟩;refine pH λd=>?_;have:=C.tag d (λ_=>d);rw[o]at this
 cases this
theorem OwN.rv(h:OwN B w e sz x xs):RdV w x sz xs:=by
 rcases h.ex with⟨h1,h2,h3⟩|⟨b,cur,h0,h1,h2,h3,h4,h5,h6⟩
 .exact⟨h.len,by omega,λ_=>h3,.inl h2⟩
 .refine⟨h.len,h3,λh=>(by rw[h1]at h;cases h),.inr ⟨b,0,h1,rl h2,λj u a=>?_⟩⟩;rw[mU,cell_of_row _ _ _ _ _ _ h2];rw[<- h6,nk]at a
  split at a
  .simpa using a
  .cases a
theorem OwN.fz(h:OwN B w e sz x xs)(G:∀ b,B<=b->g.t b=.z):FzV g w x sz xs :=
 ⟨h.rv,λ_ a c=>by
  rcases h.ex with⟨h1,h2,h3⟩|⟨b,cur,h0,h1,_⟩
  .rw[h1]at c;cases c
  .rw[h1]at c;cases c;exact G _ h0⟩
theorem RdV.fz(h:RdV w x sz xs):FzV gS w x sz xs:=⟨h,λ_ _ _=>rfl⟩
theorem RdV.spot(h:RdV w x sz xs){i:Nat}(d:i<x.n):∃ b off,x.a=some ⟨b,off,none⟩/\b<w.heap.size/\∀ j u,xs[sz*i+j]?=some u->w.cell? ⟨b,off+sz*i+j,none⟩=some u:=by
 rcases h.ex with h1|⟨b,off,h1,h2,h3⟩
 .omega
 .exact⟨b,off,h1,h2,λj u c=>by rw[nc];exact h3 _ u c⟩
theorem OwN.take{l:World}(h:OwN w.heap.size l e sz x xs)(b:Bw w l)(G:∀ b,w.heap.size<=b->g.t b=.z/\g.k b=0)(r:Nat):∃ g',(∀ B,Cg B [] g w g' l)/\(∀ b,l.heap.size<=b->g'.t b=.z/\g'.k b=0)/\OwnS g' l (.n 60 r) true e sz x xs/\∀ b,w.heap.size<=b->(∀ a,x.a=some a->b≠a.block)->g'.t b=.z:=by
 have m:=b.size;rcases h.ex with h1|⟨c,cur,h0,h1,h2,h3,h4,h5,h6⟩
 .exact⟨g,λ_=>Cg.ed b,λd f=>G d (mg m f),⟨h.len,.inl h1⟩,λd f _=>(G d f).1⟩
 .have hc:c<l.heap.size:=rl h2;have i:∀ d,d<w.heap.size->¬ d=c:=λd f e=>by omega
  refine⟨⟨λd=>if d=c then .n 60 r else g.t d,λd=>if d=c then xs.length else g.k d⟩,λ_=>⟨b.os,b.tape,b.output,m,λd f=>.inl (if_neg (i d f)),λd f=>?_,λd f _ _=>if_neg (i d f),λd f _ _=>b.block d f,λd f j _=>World.cell?_of_block (w:=w) (b.block d f)⟩,λd f=>?_,⟨h.len,.inr ⟨c,cur,h1,h2,h3,h4,h5,h6,if_pos rfl,if_pos rfl⟩⟩,λd f o=>(if_neg (o _ h1)).trans (G d f).1⟩
  .show g.k d<=(if d=c then _ else g.k d);rw[if_neg (i d f)];exact A' _
  .have hd2:¬ d=c:=by omega
   show(if d=c then _ else g.t d)=.z/\(if d=c then _ else g.k d)=0;rw[if_neg hd2,if_neg hd2];exact G d (mg m f)
end
section
variable{P:Program}{fn:Func}{R:Ending->World->Prop}{w0:World}{Φ:List Fa}{g:Gh}{w:World}
section
variable{s:Xs}
theorem tG(i:Nat)(m:List Bool)(r:Nat){f:FuncId}{j:Array Value}{K:Ending->World->Prop}(B:AllF g w Φ->Cg w0.heap.size TQ gS w0 g w->Calls P f j w K)(E:(∀ b,w.heap.size<=b->g.t b=.z)->∀ e w',K e w'->∃ v Ψ et sz x xs,e=.returned v/\Bw w w'/\OwN w.heap.size w' et sz x xs/\∀ g',(AllF g' w' Φ->OwnS g' w' (.n 60 r) true et sz x xs->(∀ b,w.heap.size<=b->(∀ a,x.a=some a->b≠a.block)->g'.t b=.z)->AllF g' w' Ψ)/\GT P fn R w0 Ψ (nxt s i v (AI m s.L)).s g' w')(H:∀ W,Df P s i W=some (.ok (.enter f j) W):=by intro _;kernel_rfl)(D:Kz s i=true:=by kernel_rfl)(d:(nxt s i undef (AI m s.L)).o.map Ob.l'=(nxt s i undef (AI m s.L)).o.map Ob.r':=by kernel_rfl):GT P fn R w0 Φ s g w:=by
 refine⟨λF C=>Af λl=>qG i [] m (B F C) (λe w' h=>?_) H D d (by simp)⟩;obtain⟨v,Ψ,et,sz,x,xs,p,q,u,k⟩:=E (λb A=>(l.new b A).1) e w' h;obtain⟨g',c,G,y,I⟩:=u.take q l.new r;exact⟨v,g',p,c _,G,(k g').2.ex ((k g').1 (F.qM (c w0.heap.size)) y I) (C.trans ((c _).nil TQ))⟩
theorem iA{P:Program}{W:World}(t f e:TypeId)(i:TypeInfo)(c:P.underlying t=some (.slice e))(b:P.info? e=some i)(y:S3)(d:y.n=0):(Builtin.append_ #[t,t] f #[s30.v,y.v]).run P W=.ok s30.v W:=by
 obtain⟨g,k,h⟩:=y;simp only at d;subst d;show(Builtin.append_ #[t,t] f #[.slice none 0 0,.slice g 0 h]).run P W=.ok (.slice none 0 0) W;cases g with
 | none=>simp[Builtin.append_,run_underlying c,sizeOf,typeInfo,b,Builtin.lenOf,run_firstCells_none]
 | some a =>
  have j:=run_firstCells_some (P:=P) W i.size 0 a 0 h [] (by simp) (by simp);simp[Builtin.append_,run_underlying c,sizeOf,typeInfo,b,Builtin.lenOf,run_firstCells_none,j]
theorem aH(i:Nat)(r:Nat)(y:S3)(news:List Value)(t M e:TypeId)(p a:Nat)(z:Value)(O:AllF g w Φ->RdV w y p news)(Ψ:List Fa)(B:AllF g w Φ->AllF g w Ψ)(I:Ψ.all (λf=>f.ro != some r)=true)(H:Tg.n 60 r∈TQ)(Q:∀ u∈news,u.oneCell'=true)(E:y.n<=maxLen)(h:y.n*a<=140737488355328)(G:∀ x' g' w',x'.n=y.n->GT P fn R w0 (Fa.ow r e p x' news::Ψ) (nxt s i (S3.v x') s.L).s g' w')(J:0<p:=by decide)(N:P.underlying t=some (.slice e):=by kernel_rfl)(d:(P.info? e).map (λi=>(i.zero,i.size,i.bytes))=some (some z,p,a):=by kernel_rfl)(K:Nat.beq z.cells.size p=true:=by kernel_rfl)(k:D5 s i=some (Builtin.append_ #[t,t] M #[s30.v,y.v]>>=λv=>pure (.value v)):=by kernel_rfl)(A:(nxt s i undef s.L).o.map Ob.l'=(nxt s i undef s.L).o.map Ob.r':=by kernel_rfl)(S:s.L.all (λy=>[Tg.n 60 r].all λt=>y.t.ne t)=true:=by kernel_rfl):GT P fn R w0 Φ s g w:=by
 refine tF λF C=>?_;have D:=O F;by_cases q:y.n=0
 .obtain⟨inf,hi⟩:∃ inf,P.info? e=some inf:=by cases hh:P.info? e with|none=>rw[hh]at d;cases d|some j=>exact⟨j,rfl⟩
  obtain rfl:news=[]:=Y' (by rw[D.len,q,pU]);refine tV i s30.v (λ_ _=>iA t M e inf N hi y q) ?_ k A;exact tCv (Fa.ow r e p s30 []::Ψ) (λF=>⟨OwnS.nil _ _ _ _ _ _,B F⟩) (G s30 g w q.symm)
 .obtain⟨b,off,ha,_,_⟩:=D.spot (i:=0) (by omega);obtain⟨V,m,c⟩:=y;simp only at ha q E h G k D;subst ha;refine Rv i r (x:=s30) (xs:=[]) t M e p a z ⟨b,off,none⟩ m c news (λ_=>OwnS.nil _ _ _ _ _ _) Ψ B I H D.len Q (λF _ j u T=>?_) (by show 0+m<=_;omega) (by show(0+m)*a<=_;rw[mU];exact h) (λx' g' w' U=>?_) (Nat.pos_of_ne_zero q) J N d K k A S
  .rcases(O F).ex with h2|⟨b2,off2,k1,k2,k3⟩
   .exact absurd h2 q
   .cases k1;have:(⟨b,off,none⟩:Addr).add j=⟨b,off+j,none⟩:=by unfold Addr.add;split<;>simp_all
    rw[this];exact k3 j u T
  .rw[nC];exact G x' g' w' (by rw[U];show 0+m=m;omega)
theorem tW(i:Nat)(v:Value){S:Sem Value}(c:AllF g w Φ->Kn w0.heap.size g w s.L->S.run P w=.ok v w)(b:GT P fn R w0 Φ (nxt s i v s.L).s g w)(d:D5 s i=some (S>>=λv=>pure (.value v)):=by kernel_rfl)(a:(nxt s i undef s.L).o.map Ob.l'=(nxt s i undef s.L).o.map Ob.r':=by kernel_rfl):GT P fn R w0 Φ s g w:=⟨λF C=>Af λK=>qV i v (c F K) (b.ex F C) d a⟩
end
end
end
end Go.Proofs.YtdjfdfpkkenjbacGreatDoor
