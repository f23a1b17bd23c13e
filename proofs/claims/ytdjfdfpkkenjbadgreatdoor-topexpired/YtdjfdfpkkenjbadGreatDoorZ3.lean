/- Part 3 of the walk. -/
import Derived.Laws.AppendOwn
import Derived.Great.BuildSlice
import Derived.Test.YtdjfdfpkkenjbadGreatDoorZ2
set_option maxRecDepth 100000
set_option maxHeartbeats 4000000
open Go.Proofs.Tryz
set_option linter.unusedVariables false
namespace Go.Proofs.YtdjfdfpkkenjbadGreatDoor
section
open Go.RowKit
section
variable{P:Program}{fn:Func}{R:Ending->World->Prop}{B:Nat}{T:List Tg}{g:Gh}{w:World}
section
variable{s:Xs}
theorem Iy(b:Nat)(o:Obj)(r i:Nat)(a:w.heap[b]?=some o)(c:g.t b=.n r i)(d:g.k b=0)(e:s.L.all (λy=>(Tg.n r i).ne y.t)=true)(h:GG P fn R B T ⟨s.K,s.f,BM s.L++[⟨b,o,.n r i,false⟩]⟩ g w):GG P fn R B T s g w :=
 Cp ⟨b,o,.n r i,false⟩ (λ_=>⟨a,c,λh=>(by cases h),λ_=>d⟩) (by show(true&&(false||_))=true;rw[pW,Bool.true_and];exact e) h
theorem cG(a:Nat)(v:Value)(h:Kn B g w s.L->Dd P s a w=some (.ok (.value v) w))(c:(nxt s a undef s.L).o.map Ob.l'=(nxt s a undef s.L).o.map Ob.r')(f:GG P fn R B T (nxt s a v s.L).s g w):GG P fn R B T s g w:=by
 refine Af λe=>?_;have b:=h e;unfold Dd at b;refine L5 a s.L c ?_ λ_ j i o d=>?_
 .cases hx:opN s a with
  | none=>rw[hx]at b;cases b
  | some x=>rfl
 .rw[d]at b
  exact⟨v,w,g,.inl (by simpa using b),e,f⟩
def tkN(s:Xs)(i':Nat)(v:Value)(ld:Bool):Rz:=match s.K with
 | .x ops (u+1) Ld e L0::K=>match ops[i']? with
  | some o=>⟨⟨.x ops u (Ld.setIfInBounds i' true) e L0::K,s.f.put o.dst v,s.L⟩,[.b (s.f.av ops o),.b (tkB ops Ld e i' ld&&o.dst.isSome&&(!ld||!Ld.getD e false)),.l (cond (Ld.getD e false) [] L0) (cond (Ld.getD e false) [] (BM (s.L.take L0.length)))]⟩
  | none=>⟨s,[.b false]⟩
 | _=>⟨s,[.b false]⟩
def UK(s:Xs):List Sh:=match s.K with|.x _ _ _ _ L0::_=>L0|_=>[]
theorem Qm(k:Nat)(v:Value)(n:Bool)(h:∀ W,(n=true->AO (UK s) W)->Dd P s k W=some (.ok (.value v) W))(C:(tkN s k undef n).o.map Ob.l'=(tkN s k undef n).o.map Ob.r')(O:GG P fn R B T (tkN s k v n).s g w):GG P fn R B T s g w:=by
 refine⟨λF=>?_⟩;obtain⟨K,f,L⟩:=s;have b:=Ob.all C;have j:=O.ex;unfold tkN at b j;unfold Dd opN UK at h;cases K with
 | nil=>exact absurd (b _ (M' ..)) (by simp[Ob.ok])
 | cons t K =>
  cases t with
  | x ops u Ld e L0 =>
   cases u with
   | zero=>exact absurd (b _ (M' ..)) (by simp[Ob.ok])
   | succ u =>
    simp only at b j h;cases ho:ops[k]? with
    | none=>rw[ho]at b;exact absurd (b _ (M' ..)) (by simp[Ob.ok])
    | some o =>
     simp only[ho,mY,X']at b j h;have H:=b _ (M' ..);have m:=b _ (I' _ (M' ..));have E:=b _ (I' _ (I' _ (M' ..)));simp only[Ob.ok,mE]at H m E;obtain⟨⟨m,p⟩,r⟩:=m;have D:Region.wanted o (yielded ops f.act.tmps)=true:=by rw[f.wanted];exact H
     have y:Sx [(e,AO L0)] Ld w:=WH (ops:=ops) F.rows E;have i:=j F;simp only[Fm.qX]at i;have G:∀ c a d v w,Kq P (bodyPost P fn R) K (.panic c) (a.put (some d) v) w->Kq P (bodyPost P fn R) K (.panic c) a w:=λc a d v w=>Kq.panic K c a (some d) v w;cases hdd:o.dst with
     | none=>rw[hdd]at p;cases p
     | some d =>
      rw[hdd]at i
      unfold tkB at m;simp only[mE]at m;obtain⟨ns,⟨⟨⟨⟨I,J⟩,M⟩,N⟩,q⟩⟩:=m;have l:∀ W,(n=true->AO L0 W)->got P ops f.act W k=some (some d,v,W):=λW z=>by
       unfold got;simp only[ho,D,if_true,f.eval,h W z,hdd]
      cases n with
      | false =>
       rw[cond_false]at q
       refine xB0 u [k] [(d,v)] (λW=>?_) ns ?_ rfl rfl G y i
       .simp only[Sp,av,mO,nD,l W (λh=>by cases h)]
       .simp only[M2,mO,nD,oB,ql,pX,mE];exact⟨⟨⟨⟨I,J⟩,M⟩,N⟩,q⟩
      | true =>
       rw[cond_true]at q
       have A:Ld.getD e false=false:=by simpa using r
       refine xC0 u k d (XY ops k) v (λW z=>l W (λ_=>z)) (y.1 A) ns ?_ rfl G y i;simp only[mO,nD,oB,ql,pX,mE]at q ⊢;exact⟨⟨⟨⟨I,J⟩,M⟩,N⟩,q⟩
  | _=>exact absurd (b _ (M' ..)) (by simp[Ob.ok])
def PU(s:Xs):Value:=match s.K with|.c (.cond c _ _)::_=>s.f.ev c|_=>undef
def Ll(s:Xs)(t:Bool):Xs:=match s.K with|.c (.cond _ x y)::K=>⟨.c (cond t x y)::K,s.f,s.L⟩|_=>s
theorem gIf(b t:Bool)(j:b=t)(a:PU s=.bool b)(h:GG P fn R B T (Ll s t) g w):GG P fn R B T s g w:=by
 subst j;refine⟨λi=>?_⟩;obtain⟨K,f,L⟩:=s;unfold PU at a;have d:=h.ex;unfold Ll at d;cases K with
 | nil=>cases a
 | cons t K =>
  cases t with
  | c x =>
   cases x with
   | cond c x y =>
    simp only at a d;have e:=d i;refine wp_cond (t:=b) (by rw[f.eval];exact a) ?_;cases b<;>exact e
   | _=>cases a
  | _=>cases a
theorem YI{p:Nat->Prop}:∀ k,p k->∃ m,p m/\∀ j,p j->m<=j:=by
 intro k;induction k using Nat.strongRecOn with
 | _ k ih =>
  intro b;by_cases h:∃ j,j<k/\p j
  .obtain⟨j,a,hp⟩:=h;exact ih j a hp
  .exact⟨k,b,λj a=>pE λc=>h ⟨j,c,a⟩⟩
theorem jL{c:Code}{Q:Exit->Act->World->Prop}(b:Nat->Act->World->Prop)(round:∀ k a w,b k a w->c.wp P (Exit.then (λa' w'=>∃ k',k'<k/\b k' a' w') Q) a w)(k:Nat)(a:Act)(w:World)(h:b k a w):(Code.loop c).wp P Q a w:=by
 classical
 have g:∀ a w,(∃ k,b k a w)->∃ m,b m a w/\∀ j,b j a w->m<=j:=λa w ⟨k,q⟩=>YI k q
 let μ:Act->World->Nat:=λa w=>if h:∃ k,b k a w then Classical.choose (g a w h)else 0
 refine wp_loop (λa w=>∃ k,b k a w) μ ⟨k,h⟩ λa w l=>?_;have o:μ a w=Classical.choose (g a w l):=dif_pos l;refine wp_mono (round _ a w (Classical.choose_spec (g a w l)).1) λe a' w' p=>?_;cases e with
 | normal =>
  obtain⟨k',n,f⟩:=p;refine⟨⟨k',f⟩,?_⟩;have d:∃ k,b k a' w':=⟨k',f⟩;have i:μ a' w'=Classical.choose (g a' w' d):=dif_pos d;show μ a' w'<μ a w;rw[o,i];exact pQ ((Classical.choose_spec (g a' w' d)).2 k' f) n
 | _=>exact p
theorem j6{K:List Kt}{body:Code}{n:Nat}(d:Nat->Gh->World->List (Nat × Value)->List Sh->Prop)(round:∀ k g w e z L,d k g w e L->∀ J:Act->World->Prop,(∀ k' g' w' e' z' L',k'<k->d k' g' w' e' L'->Kn B g' w' L'->J (⟨n,e',z'⟩:Fm).act w')->GG P fn R B T ⟨.c body::.j J::K,⟨n,e,z⟩,L⟩ g w){k:Nat}{e:List (Nat × Value)}{z:Nat->Value}{L:List Sh}(h:d k g w e L):GG P fn R B T ⟨.c (.loop body)::K,⟨n,e,z⟩,L⟩ g w:=by
 refine⟨λm=>?_⟩;refine jL (λk a w=>∃ g e z L,d k g w e L/\Kn B g w L/\a=(⟨n,e,z⟩:Fm).act) (λk a w f=>?_) k _ w ⟨g,e,z,L,h,m,rfl⟩;obtain⟨g,e,z,L,f,m,rfl⟩:=f;exact(round k g w e z L f (λr w'=>∃ k',k'<k/\∃ g e z L,d k' g w' e L/\Kn B g w' L/\r=(⟨n,e,z⟩:Fm).act) (λk' g' w' e' z' L' q i p=>⟨k',q,g',e',z',L',i,p,rfl⟩)).ex m
end
end
section
structure S3 where
 a:Option Addr
 n:Nat
 c:Nat
abbrev S3.v(x:S3):Value:=.slice x.a x.n x.c
def s30:S3:=⟨none,0,0⟩
def Jh(g:Gh)(w:World):Prop:=∀ b,w.heap.size<=b->g.t b=.z/\g.k b=0
structure OwnS(g:Gh)(w:World)(τ:Tg)(kp:Bool)(e:TypeId)(sz:Nat)(x:S3)(xs:List Value):Prop where
 len:xs.length=x.n*sz
 ex:(x.a=none/\x.n=0/\x.c=0)\/∃ b cur,x.a=some ⟨b,0,none⟩/\w.heap[b]?=some (.cells cur e (0,0))/\x.n<=x.c/\x.c<=maxLen/\cur.size=x.c*sz/\cur.toList.take (x.n*sz)=xs/\g.t b=τ/\g.k b=(if kp then xs.length else 0)
theorem OwnS.nil(g:Gh)(w:World)(τ:Tg)(a:Bool)(e:TypeId)(b:Nat):OwnS g w τ a e b s30 []:=⟨by simp[s30],.inl ⟨rfl,rfl,rfl⟩⟩
variable{e:TypeId}{g:Gh}{kp:Bool}{sz:Nat}{w:World}{x:S3}{xs:List Value}{τ:Tg}
theorem OwnS.ch{B:Nat}{T:List Tg}{f:Gh}{i:World}(h:OwnS g w τ kp e sz x xs)(c:Cg B T g w f i)(a:τ∉T:=by simp)(d:τ≠.l:=by simp):OwnS f i τ kp e sz x xs:=by
 refine⟨h.len,?_⟩;rcases h.ex with h1|⟨b,cur,h1,h2,h3,h4,h5,h6,h7,h8⟩
 .exact .inl h1
 .have hb:=rl h2;exact .inr ⟨b,cur,h1,(c.same b hb (by rw[h7];exact a) (by rw[h7];exact λh=>absurd h d)).trans h2,h3,h4,h5,h6,(c.tag hb (by rw[h7];exact λh=>absurd h d)).trans h7,by rw[c.rU b hb (by rw[h7];exact a) (by rw[h7];exact λh=>absurd h d)];exact h8⟩
theorem OwnS.cell(h:OwnS g w τ kp e sz x xs){j:Nat}{u:Value}(c:xs[j]?=some u):∃ b,x.a=some ⟨b,0,none⟩/\b<w.heap.size/\w.cell? ⟨b,j,none⟩=some u:=by
 have d:j<xs.length:=(V'.1 c).1;rcases h.ex with⟨h1,h2,h3⟩|⟨b,cur,h1,h2,h3,h4,h5,h6,h7,h8⟩
 .rw[h.len,h2]at d;omega
 .refine⟨b,h1,rl h2,?_⟩;rw[cell_of_row _ _ _ _ _ _ h2];rw[<- h6,ng]at c
  split at c
  .simpa using c
  .cases c
end
section
variable{P:Program}{B:Nat}{T:List Tg}{g:Gh}{w:World}
def OS(g:Gh)(w:World)(τ:Tg)(k:Nat):Gh:=⟨λb=>if b=w.heap.size then τ else g.t b,λb=>if b=w.heap.size then k else g.k b⟩
def j5(g:Gh)(b k:Nat):Gh:=⟨g.t,λc=>if c=b then k else g.k c⟩
theorem l9{τ:Tg}{I:Bool}{x:S3}{C:List Value}(t S e:TypeId)(J q:Nat)(z:Value)(Y:P.underlying t=some (.slice e))(f:(P.info? e).map (λi=>(i.zero,i.size,i.bytes))=some (some z,J,q))(a0:z.cells.size=J)(a2:0<J)
  (O:τ∈T)(H:OwnS g w τ I e J x C)(hg:Jh g w)(a:Addr)(m c:Nat)(news:List Value)(hm:0<m)(K:news.length=m*J)(r:∀ j u,news[j]?=some u->w.cell? (a.add j)=some u)(h1:∀ u∈news,u.oneCell'=true)
  (L:x.n+m<=maxLen)(y:(x.n+m)*q<=140737488355328) :
  ∃ x' w' g',(Builtin.append_ #[t,t] S #[x.v,.slice (some a) m c]).run P w=.ok (S3.v x') w'/\OwnS g' w' τ I e J x' (C++news)/\x'.n=x.n+m/\Cg B T g w g' w'/\Jh g' w':=by
 obtain⟨i,X,hz,hs,U⟩:∃ i,P.info? e=some i/\i.zero=some z/\i.size=J/\i.bytes=q:=by
  cases hh:P.info? e with
  | none=>rw[hh]at f;cases f
  | some i=>rw[hh]at f;simp only[mY,X',mZ]at f;exact⟨i,rfl,f.1,f.2.1,f.2.2⟩
 subst hs;subst U
 obtain⟨xa,h,Q⟩:=x;have A:(C++news).length=(h+m)*i.size:=by rw[H',H.len,K,po]
 have a1:h+m<=9223372036854775807:=by simp only[maxLen]at L;show h+m<=_;omega
 have grown:∀ o,o<h+m->∃ x' g',S3.v x'=.slice (some ⟨w.heap.size,0,none⟩) (h+m) (grownCap w (h+m) o e)/\OwnS g' (w.drew.alloc (.cells (C.toArray++news.toArray++Builtin.zeroCells z.cells (grownCap w (h+m) o e-(h+m))) e)) τ I e i.size x' (C++news)/\x'.n=h+m /\
   Cg B T g w g' (w.drew.alloc (.cells (C.toArray++news.toArray++Builtin.zeroCells z.cells (grownCap w (h+m) o e-(h+m))) e))/\Jh g' (w.drew.alloc (.cells (C.toArray++news.toArray++Builtin.zeroCells z.cells (grownCap w (h+m) o e-(h+m))) e)):=by
  intro o ho;have W:=grownCap_ge w (h+m) o e;have V:grownCap w (h+m) o e<=maxLen:=grownCap_le_maxLen w (h+m) o e L;refine⟨⟨some ⟨w.heap.size,0,none⟩,h+m,grownCap w (h+m) o e⟩,OS g w τ (if I then(C++news).length else 0),rfl,⟨A,.inr ⟨w.heap.size,_,rfl,heap_alloc_new w.drew _,W,V,?_,?_,if_pos rfl,if_pos rfl⟩⟩,rfl,⟨rfl,rfl,rfl,by simp,λb D=>.inl (if_neg (by omega)),λb D=>?_,λb D _ _=>if_neg (by omega),λb D _ _=>heap_alloc_old w.drew _ D,λb D j G=>World.cell?_of_block (w:=w) (heap_alloc_old w.drew _ D)⟩,λb D=>?_⟩
  .simp only[Array.size_append,oc,size_zeroCells,a0,H.len,K,<- po]
   congr 1
   omega
  .simp only[Array.toList_append,ml];rw[<- ml,<- A];exact pS
  .show _<=(if b=w.heap.size then _ else g.k b);rw[if_neg (by omega)];exact A' _
  .have E:w.heap.size+1<=b:=by simpa using D
   show(if b=w.heap.size then τ else g.t b)=.z/\(if b=w.heap.size then _ else g.k b)=0;rw[if_neg (by omega),if_neg (by omega)];exact hg b (by omega)
 rcases H.ex with⟨h2,h3,h4⟩|⟨b,cur,h2,h3,h4,h5,h6,h7,h8,h9⟩
 .simp only at h2 h3 h4;subst h2 h3 h4;have Z:C=[]:=Y' (by simpa using H.len);subst Z;have N:=run_append_nil (P:=P) w t S e i z Y X hz a m c news K r (by omega) (by omega) (by have D:=y;simp only[mR]at D;omega);obtain⟨x',g',R,p⟩:=grown 0 (by omega);simp only[mR,nz,Array.empty_append]at R p ⊢;exact⟨x',_,g',by rw[R];exact N,p⟩
 .simp only at h2 h4 h5 h6 h7;subst h2;by_cases s:h+m<=Q
  .have hfit:h*i.size+news.length<=cur.size:=by rw[K,h6,<- po];exact n8 _ s
   have N:=run_append_room (P:=P) w t S e i Y X b h Q cur h3 a m c news K r h1 s hfit;refine⟨⟨some ⟨b,0,none⟩,h+m,Q⟩,_,j5 g b (if I then(C++news).length else 0),N,⟨A,.inr ⟨b,_,rfl,setRow_heap w b cur _ e _ h3,s,h5,?_,?_,h8,if_pos rfl⟩⟩,rfl,⟨rfl,rfl,rfl,by simp,λ_ _=>.inl rfl,λd M=>?_,λd M F _=>if_neg (λe=>F (by rw[e,h8];exact O)),λd M F _=>setRow_other w b d _ (λe=>F (by rw[e,h8];exact O)),λd M j G=>?_⟩,λd M=>?_⟩
   .simp only[oc,H',j',mm,nC];omega
   .rw[h7,<- A];exact pS
   .show g.k d<=(if d=b then _ else g.k d);split
    .rename_i he;rw[he,h9];cases I<;>simp
    .exact A' _
   .by_cases he:d=b
    .subst he;rw[h9]at G
     cases I with
     | false=>simp at G
     | true =>
      simp only[if_true]at G;rw[cell_of_row _ _ _ _ _ _ (setRow_heap w d cur _ e _ h3),cell_of_row _ _ _ _ _ _ h3];simp only[m5,h7];rw[ml,mr G,<- h7,ng,if_pos (by have:=H.len;simp only at this;omega)];simp
    .exact World.cell?_of_block (w:=w) (setRow_other w b d _ he)
   .have hd':w.heap.size<=d:=by simpa using M
    show g.t d=.z/\(if d=b then _ else g.k d)=0;have:=rl h3;rw[if_neg (by omega)];exact hg d hd'
  .have holds:∀ j u,C[j]?=some u->w.cell? ((⟨b,0,none⟩:Addr).add j)=some u:=λj u G=>by
    obtain⟨b',E,_,hc⟩:=H.cell G;simp only[X',Addr.mk.injEq,and_true]at E;subst E;have:(⟨b,0,none⟩:Addr).add j=⟨b,j,none⟩:=by unfold Addr.add;split<;>simp_all
    rw[this];exact hc
   have N:=run_append_grow (P:=P) w t S e i z Y X hz ⟨b,0,none⟩ h Q C H.len holds a m c news K r (by omega) (by omega) (growslice_fits (by omega) y);obtain⟨x',g',R,p⟩:=grown Q (by omega);exact⟨x',_,g',by rw[R];exact N,p⟩
end
section
variable{P:Program}{fn:Func}{R:Ending->World->Prop}{B:Nat}{T:List Tg}{g:Gh}{w:World}
section
variable{L:List Sh}{S:Sem Next}{i':Nat}{s:Xs}
theorem Kn.at(h:Kn B g w L)(k:Nat){x:Sh}(a:L[k]?=some x):w.heap[x.g]?=some x.o:=(h.row x (mA a)).1
theorem Kn.sT(h:Kn B g w L)(k b:Nat)(a:Array Value)(e:TypeId)(t:Tg)(v:Bool)(c:L[k]?=some ⟨b,.cells a e,t,v⟩):w.heap[b]?=some (.cells a e):=h.at k c
theorem Kn.rk(h:Kn B g w L)(k b:Nat)(o:Obj)(r i:Nat)(c:L[k]?=some ⟨b,o,.n r i,false⟩):w.heap[b]?=some o/\g.t b=.n r i/\g.k b=0 :=
 have a:=h.row _ (mA c)
 ⟨a.1,a.2.1,a.2.2.2 (by simp)⟩
theorem Kn.rj(h:Kn B g w L)(k b:Nat)(o:Obj)(v:Bool)(c:L[k]?=some ⟨b,o,.z,v⟩):w.heap[b]?=some o/\g.t b=.z :=
 have a:=h.row _ (mA c)
 ⟨a.1,a.2.1⟩
theorem Dv(h:Kn B g w L)(k b:Nat)(news:List Value)(e:TypeId)(t:Tg)(v:Bool)(d:L[k]?=some ⟨b,.cells news.toArray e,t,v⟩):∀ j u,news[j]?=some u->w.cell? ((⟨b,0,none⟩:Addr).add j)=some u:=by
 intro j u c;have a:=h.at k d;have:(⟨b,0,none⟩:Addr).add j=⟨b,j,none⟩:=by unfold Addr.add;split<;>simp_all
 rw[this,cell_of_row _ _ _ _ _ _ a];simpa using c
def Dx(s:Xs)(i':Nat):Option (Sem Next):=(opN s i').map λx=>execOp s.f.ev x.2.2
theorem DM(h:Dx s i'=some S){a:Array Oper}{i:Nat}{o:Oper}(b:opN s i'=some (a,i,o)):execOp s.f.ev o=S:=by
 unfold Dx at h;rw[b]at h
 simpa using h
theorem Cn(h:Dx s i'=some S):(opN s i').isSome=true:=by
 unfold Dx at h;cases hx:opN s i' with
 | none=>rw[hx]at h;cases h
 | some x=>rfl
theorem K4(q:Nat){τ:Tg}{K:Bool}{x:S3}{N:List Value}(t M e:TypeId)(p b:Nat)(z:Value)(a:Addr)(m c:Nat)(news:List Value)(Y:OwnS g w τ K e p x N)(f:Dx s q=some (Builtin.append_ #[t,t] M #[x.v,.slice (some a) m c]>>=λv=>pure (.value v)))(D:(nxt s q undef s.L).o.map Ob.l'=(nxt s q undef s.L).o.map Ob.r')(C:s.L.all (λy=>[τ].all λt=>y.t.ne t)=true)(G:P.underlying t=some (.slice e))(h:(P.info? e).map (λi=>(i.zero,i.size,i.bytes))=some (some z,p,b))(H:Nat.beq z.cells.size p=true)(F:0<p)(W:0<m)(V:news.length=m*p)(O:∀ u∈news,u.oneCell'=true)(k:Kn B g w s.L->∀ j u,news[j]?=some u->w.cell? (a.add j)=some u)(r:x.n+m<=maxLen)(d:(x.n+m)*b<=140737488355328)(U:∀ x' g' w',OwnS g' w' τ K e p x' (N++news)->x'.n=x.n+m->(∀ B T,τ∈T->Cg B T g w g' w')->Jh g' w'->GG P fn R B T (nxt s q (S3.v x') s.L).s g' w'):GG P fn R B T s g w:=by
 refine L5 q s.L D (Cn f) λA Z i o E=>?_;obtain⟨x',w',g',X,Q,S,I,J⟩:=l9 (P:=P) (B:=w.heap.size) (T:=[τ]) t M e p b z G h (mF H) F (D'.2 rfl) Y A.new a m c news W V (k A) O r d;refine⟨x'.v,w',g',.inl ?_,A.ch I J C,U x' g' w' Q S (λB T C=>(I.ret (B:=B)).mono λt G=>by rw[D'.1 G];exact C) J⟩;rw[DM f E,Sem.run_bind,X,Result.andThen_ok];rfl
end
end
end
section
section
structure Bal where
 r:Int
 n:Int
theorem Bal.eq_iff(a b:Bal):(a.r=b.r/\a.n=b.n)↔a=b:=by
 cases a;cases b;simp
instance:DecidableEq Bal:=λa b=>decidable_of_iff _ (Bal.eq_iff a b)
structure Cmd where
 k:Int
 c:Int
 s:Int
 n:Int
 v:Int
theorem Cmd.eq_iff(a b:Cmd):(a.k=b.k/\a.c=b.c/\a.s=b.s/\a.n=b.n/\a.v=b.v)↔a=b:=by
 cases a;cases b;simp
instance:DecidableEq Cmd:=λa b=>decidable_of_iff _ (Cmd.eq_iff a b)
structure Vt where
 bt:Int
 b:Bal
 w:Cmd
theorem Vt.eq_iff(a b:Vt):(a.bt=b.bt/\a.b=b.b/\a.w=b.w)↔a=b:=by
 cases a;cases b;simp
instance:DecidableEq Vt:=λa b=>decidable_of_iff _ (Vt.eq_iff a b)
instance:Inhabited Vt:=⟨⟨0,⟨0,0⟩,⟨0,0,0,0,0⟩⟩⟩
structure Acc where
 p:Bal
 vs:List Vt
def Bal.lt(a b:Bal):Prop:=a.r<b.r\/(a.r=b.r/\a.n<b.n)
instance (a b:Bal):Decidable (a.lt b):=by unfold Bal.lt;exact inferInstance
def Bal.key(a:Bal):Int:=5*a.r+a.n
def Ab(a:Bal):Prop:=(1<=a.r/\a.r<=65536)/\0<=a.n/\a.n<=4
instance (a:Bal):Decidable (Ab a):=by unfold Ab;exact inferInstance
def Cmd.e(c:Cmd):Int:=Bh c.k c.c c.s c.n c.v
def Ah(v:Vt):Prop:=(0<=v.bt/\v.bt<=39)/\Ab v.b/\v.w.e=0
instance (v:Vt):Decidable (Ah v):=by unfold Ah;exact inferInstance
def Ao(a:Bal):Prop:=Ab a\/(a.r=0/\a.n=0)
instance (a:Bal):Decidable (Ao a):=by unfold Ao;exact inferInstance
def BL:List Vt->Prop
 | []=>True
 | u::us=>(∀ v∈us,u.bt<v.bt)/\BL us
def UH:(l:List Vt)->Decidable (BL l)
 | []=>isTrue trivial
 | u::us=>@instDecidableAnd _ _ inferInstance (UH us)
instance (l:List Vt):Decidable (BL l):=UH l
def Ag(a:Acc):Prop:=Ao a.p/\(∀ v∈a.vs,Ah v/\¬ a.p.lt v.b)/\BL a.vs
instance (a:Acc):Decidable (Ag a):=by unfold Ag;exact inferInstance
variable{a b:Bal}{l:List Vt}{v:Vt}
theorem EX(c:Ao a)(d:Ao b):a.lt b↔a.key<b.key:=by
 unfold Ao Ab at c d;unfold Bal.lt Bal.key;omega
theorem DJ(c:Ao a)(d:Ao b)(h:a.key=b.key):a=b:=by
 unfold Ao Ab at c d;unfold Bal.key at h;exact(Bal.eq_iff a b).1 (by omega)
theorem Ab.pr(h:Ab a):Ao a:=.inl h
theorem Ab.pos(h:Ab a):5<=a.key:=by unfold Ab at h;unfold Bal.key;omega
def Fv(a:Acc):Int:=if Ag a then 0 else 5
def Cj(a:Acc)(b:Bal):Int:=if ¬ Ag a then 5 else if ¬ Ab b then 2 else if b.lt a.p then 7 else 0
def Ba(a:Acc)(v:Vt):Int:=if ¬ Ag a then 5 else if ¬ Ah v then 2 else if v.b.lt a.p then 7 else 0
def Bo:List Vt->Vt->List Vt
 | [],v=>[v]
 | u::us,v=>if u.bt<v.bt then u::Bo us v else if u.bt=v.bt then v::us else v::u::us
theorem BB{u:Vt}(h:BL l):u∈Bo l v↔u=v\/(u∈l/\u.bt≠v.bt):=by
 induction l with
 | nil=>simp[Bo]
 | cons x xs b =>
  obtain⟨c,a⟩:=h;have b:=b a;rw[Bo];split
  .rename_i h1
   rw[mn,b];constructor
   .rintro(rfl|rfl|⟨h2,h3⟩)
    .exact .inr ⟨M',by omega⟩
    .exact .inl rfl
    .exact .inr ⟨I' _ h2,h3⟩
   .rintro(rfl|⟨h2,h3⟩)
    .exact .inr (.inl rfl)
    .rcases mn.1 h2 with rfl|h2
     .exact .inl rfl
     .exact .inr (.inr ⟨h2,h3⟩)
  .split
   .rename_i h1 h2
    rw[mn];constructor
    .rintro(rfl|h3)
     .exact .inl rfl
     .have:=c u h3;exact .inr ⟨I' _ h3,by omega⟩
    .rintro(rfl|⟨h3,h4⟩)
     .exact .inl rfl
     .rcases mn.1 h3 with rfl|h3
      .exact absurd h2 h4
      .exact .inr h3
   .rename_i h1 h2
    rw[mn];constructor
    .rintro(rfl|h3)
     .exact .inl rfl
     .rcases mn.1 h3 with rfl|h4
      .exact .inr ⟨h3,h2⟩
      .have:=c u h4;exact .inr ⟨h3,by omega⟩
    .rintro(rfl|⟨h3,h4⟩)
     .exact .inl rfl
     .exact .inr h3
theorem Ju(v:Vt)(h:BL l):BL (Bo l v):=by
 induction l with
 | nil=>exact⟨λu b=>(P' b).elim,trivial⟩
 | cons x xs ih =>
  obtain⟨c,a⟩:=h;rw[Bo];split
  .rename_i h1
   refine⟨λu b=>?_,ih a⟩;rcases(BB a).1 b with rfl|⟨h2,_⟩
   .exact h1
   .exact c u h2
  .split
   .rename_i h1 h2
    exact⟨λu b=>by have:=c u b;omega,a⟩
   .rename_i h1 h2
    refine⟨λu b=>?_,c,a⟩;rcases mn.1 b with rfl|h3
    .omega
    .have:=c u h3;omega
def BQ:List Vt->Option Vt->Option Vt
 | [],o=>o
 | v::l,none=>BQ l (some v)
 | v::l,some u=>if u.b.lt v.b then BQ l (some v)else BQ l (some u)
theorem R8(l:List Vt)(u:Vt)(k:∀ v∈l,Ao v.b)(f:Ao u.b):∃ x,BQ l (some u)=some x/\(x=u\/x∈l)/\u.b.key<=x.b.key/\∀ v∈l,v.b.key<=x.b.key:=by
 induction l generalizing u with
 | nil=>exact⟨u,rfl,.inl rfl,mc _,λ_ h=>by cases h⟩
 | cons v l ih =>
  have i:=k v M';have j:∀ x∈l,Ao x.b:=λx hx=>k x (I' _ hx);rw[BQ];split
  .rename_i h1
   have a:=(EX f i).1 h1;obtain⟨x,e,hx,c,d⟩:=ih v j i;refine⟨x,e,?_,by omega,?_⟩
   .rcases hx with rfl|hx
    .exact .inr M'
    .exact .inr (I' _ hx)
   .intro y hy;rcases mn.1 hy with rfl|hy
    .exact c
    .exact d y hy
  .rename_i h1
   have a:¬ u.b.key<v.b.key:=λg=>h1 ((EX f i).2 g);obtain⟨x,e,hx,c,d⟩:=ih u j f;refine⟨x,e,?_,c,?_⟩
   .rcases hx with rfl|hx
    .exact .inl rfl
    .exact .inr (I' _ hx)
   .intro y hy;rcases mn.1 hy with rfl|hy
    .omega
    .exact d y hy
theorem La(l:List Vt)(a:∀ v∈l,Ao v.b):(l=[]/\BQ l none=none)\/∃ x,BQ l none=some x/\x∈l/\∀ v∈l,v.b.key<=x.b.key:=by
 cases l with
 | nil=>exact .inl ⟨rfl,rfl⟩
 | cons v l =>
  right;obtain⟨x,e,hx,c,d⟩:=R8 l v (λx hx=>a x (I' _ hx)) (a v M');refine⟨x,e,?_,?_⟩
  .rcases hx with rfl|hx
   .exact M'
   .exact I' _ hx
  .intro y hy;rcases mn.1 hy with rfl|hy
   .exact c
   .exact d y hy
def Ae(l:List Vt)(s:Int):List Vt:=l.filter λv=>decide (v.bt=s)
theorem AK{s:Int}:v∈Ae l s↔v∈l/\v.bt=s:=by simp[Ae]
def BW(ls:List (List Vt))(s:Int):Int:=if ¬ (0<=s/\s<=39)then 2 else if ∀ l∈ls,∀ v∈l,Ah v then 0 else 5
def Ed(ls:List (List Vt))(s:Int):Option Vt:=BQ (Ae ls.flatten s) none
def BK(l:List Vt)(v:Vt):Nat:=l.countP λu=>decide (u=v)
def He(l:List Vt)(m:Nat):Option Vt:=l.find? λv=>decide (m<2*BK l v)
end
end
section
open Go.RowKit
section
def vtC(v:Vt):List Value:=[.int .i64 v.bt,.int .i64 v.b.r,.int .i64 v.b.n,.int .i64 v.w.k,.int .i64 v.w.c,.int .i64 v.w.s,.int .i64 v.w.n,.int .i64 v.w.v]
def vtA(v:Vt):Array Value:=(vtC v).toArray
theorem CA(v:Vt):(vtC v).length=8:=rfl
theorem eO(v:Vt):∀ u∈vtC v,u.oneCell'=true:=by
 intro u a;simp only[vtC,mn,P',or_false]at a;rcases a with rfl|rfl|rfl|rfl|rfl|rfl|rfl|rfl<;>rfl
def vtL(l:List Vt):List Value:=l.flatMap vtC
theorem MH(v:Vt)(l:List Vt):vtL (v::l)=vtC v++vtL l:=rfl
theorem TH(l m:List Vt):vtL (l++m)=vtL l++vtL m:=by simp[vtL]
theorem Dc(l:List Vt):(vtL l).length=l.length*8:=by
 induction l with
 | nil=>rfl
 | cons v l ih=>rw[MH,H',ih,CA,mI];omega
theorem UZ(l:List Vt):∀ u∈vtL l,u.oneCell'=true:=by
 intro u a;obtain⟨v,_,b⟩:=oQ.1 a;exact eO v u b
theorem eQ(l:List Vt)(i:Nat)(v:Vt)(h:l[i]?=some v)(j:Nat)(u:Value)(a:(vtC v)[j]?=some u):(vtL l)[8*i+j]?=some u:=by
 induction l generalizing i with
 | nil=>simp at h
 | cons x l ih =>
  have b:j<8:=by have:=(V'.1 a).1;rwa [CA]at this
  rw[MH];cases i with
  | zero =>
   simp at h;subst h;rw[mr (by rw[CA];omega)];simpa using a
  | succ i =>
   rw[mw (by rw[CA];omega),CA,show 8*(i+1)+j-8=8*i+j by omega];exact ih i (by simpa using h)
theorem aY(l:List Vt)(m:Nat)(u:Value)(h:(vtL l)[m]?=some u):∃ v,l[m/8]?=some v/\(vtC v)[m%8]?=some u:=by
 induction l generalizing m with
 | nil=>simp[vtL]at h
 | cons x l ih =>
  rw[MH]at h
  rcases mX m 8 with hm|hm
  .rw[mr (by rw[CA];omega)]at h
   exact⟨x,by rw[Nat.div_eq_of_lt hm];rfl,by rwa [pD hm]⟩
  .rw[mw (by rw[CA];omega),CA]at h
   obtain⟨v,a,b⟩:=ih (m-8) h;refine⟨v,?_,?_⟩
   .rw[show m/8=(m-8)/8+1 by omega];simpa using a
   .rw[show m%8=(m-8)%8 by omega];exact b
structure Sv(w:World)(x:Value)(l:List Vt):Prop where
 ex:∃ a cap,x=.slice a l.length cap/\l.length<=cap/\(a=none->cap=0)/\(l=[]\/∃ b off,a=some ⟨b,off,none⟩/\b<w.heap.size/\∀ i v,l[i]?=some v->w.rangeAt b (off+8*i) (vtC v))
 len:l.length<=2199023255488
variable{B base e n:Nat}{P:Program}{Q:Exit->Act->World->Prop}{a:Act}{l:List Vt}{ops:Array Oper}{w w':World}{x:Value}
theorem Sv.af(h:Sv w x l)(e:Bw w w'):Sv w' x l:=by
 obtain⟨⟨a,c,rfl,g,n,d⟩,f⟩:=h;refine⟨⟨a,c,rfl,g,n,?_⟩,f⟩;rcases d with d|⟨b,off,ha,hbs,hcell⟩
 .exact .inl d
 .exact .inr ⟨b,off,ha,Z' hbs e.size,λi v k j u m=>(e.cell (p:=⟨b,off+8*i+j,none⟩) hbs).trans (hcell i v k j u m)⟩
theorem Sv.nil(w:World):Sv w (.slice none 0 0) []:=⟨⟨none,0,rfl,by simp,by simp,.inl rfl⟩,by simp⟩
theorem Sv.shape(h:Sv w x l):∃ a cap,x=.slice a l.length cap:=by
 obtain⟨⟨a,cap,e,_⟩,_⟩:=h;exact⟨a,cap,e⟩
theorem Sv.spot{a:Option Addr}{c:Nat}(h:Sv w (.slice a n c) l)(i:Nat)(v:Vt)(f:l[i]?=some v):∃ b off,a=some ⟨b,off,none⟩/\b<w.heap.size/\w.rangeAt b (off+8*i) (vtC v):=by
 obtain⟨⟨j,d,e,k,m,g⟩,_⟩:=h;simp only[Value.slice.injEq]at e;obtain⟨rfl,rfl,rfl⟩:=e;rcases g with rfl|⟨b,off,rfl,hb,hcell⟩
 .simp at f
 .exact⟨b,off,rfl,hb,hcell i v f⟩
theorem Sv.pd(h:w.ownsRow base e 8 x l.length (vtL l))(f:l.length<=2199023255488):Sv w x l:=by
 refine⟨?_,f⟩;rcases h.2 with⟨rfl,h0⟩|⟨g,cap,cur,rfl,_,hg,hn,_,hcs,ht⟩
 .exact⟨none,0,by rw[h0],by omega,λ_=>rfl,.inl (Y' h0)⟩
 .refine⟨_,cap,rfl,hn,by simp,.inr ⟨g,0,rfl,(U'.1 hg).1,λi v c j u d=>?_⟩⟩;have b:=h.cells (g:=g) rfl (8*i+j) u (eQ l i v c j u d);have a:(⟨g,0,none⟩:Addr).add (8*i+j)=⟨g,8*i+j,none⟩:=by unfold Addr.add;split<;>simp_all
  rw[a]at b
  rw[mR];exact b
theorem Nn(w:World)(c t s e:Nat)(z:Value)(C:P.underlying t=some (.slice e))(h:(P.info? e).map (λi=>(i.zero,i.size,i.bytes))=some (some z,8,64))(r:z.cells.size=8)(x:Value)(l:List Vt)(d:w.ownsRow c e 8 x l.length (vtL l))(u:Value)(m:List Vt)(M:Sv w u m)(B:l.length+m.length<=2199023255552)(g:c<=w.heap.size) :
  ∃ v' w',(Builtin.append_ #[t,t] s #[x,u]).run P w=.ok v' w'/\w'.ownsRow c e 8 v' (l++m).length (vtL (l++m))/\w.grownBy w' x.ownBlock:=by
 obtain⟨i,y,N,q,o⟩:=info_parts h;obtain⟨⟨a,n,rfl,O,J,D⟩,_⟩:=M;cases a with
 | none =>
  have p:=J rfl;subst p;have I:m=[]:=Y' (by omega);subst I;refine⟨x,w,?_,by simpa using d,⟨rfl,rfl,rfl,A' _,λ_ _ _=>rfl⟩⟩;exact run_append_owned_none (P:=P) (w:=w) c t s e i 8 C y x l.length _ d
 | some ad =>
  have f:∀ j u,(vtL m)[j]?=some u->w.cell? (ad.add j)=some u:=by
   intro j u A;rcases D with rfl|⟨b,off,hab,_,hcell⟩
   .simp[vtL]at A
   .obtain rfl:ad=⟨b,off,none⟩:=by simpa using hab
    obtain⟨v,E,F⟩:=aY m j u A;have k:(⟨b,off,none⟩:Addr).add j=⟨b,off+j,none⟩:=by unfold Addr.add;split<;>simp_all
    rw[k];have G:=hcell (j/8) v E (j%8) u F
    rwa [show off+8*(j/8)+j%8=off+j by omega]at G
  obtain⟨v',w',L,K,H,_⟩:=run_append_own (P:=P) w c t s e i z 8 64 C y N q o r (by decide) x l.length _ d ad m.length n (vtL m) (Dc m) f (UZ m)
   (by unfold maxLen;omega) (by omega) g
  exact⟨v',w',L,by rw[TH,H'];exact K,H⟩
theorem B3(w:World){n:Array Oper}{c:List Oper}{o:Oper}{a:Act}{Q:Exit->Act->World->Prop}(p:o.guard=none)(s x:Operand)(t:TypeId)(y:o.op=.call { callee:=.builtin .append,args:=#[s,x],argTypes:=#[t,t] })(b e:Nat)(z:Value)(B:P.underlying t=some (.slice e))(f:(P.info? e).map (λi=>(i.zero,i.size,i.bytes))=some (some z,8,64))(q:z.cells.size=8)(v u:Value)(A:a.eval s=v)(D:a.eval x=u)(l m:List Vt)(j:w.ownsRow b e 8 v l.length (vtL l))(C:Sv w u m)(g:l.length+m.length<=2199023255552)(d:b<=w.heap.size)(h:∀ v' w',w'.ownsRow b e 8 v' (l++m).length (vtL (l++m))->w.grownBy w' v.ownBlock->wpList P n Q c (a.put o.dst v') w'):wpList P n Q (o::c) a w:=by
 refine wpList_plain p λK r=>?_;obtain⟨v',w',k,E,F⟩:=Nn (P:=P) w b t o.type e z B f q v l j u m C g d;unfold Oper.wp execOp;simp only[y,resolve,invoke,builtin,Sem.run_bind,Sem.run_pure,Result.andThen_ok,oP,mO,nD,A,D,k];exact r _ _ (h v' w' E F)
theorem Sv.one(w:World)(v:Vt)(e:TypeId){g:Nat}(b:g=w.heap.size):Sv (w.alloc (.cells (vtA v) e)) (.slice (some ⟨g,0,none⟩) 1 1) [v]:=by
 subst b;refine⟨⟨_,1,rfl,A' _,by simp,.inr ⟨w.heap.size,0,rfl,by simp,λi u a j x c=>?_⟩⟩,by simp⟩;cases i with
 | zero =>
  simp at a;subst a;rw[cell_of_row _ _ (0+8*0+j) _ _ _ (heap_alloc_new w (.cells (vtA v) e))];simpa[vtA]using c
 | succ i=>simp at a
def zVt:Value:=.agg zV8
theorem EW:(prog.info? 177).map (λi=>(i.zero,i.size,i.bytes))=some (some zVt,8,64):=by kernel_rfl
theorem ZQ(v:Vt):(prog.info? 177).map (·.size)=some (vtC v).length:=by show _=some 8;kernel_rfl
theorem RX:prog.elem 112=177:=by kernel_rfl
theorem Tx(w:World):(Go.sizeOf 177).run prog w=.ok 8 w:=by
 obtain⟨i,b,_,a,_⟩:=info_parts EW;simp[sizeOf,typeInfo,b,a]
theorem J9(b o n c:Nat)(i:Nat)(a:i<n)(w:World):(Instr.indexAt 112 (.slice (some ⟨b,o,none⟩) n c) (.int .i64 (i:Int))).run prog w=.ok (.pointer (some ⟨b,o+8*i,none⟩)) w:=by
 rw[run_indexAt_slice (P:=prog) w 112 _ n c .i64 _ underlying112,if_pos ⟨by omega,by omega⟩,RX,Tx];simp[Result.andThen,Addr.add_mid,Nat.mul_comm]
theorem CY{l:List Oper}(h:wpList P ops Q l a w):wpList P ops Q l a w:=h
theorem FS(l:List Vt)(k:Nat)(v:Vt)(h:l[k]?=some v):l.take (k+1)=l.take k++[v]:=by
 obtain⟨a,e⟩:=V'.1 h;rw[mx a,e]
def acA(p:Bal)(x:Value):Array Value:=#[.int .i64 p.r,.int .i64 p.n,x]
theorem Xu:(prog.info? 111).map (·.size)=some 2:=by kernel_rfl
theorem SZ(h:Below B w w'){b o:Nat}{a:List Value}(c:b<B)(d:w.rangeAt b o a):w'.rangeAt b o a :=
 λj v e=>(h.cell (p:=⟨b,o+j,none⟩) c).trans (d j v e)
theorem EN{a:World}(h:Below B a w){g:Nat}(c:B<=g)(b:Array Value):Below B a (w.setRow g b) :=
 h.trans ⟨rfl,rfl,rfl,by simp,λk d=>setRow_other w g k b (by omega)⟩
theorem eZ{S:World->Prop}{op:Oper}(e:Region.wanted op (yielded ops a.tmps)=true)(x:Operand)(d:op.op=.load 177 x)(g:Nat)(f:a.eval x=.pointer (some ⟨g,0,none⟩))(v:Vt)(c:∀ w,S w->w.heap[g]?=some (.cells (vtA v) 177)):YieldsIf prog ops S op (.agg (vtA v)) a :=
 .inl ⟨e,λw b=>by
  unfold execOp;simp only[d,f,Instr.loadAt,Instr.sureAddr,Sem.run_bind,Sem.run_pure,Result.andThen_ok,run_loadVar_row w g 177 177 _ (0,0) _ (c w b) underlying177 rfl (show _=some (vtA v).size from ZQ v)]⟩
theorem jU{P:Program}{f:Func}{p u v:Tmp}{c:TypeId}(h:f.results=#[.cell p c,.tmp u,.tmp v])(a:Array Value)(w:World)(g:Nat)(t:TypeId)(b:Array Value)(i:Nat × Nat)(d:TypeDesc)(m:a.getD p undef=.pointer (some ⟨g,0,none⟩))(k:w.heap[g]?=some (.cells b t i))(n:P.underlying c=some d)(j:(match d with|.struct _|.array _ _=>true|_=>false)=true)(l:(P.info? c).map (·.size)=some b.size) :
  (results f a).run P w=.ok (.tuple #[.agg b,a.getD u undef,a.getD v undef]) w:=by
 have e:a[p]?.getD undef=.pointer (some ⟨g,0,none⟩):=by simpa using m
 simp[results,h,e,asAddr,run_loadVar_row w g t c b i d k n j l]
theorem SV{a:Nat}{v:Value}{b:List Value}(h:w.ownsRow base e a v n b)(c:∀ k,v.ownBlock=some k->w'.heap[k]?=w.heap[k]?):w'.ownsRow base e a v n b:=by
 refine⟨h.1,?_⟩;rcases h.2 with h2|⟨g,cap,cur,hv,hb,hg,hr⟩
 .exact .inl h2
 .exact .inr ⟨g,cap,cur,hv,hb,(c g (by rw[hv];rfl)).trans hg,hr⟩
theorem je(v:Vt):(prog.info? 177).map (·.size)=some (vtA v).size:=by show _=some 8;kernel_rfl
theorem fp{P:Program}{f:Func}{p u:Tmp}{c:TypeId}(h:f.results=#[.cell p c,.tmp u])(a:Array Value)(w:World)(g:Nat)(t:TypeId)(b:Array Value)(i:Nat × Nat)(d:TypeDesc)(m:a.getD p undef=.pointer (some ⟨g,0,none⟩))(k:w.heap[g]?=some (.cells b t i))(n:P.underlying c=some d)(j:(match d with|.struct _|.array _ _=>true|_=>false)=true)(l:(P.info? c).map (·.size)=some b.size) :
  (results f a).run P w=.ok (.tuple #[.agg b,a.getD u undef]) w:=by
 have e:a[p]?.getD undef=.pointer (some ⟨g,0,none⟩):=by simpa using m
 simp[results,h,e,asAddr,run_loadVar_row w g t c b i d k n j l]
def cmC(c:Cmd):Array Value:=cmA c.k c.c c.s c.n c.v
theorem bZ(a b c d:Int):∀ w,(binOp .eql 111 (.agg #[.int .i64 a,.int .i64 b]) (.agg #[.int .i64 c,.int .i64 d])).run prog w=.ok (.bool (decide (a=c/\b=d))) w:=by
 intro w;rw[run_eql_struct,run_equalIn_agg w 9999 _ _ _ (by kernel_rfl) (by kernel_rfl)];unfold Program.fieldsOf;rw[underlying111];have e:=underlying3;simp[Op.eqFields,go_sem,e]
 repeat' split
 all_goals simp_all
theorem Yc(a b c d e f g h i j k l m n o p:Int):∀ w,(binOp .eql 177 (.agg #[.int .i64 a,.int .i64 b,.int .i64 c,.int .i64 d,.int .i64 e,.int .i64 f,.int .i64 g,.int .i64 h]) (.agg #[.int .i64 i,.int .i64 j,.int .i64 k,.int .i64 l,.int .i64 m,.int .i64 n,.int .i64 o,.int .i64 p])).run prog w=.ok (.bool (decide (a=i/\b=j/\c=k/\d=l/\e=m/\f=n/\g=o/\h=p))) w:=by
 intro w;rw[run_eql_struct,run_equalIn_agg w 9999 _ _ _ (by kernel_rfl) (by kernel_rfl)];unfold Program.fieldsOf;rw[underlying177];have q:=underlying3;have r:=underlying111;have s:=underlying24;simp[Op.eqFields,go_sem,q,r,s]
 repeat' split
 all_goals simp_all
end
end
section
section
def Na(l:List Vt)(v:Vt):Nat->List Vt
 | 0=>[]
 | k+1=>Na l v k++(if(k:Int)=v.bt then[v]else Ae l k)
variable{a b l:List Vt}{v:Vt}
theorem QU(c:BL a)(d:BL b)(h:∀ x∈a,∀ y∈b,x.bt<y.bt):BL (a++b):=by
 induction a with
 | nil=>exact d
 | cons x xs ih =>
  refine⟨λu hu=>?_,ih c.2 (λy e=>h y (I' _ e))⟩;rcases Q'.1 hu with hu|hu
  .exact c.1 u hu
  .exact h x M' u hu
theorem Km(h:BL l)(q:Vt->Bool):BL (l.filter q):=by
 induction l with
 | nil=>trivial
 | cons x xs ih =>
  rw[List.filter_cons];split
  .exact⟨λu a=>h.1 u (oJ.1 a).1,ih h.2⟩
  .exact ih h.2
theorem ZD(c:BL a)(d:BL b)(h:∀ u,u∈a↔u∈b):a=b:=by
 induction a generalizing b with
 | nil =>
  cases b with
  | nil=>rfl
  | cons y ys=>exact absurd ((h y).2 M') (P')
 | cons x xs ih =>
  cases b with
  | nil=>exact absurd ((h x).1 M') (P')
  | cons y ys =>
   have f:x=y:=by
    rcases mn.1 ((h x).1 M')with e|e
    .exact e
    .rcases mn.1 ((h y).2 M')with e'|e'
     .exact e'.symm
     .have:=c.1 y e';have:=d.1 x e;omega
   subst f;rw[ih c.2 d.2 (λu=>?_)];constructor
   .intro hu;rcases mn.1 ((h u).1 (I' _ hu))with rfl|e
    .have:=c.1 u hu;omega
    .exact e
   .intro hu;rcases mn.1 ((h u).2 (I' _ hu))with rfl|e
    .have:=d.1 u hu;omega
    .exact e
theorem Qn(k:Nat)(u:Vt):u∈Na l v k↔(0<=u.bt/\u.bt<k)/\(u=v\/(u∈l/\u.bt≠v.bt)):=by
 induction k with
 | zero=>simp[Na];omega
 | succ k ih =>
  rw[Na,Q',ih];by_cases a:(k:Int)=v.bt
  .rw[if_pos a,D'];constructor
   .rintro(⟨h1,h2⟩|rfl)
    .exact⟨by omega,h2⟩
    .exact⟨by omega,.inl rfl⟩
   .rintro⟨h1,rfl|⟨h2,h3⟩⟩
    .exact .inr rfl
    .exact .inl ⟨by omega,.inr ⟨h2,h3⟩⟩
  .rw[if_neg a,AK];constructor
   .rintro(⟨h1,h2⟩|⟨h1,h2⟩)
    .exact⟨by omega,h2⟩
    .exact⟨by omega,.inr ⟨h1,by omega⟩⟩
   .rintro⟨h1,rfl|⟨h2,h3⟩⟩
    .exact .inl ⟨by omega,.inl rfl⟩
    .by_cases h4:u.bt=k
     .exact .inr ⟨h2,h4⟩
     .exact .inl ⟨by omega,.inr ⟨h2,h3⟩⟩
theorem J0(h:BL l)(s:Int):(Ae l s).length<=1:=by
 match e:Ae l s with
 | []=>simp
 | [_]=>simp
 | x::y::r =>
  have a:BL (Ae l s):=Km h _;have b:=(AK.1 (show x∈Ae l s by rw[e];simp)).2;have c:=(AK.1 (show y∈Ae l s by rw[e];simp)).2;rw[e]at a
  have:=a.1 y M';omega
theorem Yq(v:Vt)(h:BL l)(k:Nat):(Na l v k).length<=k:=by
 induction k with
 | zero=>simp[Na]
 | succ k ih =>
  rw[Na,H'];have:=J0 h k;split
  .simp;omega
  .omega
theorem VA(v:Vt)(h:BL l)(k:Nat):BL (Na l v k):=by
 induction k with
 | zero=>trivial
 | succ k ih =>
  rw[Na];refine QU ih ?_ ?_
  .split
   .exact⟨λu a=>(P' a).elim,trivial⟩
   .exact Km h _
  .intro x hx y hy;have b:=((Qn k x).1 hx).1;split at hy
   .obtain rfl:y=v:=by simpa using hy
    omega
   .have:=(AK.1 hy).2;omega
theorem cI(k:Nat)(h:BL l)(b:∀ u∈l,0<=u.bt/\u.bt<k)(c:0<=v.bt/\v.bt<k):Na l v k=Bo l v:=by
 refine ZD (VA v h k) (Ju v h) λu=>?_;rw[Qn,BB h];constructor
 .exact λa=>a.2
 .rintro(rfl|⟨h1,h2⟩)
  .exact⟨c,.inl rfl⟩
  .exact⟨b u h1,.inr ⟨h1,h2⟩⟩
theorem Kc(l:List Vt)(u:Vt)(s:Int):Ae (l++[u]) s=Ae l s++(if u.bt=s then[u]else[]):=by
 unfold Ae;rw[nM];by_cases h:u.bt=s<;>simp[h]
theorem WQ(a:List (List Vt))(j:Nat)(l:List Vt)(h:a[j]?=some l):(a.take (j+1)).flatten=(a.take j).flatten++l:=by
 obtain⟨b,e⟩:=V'.1 h;rw[mx b,e];simp
theorem DL(a b:List Vt)(s:Int):Ae (a++b) s=Ae a s++Ae b s:=by unfold Ae;rw[nM]
end
end
section
open Go.RowKit
section
structure Sac(w:World)(x:Value)(ac:List Acc):Prop where
 ex:∃ a cap,x=.slice a ac.length cap/\(ac=[]\/∃ b off,a=some ⟨b,off,none⟩/\b<w.heap.size/\∀ (i:Nat) (A:Acc),ac[i]?=some A->∃ y,w.rangeAt b (off+3*i) [.int .i64 A.p.r,.int .i64 A.p.n,y]/\Sv w y A.vs)
 len:ac.length<=3518437208780
variable{ac:List Acc}{s:Int}{w:World}{x:Value}
theorem Sac.af{f:World}(h:Sac w x ac)(e:Bw w f):Sac f x ac:=by
 obtain⟨⟨a,c,rfl,d⟩,g⟩:=h;refine⟨⟨a,c,rfl,?_⟩,g⟩;rcases d with d|⟨b,off,ha,hbs,hc⟩
 .exact .inl d
 .refine .inr ⟨b,off,ha,Z' hbs e.size,λi A l=>?_⟩;obtain⟨y,j,k⟩:=hc i A l;exact⟨y,SZ e hbs j,k.af e⟩
theorem Sac.shape(h:Sac w x ac):∃ a cap,x=.slice a ac.length cap:=by
 obtain⟨⟨a,cap,e,_⟩,_⟩:=h;exact⟨a,cap,e⟩
theorem Sac.spot{a:Option Addr}{n c:Nat}(h:Sac w (.slice a n c) ac)(i:Nat)(A:Acc)(f:ac[i]?=some A):∃ b off y,a=some ⟨b,off,none⟩/\b<w.heap.size/\w.rangeAt b (off+3*i) [.int .i64 A.p.r,.int .i64 A.p.n,y]/\Sv w y A.vs:=by
 obtain⟨⟨j,d,e,g⟩,_⟩:=h;simp only[Value.slice.injEq]at e;obtain⟨rfl,rfl,rfl⟩:=e;rcases g with rfl|⟨b,off,rfl,hb,hc⟩
 .simp at f
 .obtain⟨y,h3,h4⟩:=hc i A f;exact⟨b,off,y,rfl,hb,h3,h4⟩
theorem gx:prog.elem 241=114:=by kernel_rfl
theorem iO(w:World):(Go.sizeOf 114).run prog w=.ok 3 w:=by
 have h:(prog.info? 114).map (·.size)=some 3:=by kernel_rfl
 cases hi:prog.info? 114 with
 | none=>rw[hi]at h;cases h
 | some i =>
  rw[hi]at h
  simp at h;simp[sizeOf,typeInfo,hi,h]
theorem Wx(b o n c:Nat)(i:Nat)(a:i<n)(w:World):(Instr.indexAt 241 (.slice (some ⟨b,o,none⟩) n c) (.int .i64 (i:Int))).run prog w=.ok (.pointer (some ⟨b,o+3*i,none⟩)) w:=by
 rw[run_indexAt_slice (P:=prog) w 241 _ n c .i64 _ underlying241,if_pos ⟨by omega,by omega⟩,gx,iO];simp[Result.andThen,Addr.add_mid,Nat.mul_comm]
def D1(ac:List Acc)(s:Int):List Vt:=Ae (ac.map (·.vs)).flatten s
def CW(ac:List Acc)(s:Int):Int:=if ¬ ((0<=s/\s<=39)/\(1<=(ac.length:Int)/\(ac.length:Int)<=5))then 2 else if ¬ ∀ a∈ac,Ag a then 5 else if(He (D1 ac s) ac.length).isSome then 0 else 9
def CN(ac:List Acc)(s:Int):Cmd:=if CW ac s=0 then((He (D1 ac s) ac.length).map (·.w)).getD ⟨0,0,0,0,0⟩else⟨0,0,0,0,0⟩
theorem D7(h:¬ ((0<=s/\s<=39)/\(1<=(ac.length:Int)/\(ac.length:Int)<=5))):CN ac s=⟨0,0,0,0,0⟩/\CW ac s=2:=by
 have e:CW ac s=2:=if_pos h;exact⟨if_neg (by rw[e];decide),e⟩
theorem Vp(h:(0<=s/\s<=39)/\(1<=(ac.length:Int)/\(ac.length:Int)<=5))(b:¬ ∀ a∈ac,Ag a):CN ac s=⟨0,0,0,0,0⟩/\CW ac s=5:=by
 have e:CW ac s=5:=by unfold CW;rw[if_neg (λg=>g h),if_pos b]
 exact⟨if_neg (by rw[e];decide),e⟩
theorem X9(h:(0<=s/\s<=39)/\(1<=(ac.length:Int)/\(ac.length:Int)<=5))(b:∀ a∈ac,Ag a)(c:He (D1 ac s) ac.length=none):CN ac s=⟨0,0,0,0,0⟩/\CW ac s=9:=by
 have e:CW ac s=9:=by unfold CW;rw[if_neg (λg=>g h),if_neg (λg=>g b),c];rfl
 exact⟨if_neg (by rw[e];decide),e⟩
theorem XA(h:(0<=s/\s<=39)/\(1<=(ac.length:Int)/\(ac.length:Int)<=5))(c:∀ a∈ac,Ag a){x:Vt}(b:He (D1 ac s) ac.length=some x):CN ac s=x.w/\CW ac s=0:=by
 have e:CW ac s=0:=by unfold CW;rw[if_neg (λg=>g h),if_neg (λg=>g c),b];rfl
 exact⟨by unfold CN;rw[if_pos e,b];rfl,e⟩
theorem gi{c:List Acc}(h:∀ a∈c,Ag a)(s:Int):(Ae (c.map (·.vs)).flatten s).length<=c.length:=by
 induction c with
 | nil=>simp[Ae]
 | cons a c ih =>
  have e:=J0 (h a M').2.2 s;have f:=ih (λb d=>h b (I' _ d));simp only[mO,List.flatten_cons,mI];rw[DL,H'];omega
theorem TA(ac:List Acc)(j:Nat)(a:Acc)(h:ac[j]?=some a):((ac.take (j+1)).map (·.vs)).flatten=((ac.take j).map (·.vs)).flatten++a.vs:=by
 obtain⟨b,e⟩:=V'.1 h;rw[mx b,e];simp
end
end
section
end
section
open Go.RowKit
section
def baA(b:Bal):Array Value:=#[.int .i64 b.r,.int .i64 b.n]
theorem Ou(l:List Vt)(v:Vt):BL (l++[v])↔BL l/\∀ u∈l,u.bt<v.bt:=by
 induction l with
 | nil=>exact⟨λ_=>⟨trivial,λu hu=>(P' hu).elim⟩,λ_=>⟨λu hu=>(P' hu).elim,trivial⟩⟩
 | cons x xs ih =>
  show((∀ u∈xs++[v],x.bt<u.bt)/\BL (xs++[v]))↔((∀ u∈xs,x.bt<u.bt)/\BL xs)/\∀ u∈x::xs,u.bt<v.bt;rw[ih];constructor
  .rintro⟨h1,h2,h3⟩;refine⟨⟨λu hu=>h1 u (mi _ hu),h2⟩,λu hu=>?_⟩;rcases mn.1 hu with rfl|hu
   .exact h1 v (mg _ M')
   .exact h3 u hu
  .rintro⟨⟨h1,h2⟩,h3⟩;refine⟨λu hu=>?_,h2,λu hu=>h3 u (I' _ hu)⟩;rcases Q'.1 hu with hu|hu
   .exact h1 u hu
   .obtain rfl:u=v:=by simpa using hu
    exact h3 x M'
def Fl(a:Acc)(b:Bal):Bal:=if Cj a b=0 then b else⟨0,0⟩
def DW(a:Acc)(b:Bal):List Vt:=if Cj a b=0 then a.vs else[]
def BI(a:Acc)(v:Vt):Bal:=if Ba a v=0 then v.b else⟨0,0⟩
def Br(a:Acc)(v:Vt):List Vt:=if Ba a v=0 then Bo a.vs v else[]
def Gx(ls:List (List Vt))(s:Int):Cmd:=if BW ls s=0 then((Ed ls s).map (·.w)).getD ⟨0,0,0,0,0⟩else⟨0,0,0,0,0⟩
def DV(ls:List (List Vt))(s:Int):Bool:=if BW ls s=0 then(Ed ls s).isSome else false
variable{l:List Vt}{ls:List (List Vt)}{s:Int}
theorem LT(h:¬ (0<=s/\s<=39)):Gx ls s=⟨0,0,0,0,0⟩/\DV ls s=false/\BW ls s=2:=by
 have e:BW ls s=2:=if_pos h;exact⟨if_neg (by rw[e];decide),if_neg (by rw[e];decide),e⟩
theorem Th(h:0<=s/\s<=39)(a:¬ ∀ l∈ls,∀ v∈l,Ah v):Gx ls s=⟨0,0,0,0,0⟩/\DV ls s=false/\BW ls s=5:=by
 have e:BW ls s=5:=by unfold BW;rw[if_neg (λg=>g h),if_neg a]
 exact⟨if_neg (by rw[e];decide),if_neg (by rw[e];decide),e⟩
theorem aF{j:Nat}(h:ls[j]?=some l)(b:∀ l∈ls.take j,∀ v∈l,Ah v)(c:∀ v∈l,Ah v):∀ l∈ls.take (j+1),∀ v∈l,Ah v:=by
 obtain⟨d,e⟩:=V'.1 h;rw[mx d,e];intro l' a;rcases Q'.1 a with g|g
 .exact b l' g
 .obtain rfl:l'=l:=by simpa using g
  exact c
theorem aG{k:Nat}{u:Vt}(h:l[k]?=some u)(a:∀ v∈l.take k,Ah v)(b:Ah u):∀ v∈l.take (k+1),Ah v:=by
 rw[FS l k u h];intro v c;rcases Q'.1 c with g|g
 .exact a v g
 .obtain rfl:v=u:=by simpa using g
  exact b
def AR(d:List Int)(s:Int):Prop:=d.length<=100000/\0<=s/\s<=(d.length:Int)
instance (d:List Int) (s:Int):Decidable (AR d s):=by unfold AR;exact inferInstance
def CZ(d:List Int)(s:Int):Int:=if AR d s then 0 else 5
def Hg(d:List Int)(s:Int):List Int:=if AR d s then d else[]
def If(d:List Int)(s:Int):Int:=if AR d s then(d.length:Int)else 0
def Gk(d:List Int)(s k:Int):Int:=if k<(d.length:Int)-s then s+k else(d.length:Int)
def Gj(d:List Int)(s k:Int):Int:=if ¬ AR d s then 5 else if k<0 then 2 else 0
def Ky(d:List Int)(s k:Int):List Int:=if Gj d s k=0 then d.take (Gk d s k).toNat else[]
def Kz(d:List Int)(s k:Int):Int:=if Gj d s k=0 then Gk d s k else 0
def tpA(x:Value)(s:Int):Array Value:=#[x,.int .i64 s]
theorem MC:(prog.info? 130).map (·.size)=some 2:=by kernel_rfl
theorem aO(x:Option Addr)(n c:Nat)(s:Int):(#[.slice x n c,.int .i64 s]:Array Value).all (·.oneCell')=true:=by simp[Value.oneCell']
end
end
section
section
def Eb(b:List Int):List Int:=(b.length:Int)::b
def AM(b:List Int):List Int:=Eb b++(dig (Eb b)).take 4
theorem CD(b:List Int):(Eb b).length=b.length+1:=rfl
theorem Bj(b:List Int):(AM b).length=b.length+5:=by
 unfold AM;rw[H',CD,j',AA];omega
def Bu(b:Bal):List Int:=1::(Ad b.r++Ad b.n)
def Bk(v:Vt):List Int:=2::(Ad v.bt++(Ad v.b.r++(Ad v.b.n++D2 v.w.k v.w.c v.w.s v.w.n v.w.v)))
theorem Kg(b:Bal):(Bu b).length=9:=rfl
theorem GF(v:Vt):(Bk v).length=33:=rfl
theorem Wk(b:Bal):∀ x∈Bu b,0<=x/\x<256:=by
 intro x hx;rcases mn.1 hx with rfl|hx
 .omega
 .rcases Q'.1 hx with hx|hx
  .exact AT _ x hx
  .exact AT _ x hx
theorem WZ(v:Vt):∀ x∈Bk v,0<=x/\x<256:=by
 intro x hx;rcases mn.1 hx with rfl|hx
 .omega
 .rcases Q'.1 hx with hx|hx
  .exact AT _ x hx
  .rcases Q'.1 hx with hx|hx
   .exact AT _ x hx
   .rcases Q'.1 hx with hx|hx
    .exact AT _ x hx
    .exact Jp _ _ _ _ _ x hx
variable{N k m n:Nat}{a b c:Acc}{all:List Acc}{bs:List (List Int)}{r:List Int}
theorem L3{b:List Int}(a:∀ x∈b,0<=x/\x<256)(c:b.length<=255):∀ x∈Eb b,0<=x/\x<256:=by
 intro x hx;rcases mn.1 hx with rfl|hx
 .omega
 .exact a x hx
theorem Mc{b:List Int}(a:∀ x∈b,0<=x/\x<256)(c:b.length<=255):∀ x∈AM b,0<=x/\x<256:=by
 intro x hx;rcases Q'.1 hx with hx|hx
 .exact L3 a c x hx
 .exact DR _ x (mt hx)
def bP(l:List Int):Cmd:=⟨Ac l 0,Ac l 4,Ac l 8,Ac l 12,Ac l 16⟩
def Gf(b:List Int):Bal:=⟨Ac b 1,Ac b 5⟩
def FV(b:List Int):Vt:=⟨Ac b 1,⟨Ac b 5,Ac b 9⟩,bP (b.drop 13)⟩
def DS(a:Acc)(b:List Int):Option Acc :=
 if b.length=9/\b.getD 0 0=1 then(if Cj a (Gf b)=0 then some ⟨Gf b,a.vs⟩else none)
 else if b.length=33/\b.getD 0 0=2 then(if Ci (b.drop 13)=0 then(if Ba a (FV b)=0 then some ⟨(FV b).b,Bo a.vs (FV b)⟩else none)else none)
 else none
def BX(r:List Int)(a:Acc):Option (Acc × Nat) :=
 if r=[]then none
 else if r.length<(r.getD 0 0).toNat+5 then none
 else if(dig (r.take ((r.getD 0 0).toNat+1))).take 4≠(r.drop ((r.getD 0 0).toNat+1)).take 4 then none
 else(DS a ((r.take ((r.getD 0 0).toNat+1)).drop 1)).map λx=>(x,(r.getD 0 0).toNat+5)
def a0:Acc:=⟨⟨0,0⟩,[]⟩
def JZ(r:List Int)(p:Nat × Acc):Nat × Acc:=match BX (r.drop p.1) p.2 with
 | none=>p
 | some (c,m)=>(p.1+m,c)
def itR(r:List Int):Nat->Nat × Acc
 | 0=>(0,a0)
 | k+1=>JZ r (itR r k)
def En(r:List Int):Nat × Acc:=itR r r.length
theorem Mq(h:BX r a=some (c,m)):5<=m/\m<=r.length:=by
 unfold BX at h;split at h
 .cases h
 .split at h
  .cases h
  .split at h
   .cases h
   .obtain⟨x,_,e⟩:=nF.1 h;injection e with e1 e2
    omega
theorem H6{p:Nat × Acc}(h:BX (r.drop p.1) p.2=none):JZ r p=p:=by
 unfold JZ;rw[h]
theorem FF(h:BX (r.drop n) b=some (c,m)):JZ r (n,b)=(n+m,c):=by
 unfold JZ;rw[show BX (r.drop (n,b).1) (n,b).2=some (c,m)from h]
theorem VK(h:itR r k=(n,b))(a:BX (r.drop n) b=none)(j:Nat):itR r (k+j)=(n,b):=by
 induction j with
 | zero=>exact h
 | succ j ih =>
  rw[<- m9,itR,ih];exact H6 a
theorem Pn(h:itR r k=(n,b))(c:k<=r.length)(a:BX (r.drop n) b=none):En r=(n,b):=by
 have:=VK h a (r.length-k);rw[show k+(r.length-k)=r.length by omega]at this
 exact this
theorem Y2(r:List Int)(k:Nat):(itR r k).1<=r.length:=by
 induction k with
 | zero=>exact mJ _
 | succ k ih =>
  rw[itR];unfold JZ;split
  .exact ih
  .rename_i c m h
   have:=(Mq h).2;rw[mm]at this
   show(itR r k).1+m<=r.length;omega
theorem Oz{r':List Int}(h:BX r a=some (c,m))(b:r'.take m=r.take m):BX r' a=some (c,m):=by
 have s:=Mq h;have d:m<=r'.length:=by
  have e:=congrArg List.length b;rw[j',j']at e
  omega
 unfold BX at h;split at h
 .cases h
 rename_i p
 split at h
 .cases h
 rename_i q
 split at h
 .cases h
 rename_i f
 obtain⟨x,o,e⟩:=nF.1 h;injection e with e1 e2
 have i:r'.getD 0 0=r.getD 0 0:=by
  have e:=congrArg (λl=>l.getD 0 0) b;simp only[mM,ng]at e ⊢;rw[if_pos (by omega),if_pos (by omega)]at e
  exact e
 have n:∀ k,k<=m->r'.take k=r.take k:=λk j=>by
  have e:=congrArg (List.take k) b;rw[oG,oG,nm j]at e
  exact e
 have g:(r'.drop ((r.getD 0 0).toNat+1)).take 4=(r.drop ((r.getD 0 0).toNat+1)).take 4:=by
  have e:=congrArg (List.drop ((r.getD 0 0).toNat+1)) b;rw[px,px,show m-((r.getD 0 0).toNat+1)=4 by omega]at e
  exact e
 unfold BX;rw[i,if_neg (by rintro rfl;simp at d;omega),if_neg (by omega),n _ (by omega),g,if_neg f,o,mY,e1,e2]
theorem Gn(r:List Int){N n m:Nat}(h:n+m<=N):((r.take N).drop n).take m=(r.drop n).take m:=by
 rw[px,oG,nm (by omega)]
theorem Y3(r:List Int)(k:Nat):(itR r k).1<=(itR r (k+1)).1:=by
 rw[itR];unfold JZ;split
 .exact A' _
 .show(itR r k).1<=(itR r k).1+_;omega
theorem Y4(h:(itR r k).1<=N):itR (r.take N) k=itR r k:=by
 induction k with
 | zero=>rfl
 | succ k b =>
  have i:=Y3 r k;have b:=b (by omega);rw[itR,b];cases e:BX (r.drop (itR r k).1) (itR r k).2 with
  | none =>
   have a:BX ((r.take N).drop (itR r k).1) (itR r k).2=none:=by
    cases e3:BX ((r.take N).drop (itR r k).1) (itR r k).2 with
    | none=>rfl
    | some x =>
     obtain⟨c,m⟩:=x;have g:=(Mq e3).2;rw[mm,j']at g
     have:=Oz (r':=r.drop (itR r k).1) e3 (Gn r (by omega)).symm;rw[e]at this
     cases this
   rw[H6 a,itR,H6 e]
  | some x =>
   obtain⟨c,m⟩:=x;have d:itR r (k+1)=((itR r k).1+m,c):=by rw[itR];exact FF e
   rw[d]at h ⊢
   have f:(itR r k).1+m<=N:=h;have a:=Oz (r':=(r.take N).drop (itR r k).1) e (Gn r f);exact FF a
theorem UG(r:List Int):(En r).1<=r.length:=Y2 r r.length
theorem T2(b x:List Int)(a:Acc):BX (AM b++x) a=(DS a b).map λc=>(c,b.length+5):=by
 have d:=Bj b;have h:(AM b++x).getD 0 0=(b.length:Int):=rfl;have i:((b.length:Int)).toNat=b.length:=mK _;have j:(AM b++x).take (b.length+1)=Eb b:=by
  unfold AM;rw[ml,my (by rw[CD];omega),mo (by rw[CD];omega)]
 have f:((AM b++x).drop (b.length+1)).take 4=(dig (Eb b)).take 4:=by
  unfold AM;rw[ml,nN (by rw[CD];omega),nG (by rw[CD];omega),nz,
   my (by rw[j',AA];omega),oG]
  rfl
 unfold BX;rw[h,i,if_neg (by intro e;have:=congrArg List.length e;rw[H',d]at this;simp at this),if_neg (by rw[H',d];omega),j,f,if_neg (λg=>g rfl)];rfl
theorem T3(b x:List Int)(a:Acc){k:Nat}(e:k<b.length+5):BX ((AM b++x).take k) a=none:=by
 have d:=Bj b;cases k with
 | zero=>rfl
 | succ k =>
  have c:((AM b++x).take (k+1)).getD 0 0=(b.length:Int):=rfl;unfold BX;rw[c,mK];split
  .rfl
  .rw[if_pos (by rw[j',H',d];omega)]
theorem XW(a:Acc){b:Bal}(g:Ab b):DS a (Bu b)=if Cj a b=0 then some ⟨b,a.vs⟩else none:=by
 have c:=g;unfold Ab at c;have d:Ac (Bu b) 1=b.r:=BC b.r (by omega) (by omega) [1] (Ad b.n);have f:Ac (Bu b) 5=b.n:=by
  have:=BC b.n (by omega) (by omega) (1::Ad b.r) [];rw[mG]at this
  exact this
 have e:Gf (Bu b)=b:=by unfold Gf;rw[d,f]
 unfold DS;rw[if_pos ⟨rfl,rfl⟩,e]
theorem XL{k c s n v:Int}(h:Bh k c s n v=0):Ci (D2 k c s n v)=0/\bP (D2 k c s n v)=⟨k,c,s,n,v⟩:=by
 have j:=De h;have i:=j.2;unfold InC at i;have a:=GW k c s n v (by omega) (by omega);have b:=GX k c s n v (by omega) (by omega);have d:=GY k c s n v (by omega) (by omega);have e:=FG k c s n v (by omega) (by omega);have f:=FH k c s n v (by omega) (by omega);unfold Ci bP;rw[if_neg (λg=>g (DQ k c s n v)),a,b,d,e,f];exact⟨h,rfl⟩
theorem XX(a:Acc){v:Vt}(p:Ah v):DS a (Bk v)=if Ba a v=0 then some ⟨v.b,Bo a.vs v⟩else none:=by
 have g:=p;unfold Ah Ab at g;obtain⟨d,⟨r,n⟩,⟨k,c,s,f,x⟩⟩:=v;simp only at g;have l:Ac (Bk ⟨d,⟨r,n⟩,⟨k,c,s,f,x⟩⟩) 1=d:=BC d (by omega) (by omega) [2] (Ad r++(Ad n++D2 k c s f x));have m:Ac (Bk ⟨d,⟨r,n⟩,⟨k,c,s,f,x⟩⟩) 5=r:=BC r (by omega) (by omega) (2::Ad d) (Ad n++D2 k c s f x);have o:Ac (Bk ⟨d,⟨r,n⟩,⟨k,c,s,f,x⟩⟩) 9=n:=BC n (by omega) (by omega) (2::(Ad d++Ad r)) (D2 k c s f x);have i:(Bk ⟨d,⟨r,n⟩,⟨k,c,s,f,x⟩⟩).drop 13=D2 k c s f x:=rfl;have j:=XL (k:=k) (c:=c) (s:=s) (n:=f) (v:=x) g.2.2;have e:FV (Bk ⟨d,⟨r,n⟩,⟨k,c,s,f,x⟩⟩)=⟨d,⟨r,n⟩,⟨k,c,s,f,x⟩⟩:=by unfold FV;rw[l,m,o,i,j.2]
 unfold DS;rw[if_neg (by rintro⟨h,_⟩;cases h),if_pos ⟨rfl,rfl⟩,e,i,if_pos j.1]
def AD(bs:List (List Int)):List Int:=bs.flatMap AM
theorem CB(l m:List (List Int)):AD (l++m)=AD l++AD m:=by simp[AD]
structure Chn(all:List Acc)(bs:List (List Int)):Prop where
 len:all.length=bs.length+1
 first:all[0]?=some a0
 step:∀ (i:Nat) (b:List Int) (a c:Acc),bs[i]?=some b->all[i]?=some a->all[i+1]?=some c->DS a b=some c
theorem Chn.at(h:Chn all bs)(j:Nat)(b:j<=bs.length):∃ a,all[j]?=some a:=⟨_,G' (by have:=h.len;omega)⟩
theorem Mz(a:List (List Int))(j:Nat)(b:List Int)(h:a[j]?=some b):a.take (j+1)=a.take j++[b]:=by
 obtain⟨c,e⟩:=V'.1 h;rw[mx c,e]
theorem Lv(a:List (List Int))(j:Nat)(x:List Int):(AD a++x).drop (AD (a.take j)).length=AD (a.drop j)++x:=by
 have e:AD a=AD (a.take j)++AD (a.drop j):=by rw[<- CB,np]
 rw[e,ml,nN (A' _),nG (A' _),nz]
theorem Lw(a:List (List Int))(j:Nat)(b:List Int)(h:a[j]?=some b):AD (a.drop j)=AM b++AD (a.drop (j+1)):=by
 obtain⟨c,e⟩:=V'.1 h;rw[m7 c,e];rfl
theorem Chn.it(h:Chn all bs)(x:List Int)(j:Nat)(l:j<=bs.length){a:Acc}(d:all[j]?=some a):itR (AD bs++x) j=((AD (bs.take j)).length,a):=by
 induction j generalizing a with
 | zero =>
  rw[h.first]at d
  obtain rfl:=mQ d;rfl
 | succ j g =>
  obtain⟨i,c⟩:=h.at j (by omega);have g:=g (by omega) c;obtain⟨b,f⟩:∃ b,bs[j]?=some b:=⟨_,G' (by omega)⟩;have k:=h.step j b i a f c d;have e:BX ((AD bs++x).drop (AD (bs.take j)).length) i=some (a,b.length+5):=by
   rw[Lv,Lw bs j b f,ml,T2,k];rfl
  rw[itR,g,FF e,Mz bs j b f,CB,H']
  congr 1
  show _=(AD (bs.take j)).length+(AD [b]).length;simp[AD,Bj]
theorem Qi(a:List (List Int)):a.length<=(AD a).length:=by
 induction a with
 | nil=>exact mJ _
 | cons b a ih =>
  show a.length+1<=(AM b++AD a).length;rw[H',Bj];omega
theorem gl(a:List (List Int))(k:Nat):∃ j,j<=a.length/\(AD (a.take j)).length<=k/\(j=a.length\/k<(AD (a.take (j+1))).length):=by
 have:∀ n,n<=a.length->∃ j,j<=n/\(AD (a.take j)).length<=k/\(j=n\/k<(AD (a.take (j+1))).length):=by
  intro n;induction n with
  | zero=>intro _;exact⟨0,A' _,by simp[AD],.inl rfl⟩
  | succ n ih =>
   intro d;obtain⟨j,c,b,h3⟩:=ih (by omega);rcases h3 with rfl|h3
   .rcases mX k (AD (a.take (j+1))).length with h4|h4
    .exact⟨j,by omega,b,.inr h4⟩
    .exact⟨j+1,A' _,h4,.inl rfl⟩
   .exact⟨j,by omega,b,.inr h3⟩
 exact this a.length (A' _)
theorem Chn.sV(h:Chn all bs)(k:Nat):∃ j a,j<=bs.length/\all[j]?=some a/\En ((AD bs).take k)=((AD (bs.take j)).length,a)/\(AD (bs.take j)).length<=k/\(j=bs.length\/k<(AD (bs.take (j+1))).length):=by
 obtain⟨j,d,i,h3⟩:=gl bs k;obtain⟨a,l⟩:=h.at j d;refine⟨j,a,d,l,?_,i,h3⟩;have f:=h.it [] j d l;rw[mG]at f
 have g:itR ((AD bs).take k) j=((AD (bs.take j)).length,a):=by
  rw[Y4 (by rw[f];exact i),f]
 have c:=Lv bs j [];rw[mG,mG]at c
 refine Pn g ?_ ?_
 .rw[j'];have m:=Qi (bs.take j);rw[j']at m
  have n:(AD (bs.take j)).length<=(AD bs).length:=by
   have:=congrArg List.length c;rw[mm]at this
   have e:AD bs=AD (bs.take j)++AD (bs.drop j):=by rw[<- CB,np]
   rw[e,H'];omega
  omega
 .rw[px,c];rcases h3 with rfl|h3
  .rw[nG (A' _)];simp[AD,BX]
  .rcases mX j bs.length with hj|hj
   .obtain⟨b,hb⟩:∃ b,bs[j]?=some b:=⟨_,G' hj⟩;rw[Lw bs j b hb];refine T3 b _ a ?_;rw[Mz bs j b hb,CB,H']at h3
    have e:(AD [b]).length=b.length+5:=by simp[AD,Bj]
    omega
   .rw[nG hj];simp[AD,BX]
end
end
section
open Go.RowKit
def fbO(r:List Int):Option (List Int) :=
 if r=[]then none
 else if r.length<(r.getD 0 0).toNat+5 then none
 else if(dig (r.take ((r.getD 0 0).toNat+1))).take 4≠(r.drop ((r.getD 0 0).toNat+1)).take 4 then none
 else some ((r.take ((r.getD 0 0).toNat+1)).drop 1)
theorem Ug{r b:List Int}(h:fbO r=some b):b.length+5<=r.length/\b.length=(r.getD 0 0).toNat:=by
 unfold fbO at h;split at h
 .cases h
 .split at h
  .cases h
  .split at h
   .cases h
   .injection h with h
    subst h;rw[mm,j'];omega
theorem Mp(r:List Int)(a:Acc):BX r a=(fbO r).bind λb=>(DS a b).map λc=>(c,b.length+5):=by
 have d:∀ b,fbO r=some b->b.length=(r.getD 0 0).toNat:=λb h=>(Ug h).2;unfold BX;unfold fbO at d ⊢;by_cases f:r=[]
 .rw[if_pos f,if_pos f];rfl
 .rw[if_neg f]at d ⊢
  rw[if_neg f];by_cases g:r.length<(r.getD 0 0).toNat+5
  .rw[if_pos g,if_pos g];rfl
  .rw[if_neg g]at d ⊢
   rw[if_neg g];by_cases i:(dig (r.take ((r.getD 0 0).toNat+1))).take 4≠(r.drop ((r.getD 0 0).toNat+1)).take 4
   .rw[if_pos i,if_pos i];rfl
   .rw[if_neg i]at d ⊢
    rw[if_neg i];have e:=d _ rfl;show _=(DS a _).map _;rw[e]
theorem DB(l:List Int)(n i:Nat):Ac (l.drop n) i=Ac l (n+i):=by
 unfold Ac;simp only[mM,nc,m9]
def Hw(a:Acc)(b:List Int):Int :=
 if b.length=9/\b.getD 0 0=1 then Cj a (Gf b)
 else if b.length=33/\b.getD 0 0=2 then(if Ci (b.drop 13)=0 then Ba a (FV b)else Ci (b.drop 13))
 else 3
def Gl(a:Acc)(b:List Int):Acc :=
 if b.length=9/\b.getD 0 0=1 then⟨Fl a (Gf b),DW a (Gf b)⟩
 else if b.length=33/\b.getD 0 0=2 then(if Ci (b.drop 13)=0 then⟨BI a (FV b),Br a (FV b)⟩else a0)
 else a0
theorem PZ(a:Acc)(b:List Int):DS a b=if Hw a b=0 then some (Gl a b)else none:=by
 unfold DS Hw Gl;by_cases d:b.length=9/\b.getD 0 0=1
 .rw[if_pos d,if_pos d,if_pos d];by_cases c:Cj a (Gf b)=0
  .rw[if_pos c,if_pos c];unfold Fl DW;rw[if_pos c,if_pos c]
  .rw[if_neg c,if_neg c]
 .rw[if_neg d,if_neg d,if_neg d];by_cases c:b.length=33/\b.getD 0 0=2
  .rw[if_pos c,if_pos c,if_pos c];by_cases e:Ci (b.drop 13)=0
   .rw[if_pos e,if_pos e,if_pos e];by_cases f:Ba a (FV b)=0
    .rw[if_pos f,if_pos f];unfold BI Br;rw[if_pos f,if_pos f]
    .rw[if_neg f,if_neg f]
   .rw[if_neg e,if_neg e,if_neg e]
  .rw[if_neg c,if_neg c,if_neg c,if_neg (by decide)]
def voV(l:List Int):Vt:=if Ci (l.drop 12)=0 then⟨Ac l 0,⟨Ac l 4,Ac l 8⟩,bP (l.drop 12)⟩else⟨0,⟨0,0⟩,⟨0,0,0,0,0⟩⟩
theorem eL{l:List Int}(h:Ci (l.drop 12)=0):∃ m0 m1 m2 m3 m4:Int,Iu (l.drop 12)=#[.int .i64 m0,.int .i64 m1,.int .i64 m2,.int .i64 m3,.int .i64 m4]/\voV l=⟨Ac l 0,⟨Ac l 4,Ac l 8⟩,⟨m0,m1,m2,m3,m4⟩⟩:=by
 refine⟨Ac (l.drop 12) 0,Ac (l.drop 12) 4,Ac (l.drop 12) 8,Ac (l.drop 12) 12,Ac (l.drop 12) 16,?_,?_⟩
 .unfold Iu;rw[if_pos h];rfl
 .unfold voV;rw[if_pos h];rfl
theorem eK{l:List Int}(h:¬ Ci (l.drop 12)=0):Iu (l.drop 12)=zV5/\voV l=⟨0,⟨0,0⟩,⟨0,0,0,0,0⟩⟩:=by
 unfold voV Iu;rw[if_neg h,if_neg h];exact⟨rfl,rfl⟩
theorem Rv(b:List Int)(h:Ci (b.drop 13)=0):voV (b.drop 1)=FV b:=by
 unfold voV FV;rw[oF,if_pos h,DB,DB,DB]
theorem Lb(b:List Int):(⟨Ac (b.drop 1) 0,Ac (b.drop 1) 4⟩:Bal)=Gf b:=by
 unfold Gf;rw[DB,DB]
def Gz(d:List Int)(s:Int):Acc:=if AR d s then(En d).2 else a0
def Nk(d:List Int)(s:Int):Int:=if AR d s then((En d).1:Int)else 0
def J8(d:List Int)(s:Int):List Int:=if AR d s then d.take (En d).1 else[]
def Mf(d:List Int)(s:Int):Int:=if AR d s then(if((En d).1:Int)<s then((En d).1:Int)else s)else 0
end
section
def G3(d:List Int)(s:Int)(k:Nat):Int:=if ¬ AR d s then 5 else if 100000<d.length+k then 8 else 0
def CG(d:List Int)(s:Int)(may:Prop)[Decidable may] (b:List Int):Int:=if G3 d s (b.length+5)≠0 then G3 d s (b.length+5)else if may then 0 else 2
def FU(d:List Int)(s:Int)(may:Prop)[Decidable may] (b:List Int):List Int:=if CG d s may b=0 then d++AM b else[]
def GJ(d:List Int)(s:Int)(may:Prop)[Decidable may] (b:List Int):Int:=if CG d s may b=0 then s else 0
theorem UJ{d:List Int}{s:Int}{k:Nat}(a:AR d s)(b:d.length+k<=100000):G3 d s k=0:=by
 unfold G3;rw[if_neg (λg=>g a),if_neg (by omega)]
theorem dG(b:Bal):Cj a0 b=if Ab b then 0 else 2:=by
 have a:Ag a0:=⟨.inr ⟨rfl,rfl⟩,λv c=>(P' c).elim,trivial⟩;unfold Cj;rw[if_neg (λg=>g a)];by_cases h:Ab b
 .rw[if_neg (λg=>g h),if_pos h,if_neg];intro g;unfold Ab at h;unfold Bal.lt a0 at g;simp only at g;omega
 .rw[if_pos h,if_neg h]
theorem eM(v:Vt):Ba a0 v=if Ah v then 0 else 2:=by
 have a:Ag a0:=⟨.inr ⟨rfl,rfl⟩,λv c=>(P' c).elim,trivial⟩;unfold Ba;rw[if_neg (λg=>g a)];by_cases h:Ah v
 .rw[if_neg (λg=>g h),if_pos h,if_neg];intro g;have b:=h.2.1;unfold Ab at b;unfold Bal.lt a0 at g;simp only at g;omega
 .rw[if_pos h,if_neg h]
end
section
open Go.RowKit
section
def By{α:Type}(f:Nat->α)(i:Nat)(x:α):Nat->α:=λj=>if j=i then x else f j
variable{m:Cmd}{α:Type}
theorem Pk(f:Nat->α)(i:Nat)(x:α):By f i x i=x:=if_pos rfl
theorem Pl(f:Nat->α){i j:Nat}(x:α)(h:j≠i):By f i x j=f j:=if_neg h
structure Sto where
 V:Nat->Int
 L:Nat->Int
 C:Nat->Int
 A:Nat->Int
 R:Nat->Bool
def EH:Sto:=⟨λ_=>0,λ_=>0,λ_=>0,λ_=>0,λ_=>false⟩
def ClB(l c a:Int):Prop:=(0<=l/\l<=1048577)/\(l=0->c=0/\a=0)
instance (l c a:Int):Decidable (ClB l c a):=by unfold ClB;exact inferInstance
def VaB(v:Int):Prop:=0<=v/\v<=1073741824
instance (v:Int):Decidable (VaB v):=by unfold VaB;exact inferInstance
def Ik(s:Sto):Prop:=(∀ i,i<8->VaB (s.V i))/\∀ i,i<8->ClB (s.L i) (s.C i) (s.A i)
noncomputable instance (s:Sto):Decidable (Ik s):=Classical.propDecidable _
theorem ZY:Ik EH:=⟨λ_ _=>by unfold VaB EH;simp,λ_ _=>by unfold ClB EH;simp⟩
noncomputable def Nq(s:Sto):Int:=if Ik s then 0 else 5
variable{s:Sto}
theorem eo(h:Ik s):Nq s=0:=if_pos h
theorem KR(h:¬ Ik s):Nq s=5:=if_neg h
def Nh(s:Sto)(m:Cmd):Int:=if m.k=1 then m.v else if m.k=2 then s.V m.n.toNat else 0
def LM(s:Sto)(m:Cmd):Sto :=
 ⟨if m.k=1 then By s.V m.n.toNat m.v else s.V,By s.L m.c.toNat (m.s+1),By s.C m.c.toNat 0,By s.A m.c.toNat (Nh s m),if m.k=3 then By s.R m.n.toNat true else s.R⟩
def dnS(s:Sto)(m:Cmd):Sto:=if m.k≠0/\¬ m.s<s.L m.c.toNat/\s.R m.c.toNat=false then LM s m else s
def dnC(s:Sto)(m:Cmd):Int :=
 if m.k=0 then 0 else if s.L m.c.toNat=m.s+1 then s.C m.c.toNat else if m.s<s.L m.c.toNat then 7 else if s.R m.c.toNat=true then 11 else 0
def dnA(s:Sto)(m:Cmd):Int :=
 if m.k=0 then 0 else if s.L m.c.toNat=m.s+1 then s.A m.c.toNat else if m.s<s.L m.c.toNat then 0 else if s.R m.c.toNat=true then 0 else Nh s m
noncomputable def doE(s:Sto)(m:Cmd):Int:=if Ik s then m.e else 5
noncomputable def doS(s:Sto)(m:Cmd):Sto:=if doE s m=0 then dnS s m else EH
noncomputable def doC(s:Sto)(m:Cmd):Int:=if doE s m=0 then dnC s m else 0
noncomputable def doA(s:Sto)(m:Cmd):Int:=if doE s m=0 then dnA s m else 0
theorem bR(h:Ik s):doE s m=m.e:=if_pos h
theorem RT(h:doE s m=0):doS s m=dnS s m:=if_pos h
theorem go(h:doE s m=0):doC s m=dnC s m:=if_pos h
theorem gn(h:doE s m=0):doA s m=dnA s m:=if_pos h
theorem XS(h:doE s m≠0):doS s m=EH:=if_neg h
theorem XO(h:doE s m≠0):doC s m=0:=if_neg h
theorem TY(h:m.e=0):(0<=m.k/\m.k<=3)/\InC m.c m.s m.n m.v:=De h
theorem Ub(b:Ik s)(h:m.e=0):Ik (dnS s m):=by
 obtain⟨f,d⟩:=TY h;unfold InC at d;unfold dnS;split
 .refine⟨λi a=>?_,λi a=>?_⟩
  .simp only[LM];split
   .unfold By;split
    .unfold VaB;omega
    .exact b.1 i a
   .exact b.1 i a
  .simp only[LM];by_cases e:i=m.c.toNat
   .subst e;rw[Pk,Pk,Pk];unfold ClB;omega
   .rw[Pl _ _ e,Pl _ _ e,Pl _ _ e];exact b.2 i a
 .exact b
end
end
section
def Jo(Q:Nat->Bool):Nat:=(Q 0).toNat+(Q 1).toNat+(Q 2).toNat+(Q 3).toNat+(Q 4).toNat
theorem Gu(Q R:Nat->Bool)(d:3<=Jo Q)(e:3<=Jo R):∃ q,q<5/\Q q=true/\R q=true:=by
 apply pT;intro h;have a:∀ q,q<5->(Q q).toNat+(R q).toNat<=1:=by
  intro q f;cases b:Q q<;>cases c:R q<;>simp;exact h ⟨q,f,b,c⟩
 have g:=a 0 (by omega);have b:=a 1 (by omega);have c:=a 2 (by omega);have i:=a 3 (by omega);have j:=a 4 (by omega);unfold Jo at d e;omega
section
variable{γ:Type}
section
def Ch(H:Nat->Nat->Int->γ->Prop)(s:Nat)(b:Int)(c:γ):Prop:=∃ Q:Nat->Bool,3<=Jo Q/\∀ q,q<5->Q q=true->H q s b c
def Et(H:Nat->Nat->Int->γ->Prop)(P:Nat->Int)(s:Nat)(b:Int)(c:γ):Prop :=
 ∃ Q:Nat->Bool,3<=Jo Q/\(∀ q,q<5->Q q=true->b<=P q) /\
  ((∀ q,q<5->Q q=true->∀ b' c',H q s b' c'->b<=b') \/
   ∃ b0,b0<b/\(∃ q,q<5/\Q q=true/\H q s b0 c)/\∀ q,q<5->Q q=true->∀ b' c',H q s b' c'->b'<b->b'<=b0)
structure PInv(H:Nat->Nat->Int->γ->Prop)(P:Nat->Int):Prop where
 le:∀ n s b c,H n s b c->0<b/\b<=P n
 uniq:∀ n n' s b c c',H n s b c->H n' s b c'->c=c'
 safe:∀ n s b c,H n s b c->Et H P s b c
variable{H:Nat->Nat->Int->γ->Prop}{P:Nat->Int}{b:Int}{c:γ}{n s:Nat}
theorem PInv.later(h:PInv H P){s:Nat}{b:Int}{c:γ}(p:Ch H s b c):∀ (m:Nat) (b2:Int) (c2:γ) (n:Nat),b2.toNat=m->b<b2->H n s b2 c2->c2=c:=by
 intro m;induction m using Nat.strongRecOn with
 | ind m ih =>
  intro b2 c2 n v i l;have w:=(h.le n s b2 c2 l).1;obtain⟨Q,r,u,f⟩:=h.safe n s b2 c2 l;obtain⟨o,e,g⟩:=p;obtain⟨q,j,d,k⟩:=Gu Q o r e;have a:=g q j k;rcases f with f|⟨b0,hb0,⟨q0,hq0,hq0Q,hv0⟩,hmax⟩
  .have:=f q j d b c a;omega
  .have hle:=hmax q j d b c a i;have t:=(h.le q0 s b0 c2 hv0).1;rcases(by omega:b=b0\/b<b0)with rfl|hlt0
   .exact h.uniq q0 q s b c2 c hv0 a
   .exact ih b0.toNat (by omega) b0 c2 q0 rfl hlt0 hv0
theorem PInv.agree(h:PInv H P){s:Nat}{d e:Int}{f g:γ}(j:Ch H s d f)(k:Ch H s e g):f=g:=by
 have a:∀ {b:Int} {c:γ},Ch H s b c->∃ n,H n s b c:=by
  rintro b c ⟨Q,l,t⟩;obtain⟨q,u,i,_⟩:=Gu Q Q l l;exact⟨q,t q u i⟩
 obtain⟨m,p⟩:=a j;obtain⟨o,r⟩:=a k;rcases(by omega:d<e\/d=e\/e<d)with hlt|rfl|hlt
 .exact(h.later j _ e g o rfl hlt r).symm
 .exact h.uniq m o s d f g p r
 .exact h.later k _ d f m rfl hlt p
def upP(P:Nat->Int)(n:Nat)(b:Int):Nat->Int:=λi=>if i=n then b else P i
theorem ME(h:P n<=b)(q:Nat):P q<=upP P n b q:=by
 unfold upP;split
 .rename_i e;rw[e];exact h
 .exact mc _
theorem Et.up(h:Et H P s b c){n:Nat}{d:Int}(i:P n<=d):Et H (upP P n d) s b c:=by
 obtain⟨Q,f,e,g⟩:=h;exact⟨Q,f,λq j a=>mB (e q j a) (ME i q),g⟩
theorem PInv.au(h:PInv H P){n:Nat}{b:Int}(e:P n<=b):PInv H (upP P n b) :=
 ⟨λm s a c d=>⟨(h.le m s a c d).1,mB (h.le m s a c d).2 (ME e m)⟩,h.uniq,λm s a c d=>(h.safe m s a c d).up e⟩
def fR(H:Nat->Nat->Int->γ->Prop)(n s:Nat)(b:Int)(c:γ):Nat->Nat->Int->γ->Prop:=λn' s' b' c'=>H n' s' b' c'\/(n'=n/\s'=s/\b'=b/\c'=c)
theorem Et.cl(h:Et H P s b c){n t:Nat}{f:Int}{o:γ}(m:P n<=f):Et (fR H n t f o) (upP P n f) s b c:=by
 obtain⟨Q,p,j,k⟩:=h;refine⟨Q,p,λq d a=>mB (j q d a) (ME m q),?_⟩;rcases k with k|⟨b0,hb0,⟨q0,hq0,hq0Q,hv0⟩,hmax⟩
 .left;intro q d a g i e;rcases e with e|⟨rfl,rfl,rfl,rfl⟩
  .exact k q d a g i e
  .exact mB (j q d a) m
 .right;refine⟨b0,hb0,⟨q0,hq0,hq0Q,.inl hv0⟩,?_⟩;intro q d a g i e l;rcases e with e|⟨rfl,rfl,rfl,rfl⟩
  .exact hmax q d a g i e l
  .have:=j q d a;omega
theorem PInv.cl(h:PInv H P){n s:Nat}{b:Int}{c:γ}(a:P n<=b)(e:0<b)(f:Et H P s b c)(d:∀ m c',H m s b c'->c'=c):PInv (fR H n s b c) (upP P n b):=by
 refine⟨?_,?_,?_⟩
 .rintro m t b' c' (hv|⟨rfl,rfl,rfl,rfl⟩)
  .exact⟨(h.le m t b' c' hv).1,mB (h.le m t b' c' hv).2 (ME a m)⟩
  .exact⟨e,by unfold upP;rw[if_pos rfl];exact mc _⟩
 .rintro m m' t b' c' c2 (hv|⟨_,e1,e2,e3⟩) (hv'|⟨_,e1',e2',e3'⟩)
  .exact h.uniq m m' t b' c' c2 hv hv'
  .subst e1' e2' e3';exact d m c' hv
  .subst e1 e2 e3;exact(d m' c2 hv').symm
  .rw[e3,e3']
 .rintro m t b' c' (hv|⟨rfl,rfl,rfl,rfl⟩)
  .exact(h.safe m t b' c' hv).cl a
  .exact f.cl a
end
end
end
section
def upN{α:Type}(f:Nat->α)(n:Nat)(x:α):Nat->α:=λi=>if i=n then x else f i
theorem Db{α:Type}(f:Nat->α)(n:Nat)(x:α):upN f n x n=x:=if_pos rfl
theorem Dy{α:Type}(f:Nat->α){n i:Nat}(x:α)(h:i≠n):upN f n x i=f i:=if_neg h
end
section
theorem IC{l:List Vt}(h:BL l)(s:Int)(v:Vt):BK (Ae l s) v<=(decide (v∈l/\v.bt=s)).toNat:=by
 induction l with
 | nil=>simp[BK,Ae]
 | cons x xs c =>
  obtain⟨f,d⟩:=h;have c:=c d;have e:BK (Ae (x::xs) s) v=(if x.bt=s/\x=v then 1 else 0)+BK (Ae xs s) v:=by
   unfold BK Ae;rw[List.filter_cons];by_cases a:x.bt=s
   .rw[if_pos (by simpa using a),pF];by_cases b:x=v
    .have h1':v.bt=s:=b▸a;simp[b,h1'];omega
    .simp[a,b]
   .rw[if_neg (by simpa using a)];simp[a]
  rw[e];by_cases a:x.bt=s/\x=v
  .have b:¬ (v∈xs/\v.bt=s):=λg=>by
    have:=f v g.1;rw[<- a.2]at this
    omega
   rw[E' b]at c
   rw[if_pos a,O' ⟨a.2▸M',a.2▸a.1⟩];simp at c ⊢;omega
  .rw[if_neg a];by_cases b:v∈xs/\v.bt=s
   .rw[O' b]at c
    rw[O' ⟨I' _ b.1,b.2⟩];omega
   .rw[E' b]at c
    simp at c ⊢;omega
theorem Cy(l m:List Vt)(v:Vt):BK (l++m) v=BK l v+BK m v:=by unfold BK;rw[pf]
end
section
def Be:Bal:=⟨0,0⟩
def RH:Cmd:=⟨0,0,0,0,0⟩
def vtz:Vt:=⟨0,Be,RH⟩
def Eh:Acc:=⟨Be,[]⟩
structure Let where
 kind:Nat
 src:Nat
 dst:Nat
 hZ:Bal
 cl:Vt
 ln:List Vt
 bt:Nat
 gC:List Cmd
def BD(k:Nat):Let:=⟨k,0,0,Be,vtz,[],0,[]⟩
inductive Pend where
 | began (b:Bal) (vs:List Vt)
 | prom (to:Nat) (b:Bal) (vs:List Vt)
 | voted (to:Nat) (v:Vt)
 | ew (to:Nat) (b:Bal)
 | prop (v:Vt)
 | askNews (to:Nat)
 | start
 | tell (to:Nat) (bt:Nat)
structure Rnd where
 hZ:Bal
 qk:Nat->Bool
 an:Nat->Acc
 bw:Nat->Nat
 next:Nat
 fv:List Cmd
def dU:Rnd:=⟨Be,λ_=>false,λ_=>Eh,λ_=>0,0,[]⟩
structure Tol where
 n:Nat
 c:Int
 s:Int
 e:Int
 a:Int
structure Nod where
 up:Bool
 d:List Int
 sy:Int
 bad:Nat
 vo:Acc
 bu:List Pend
 dc:Int
 bn:Rnd
 ae:List Cmd
 done:Nat
 lp:Sto
 av:List Cmd
 bN:Cmd->Option Bal
structure Meet where
 ab:Nat->Nod
 br:List Let
 fa:List Tol
def Nod.bare(N:Nod)(up:Bool)(d:List Int)(sy:Int)(vo:Acc)(p:List Pend):Nod :=
 ⟨up,d,sy,N.bad,vo,p,0,dU,[],0,EH,[],λ_=>none⟩
def Cx:Nod:=⟨true,[],0,0,Eh,[],0,dU,[],0,EH,[],λ_=>none⟩
def As:Meet:=⟨λ_=>Cx,[],[]⟩
def Meet.put(M:Meet)(i:Nat)(N:Nod):Meet:={ M with ab:=upN M.ab i N }
def Nod.au(N:Nod)(b:Bal):Nod × List Vt × Int :=
 if Cj N.vo b≠0 then(N,[],Cj N.vo b)
 else if b=N.vo.p then({ N with vo:=⟨b,N.vo.vs⟩ },N.vo.vs,0)
 else if CG N.d N.sy (Ab b) (Bu b)≠0 then(N,[],CG N.d N.sy (Ab b) (Bu b))
 else({ N with d:=FU N.d N.sy (Ab b) (Bu b),sy:=GJ N.d N.sy (Ab b) (Bu b),vo:=⟨b,N.vo.vs⟩ },N.vo.vs,0)
def Nod.cl(N:Nod)(v:Vt):Nod × Int :=
 if Ba N.vo v≠0 then(N,Ba N.vo v)
 else if v∈N.vo.vs then({ N with vo:=⟨v.b,Bo N.vo.vs v⟩ },0)
 else if CG N.d N.sy (Ah v) (Bk v)≠0 then(N,CG N.d N.sy (Ah v) (Bk v))
 else({ N with d:=FU N.d N.sy (Ah v) (Bk v),sy:=GJ N.d N.sy (Ah v) (Bk v),vo:=⟨v.b,Bo N.vo.vs v⟩ },0)
def Nod.wait(N:Nod)(p:Pend):Nod:={ N with bu:=N.bu++[p] }
def Nod.ew(N:Nod)(to:Nat)(e:Int):Nod:=if e=7 then N.wait (.ew to N.vo.p)else N
def Nod.leads(N:Nod):Bool:=decide (N.bn.hZ≠Be/\N.bn.hZ=N.vo.p)
def Rnd.qA(r:Rnd):Bool:=decide (5<2*Jo r.qk)
def Df(a:Acc):List Vt->Acc
 | []=>a
 | v::l=>Df (if Ba a v=0 then⟨BI a v,Br a v⟩else a) l
def Rnd.qM(r:Rnd)(j:Nat)(vs:List Vt):Rnd:={ r with qk:=upN r.qk j true,an:=upN r.an j (Df ⟨r.hZ,vs⟩ (r.an j).vs) }
def Rnd.ia(r:Rnd):List Acc:=[r.an 0,r.an 1,r.an 2,r.an 3,r.an 4]
def FB:Nat->Rnd->List Cmd->List Cmd
 | 0,_,l=>l
 | k+1,r,l=>if CW r.ia (l.length:Int)=0 then FB k r (l++[CN r.ia (l.length:Int)])else l
def Nod.qy(N:Nod):Nod:={ N with ae:=FB 41 N.bn N.ae }
def Nod.ie(N:Nod)(bt:Nat)(gC:List Cmd):Nod:={ N with ae:=N.ae++gC.drop (N.ae.length-bt) }
def Nod.count(N:Nod)(j:Nat)(v:Vt):Nod :=
 if v.b≠N.bn.hZ then N
 else if Ba (N.bn.an j) v≠0 then N
 else Nod.qy { N with bn:={ N.bn with an:=upN N.bn.an j ⟨BI (N.bn.an j) v,Br (N.bn.an j) v⟩ } }
def Hf(q:List Cmd):List Cmd->List Cmd
 | []=>q
 | c::l=>Hf (if q.length<40/\c∉q then q++[c]else q) l
def Nod.eb(N:Nod)(gC:List Cmd):Nod:=if N.leads then{ N with bn:={ N.bn with fv:=Hf N.bn.fv gC } }else N
def BU(f:Cmd->Option Bal)(c:Cmd)(b:Option Bal):Cmd->Option Bal:=λx=>if x=c then b else f x
def Nod.want(N:Nod)(c:Cmd):Nod:=if(N.bN c).isSome then N else{ N with av:=N.av++[c],bN:=BU N.bN c (some Be) }
def Nod.hU(N:Nod)(c:Cmd):Nod:=if(N.bN c).isSome then{ N with av:=N.av.erase c,bN:=BU N.bN c none }else N
def Bb(b:Bal)(f:Cmd->Option Bal):List Cmd->List Cmd × (Cmd->Option Bal)
 | []=>([],f)
 | c::l=>if(f c).getD Be≠b then(c::(Bb b (BU f c (some b)) l).1,(Bb b (BU f c (some b)) l).2)else Bb b f l
def Nod.take(N:Nod)(l:Let):Nod :=
 match l.kind with
 | 0=>if(N.au l.hZ).2.2≠0 then N.ew l.src (N.au l.hZ).2.2 else(N.au l.hZ).1.wait (.prom l.src l.hZ (N.au l.hZ).2.1)
 | 1=>let K:=N.ie 0 l.gC
  if K.leads=false\/l.hZ≠K.bn.hZ\/K.bn.qk l.src=true then K
  else Nod.qy { K with bn:={ K.bn.qM l.src l.ln with bw:=upN K.bn.bw l.src l.gC.length } }
 | 2=>{ N with dc:=max N.dc l.hZ.r }
 | 3=>if(N.cl l.cl).2≠0 then N.ew l.src (N.cl l.cl).2 else(N.cl l.cl).1.wait (.voted l.src l.cl)
 | 4=>N.count l.src l.cl
 | 5=>if N.ae.length<l.bt then N.wait (.askNews l.src)else N.ie l.bt l.gC
 | 6=>let K:=N.eb l.gC
  if l.bt<K.ae.length then K.wait (.tell l.src l.bt)else K
 | _=>N
def Meet.ni(M:Meet)(l:Let):Meet:=if(M.ab l.dst).up then M.put l.dst ((M.ab l.dst).take l)else M
def Nod.ov(N:Nod)(bt:Nat):Option Cmd :=
 if BW (N.bn.ia.map (·.vs)) (bt:Int)≠0 then none
 else if DV (N.bn.ia.map (·.vs)) (bt:Int)then some (Gx (N.bn.ia.map (·.vs)) (bt:Int))
 else N.bn.fv.find? λc=>decide (c∉N.ae)
def Nod.cF(N:Nod):Nod :=
 if N.leads=false\/N.bn.qA=false\/N.ae.length<N.bn.next then N
 else match N.ov N.ae.length with
  | none=>N
  | some c =>
   if(N.cl ⟨(N.ae.length:Int),N.bn.hZ,c⟩).2≠0 then N
   else Nod.wait { (N.cl ⟨(N.ae.length:Int),N.bn.hZ,c⟩).1 with bn:={ N.bn with next:=N.ae.length+1 } } (.prop ⟨(N.ae.length:Int),N.bn.hZ,c⟩)
def Nod.lead(N:Nod)(i:Nat):Nod :=
 let b:Bal:=⟨max N.dc N.vo.p.r+1,(i:Int)⟩
 if(N.au b).2.2≠0 then N
 else Nod.wait { (N.au b).1 with bn:=⟨b,λ_=>false,λ_=>Eh,λ_=>N.ae.length,0,[]⟩ } (.began b (N.au b).2.1)
def Nod.jv(N:Nod)(k:Int):Nod:=if Gj N.d N.sy k≠0 then N else N.bare false (Ky N.d N.sy k) (Kz N.d N.sy k) Eh []
def Nod.start(N:Nod):Nod :=
 if CZ N.d N.sy≠0 then N
 else if Nk N.d N.sy<(N.d.length:Int)then N.bare true (J8 N.d N.sy) (Mf N.d N.sy) (Gz N.d N.sy) [.start]
 else N.bare true N.d N.sy (Gz N.d N.sy) [.start]
def Meet.move(M:Meet)(k:Int)(at_:Nat):Meet :=
 match M.br[at_%M.br.length]? with
 | none=>M
 | some l =>
  let A:=if k≠6 then{ M with br:=M.br.eraseIdx (at_%M.br.length) }else M
  if k≠5 then A.ni l else A
def Meet.qD(M:Meet):Meet:=M.br.foldl (λM l=>M.ni l) { M with br:=[] }
end
section
open Go.RowKit
section
def stA(s:Sto):Array Value:=#[.int .i64 (s.V 0),.int .i64 (s.V 1),.int .i64 (s.V 2),.int .i64 (s.V 3),.int .i64 (s.V 4),.int .i64 (s.V 5),.int .i64 (s.V 6),.int .i64 (s.V 7),.int .i64 (s.L 0),.int .i64 (s.L 1),.int .i64 (s.L 2),.int .i64 (s.L 3),.int .i64 (s.L 4),.int .i64 (s.L 5),.int .i64 (s.L 6),.int .i64 (s.L 7),.int .i64 (s.C 0),.int .i64 (s.A 0),.int .i64 (s.C 1),.int .i64 (s.A 1),.int .i64 (s.C 2),.int .i64 (s.A 2),.int .i64 (s.C 3),.int .i64 (s.A 3),.int .i64 (s.C 4),.int .i64 (s.A 4),.int .i64 (s.C 5),.int .i64 (s.A 5),.int .i64 (s.C 6),.int .i64 (s.A 6),.int .i64 (s.C 7),.int .i64 (s.A 7),.bool (s.R 0),.bool (s.R 1),.bool (s.R 2),.bool (s.R 3),.bool (s.R 4),.bool (s.R 5),.bool (s.R 6),.bool (s.R 7)]
theorem kJ(s:Sto)(i:Nat)(h:i<8):(stA s)[i]?=some (.int .i64 (s.V i)):=by
 rcases(by omega:i=0\/i=1\/i=2\/i=3\/i=4\/i=5\/i=6\/i=7)with rfl|rfl|rfl|rfl|rfl|rfl|rfl|rfl<;>rfl
theorem kH(s:Sto)(i:Nat)(h:i<8):(stA s)[8+i]?=some (.int .i64 (s.L i)):=by
 rcases(by omega:i=0\/i=1\/i=2\/i=3\/i=4\/i=5\/i=6\/i=7)with rfl|rfl|rfl|rfl|rfl|rfl|rfl|rfl<;>rfl
theorem kG(s:Sto)(i:Nat)(h:i<8):(stA s)[16+i*2]?=some (.int .i64 (s.C i)):=by
 rcases(by omega:i=0\/i=1\/i=2\/i=3\/i=4\/i=5\/i=6\/i=7)with rfl|rfl|rfl|rfl|rfl|rfl|rfl|rfl<;>rfl
theorem kD(s:Sto)(i:Nat)(h:i<8):(stA s)[16+i*2+1]?=some (.int .i64 (s.A i)):=by
 rcases(by omega:i=0\/i=1\/i=2\/i=3\/i=4\/i=5\/i=6\/i=7)with rfl|rfl|rfl|rfl|rfl|rfl|rfl|rfl<;>rfl
def Bs(w:World)(g:Nat)(s:Sto):Prop:=w.heap[g]?=some (.cells (stA s) 124)
variable{g:Nat}{s:Sto}{w:World}
theorem Bs.sF(h:Bs w g s)(i:Nat)(a:i<8):w.cell? ⟨g,i,none⟩=some (.int .i64 (s.V i)):=(cell_of_row _ _ i _ _ _ h).trans (kJ s i a)
theorem Bs.sE(h:Bs w g s)(i:Nat)(a:i<8):w.cell? ⟨g,8+i,none⟩=some (.int .i64 (s.L i)):=(cell_of_row _ _ (8+i) _ _ _ h).trans (kH s i a)
theorem Bs.sD(h:Bs w g s)(i:Nat)(a:i<8):w.cell? ⟨g,16+i*2,none⟩=some (.int .i64 (s.C i)):=(cell_of_row _ _ (16+i*2) _ _ _ h).trans (kG s i a)
theorem Bs.sC(h:Bs w g s)(i:Nat)(a:i<8):w.cell? ⟨g,16+i*2+1,none⟩=some (.int .i64 (s.A i)):=(cell_of_row _ _ (16+i*2+1) _ _ _ h).trans (kD s i a)
theorem ig(a b c d:Int):∀ w,(binOp .neq 121 (.agg #[.int .i64 a,.int .i64 b]) (.agg #[.int .i64 c,.int .i64 d])).run prog w=.ok (.bool (!decide (a=c/\b=d))) w:=by
 intro w;rw[run_neq_struct,run_equalIn_agg w 9999 _ _ _ (by kernel_rfl) (by kernel_rfl)];unfold Program.fieldsOf;rw[underlying121];have e:=underlying3;have f:=underlying27;simp[Op.eqFields,go_sem,e,f]
 repeat' split
 all_goals simp_all
theorem dj(a b:Int):∀ w,(binOp .neq 121 (.agg #[.int .i64 a,.int .i64 b]) (.agg #[.int .i64 0,.int .i64 0])).run prog w=.ok (.bool (!decide (a=0/\b=0))) w:=ig a b 0 0
def vaL(f:Nat->Int):List Value:=[.int .i64 (f 0),.int .i64 (f 1),.int .i64 (f 2),.int .i64 (f 3),.int .i64 (f 4),.int .i64 (f 5),.int .i64 (f 6),.int .i64 (f 7)]
def vaA(f:Nat->Int):Array Value:=(vaL f).toArray
theorem aU(f:Nat->Int)(j:Nat)(u:Value)(h:(vaL f)[j]?=some u):j<8/\u=.int .i64 (f j):=by
 have a:j<8:=(V'.1 h).1;refine⟨a,?_⟩;rcases(by omega:j=0\/j=1\/j=2\/j=3\/j=4\/j=5\/j=6\/j=7)with rfl|rfl|rfl|rfl|rfl|rfl|rfl|rfl<;>(simp[vaL]at h;exact h.symm)
theorem Bs.sw(h:Bs w g s):w.rangeAt g 0 (vaL s.V):=by
 intro j u b;obtain⟨a,rfl⟩:=aU _ _ _ b;rw[mR];exact h.sF j a
theorem Bs.ss(h:Bs w g s):w.rangeAt g 8 (vaL s.L):=by
 intro j u b;obtain⟨a,rfl⟩:=aU _ _ _ b;exact h.sE j a
theorem jc(f:Nat->Int):(prog.info? 119).map (·.size)=some (vaL f).length:=by show _=some 8;kernel_rfl
theorem GI{d:Array Oper}{c:List Oper}{op:Oper}{a:Act}{Q:Exit->Act->World->Prop}(e:op.guard=none)(x:Operand)(i:op.op=.load 119 x)(b o:Nat)(j:a.eval x=.pointer (some ⟨b,o,none⟩))(f:Nat->Int)(g:w.rangeAt b o (vaL f))(h:wpList prog d Q c (a.put op.dst (.agg (vaA f))) w):wpList prog d Q (op::c) a w :=
 wpList_load_mid e 119 x i b o j (vaL f) _ g underlying119 rfl (jc f) h
theorem UW(f:Nat->Int)(i:Nat)(a:i<8)(w:World):(Instr.index 119 (.agg (vaA f)) (.int .i64 (i:Int))).run prog w=.ok (.int .i64 (f i)) w:=by
 rcases(by omega:i=0\/i=1\/i=2\/i=3\/i=4\/i=5\/i=6\/i=7)with rfl|rfl|rfl|rfl|rfl|rfl|rfl|rfl<;>kernel_rfl
structure NX where
 tape:S3
 ln:S3
 synced:S3
 fv:S3
 ae:S3
 av:S3
 hv:Nat->S3
 bN:Option Nat
def AF(i ob:Nat)(p:Nod)(x:NX):Array Value:=([iv (i:Int),.bool p.up,S3.v x.tape,iv p.sy,iv (p.bad:Int),pt ob 0,iv p.vo.p.r,iv p.vo.p.n,S3.v x.ln,S3.v x.synced,iv p.dc,iv p.bn.hZ.r,iv p.bn.hZ.n,.bool (p.bn.qk 0),.bool (p.bn.qk 1),.bool (p.bn.qk 2),.bool (p.bn.qk 3),.bool (p.bn.qk 4),iv ((p.bn.an 0).p.r),iv ((p.bn.an 0).p.n),S3.v (x.hv 0),iv ((p.bn.an 1).p.r),iv ((p.bn.an 1).p.n),S3.v (x.hv 1),iv ((p.bn.an 2).p.r),iv ((p.bn.an 2).p.n),S3.v (x.hv 2),iv ((p.bn.an 3).p.r),iv ((p.bn.an 3).p.n),S3.v (x.hv 3),iv ((p.bn.an 4).p.r),iv ((p.bn.an 4).p.n),S3.v (x.hv 4),iv (p.bn.bw 0:Int),iv (p.bn.bw 1:Int),iv (p.bn.bw 2:Int),iv (p.bn.bw 3:Int),iv (p.bn.bw 4:Int),iv (p.bn.next:Int),S3.v x.fv,S3.v x.ae,iv (p.done:Int)]++((stA p.lp).toList++[S3.v x.av,.map x.bN])).toArray
def FA(l:Let)(vs wh:S3):Array Value:=#[iv (l.kind:Int),iv (l.src:Int),iv (l.dst:Int),iv l.hZ.r,iv l.hZ.n,iv l.cl.bt,iv l.cl.b.r,iv l.cl.b.n,iv l.cl.w.k,iv l.cl.w.c,iv l.cl.w.s,iv l.cl.w.n,iv l.cl.w.v,S3.v vs,iv (l.bt:Int),S3.v wh]
def FT(t:Tol):List Value:=[iv (t.n:Int),iv t.c,iv t.s,iv t.e,iv t.a]
def cmV(c:Cmd):List Value:=[iv c.k,iv c.c,iv c.s,iv c.n,iv c.v]
def cmL(l:List Cmd):List Value:=l.flatMap cmV
theorem Cu(l m:List Cmd):cmL (l++m)=cmL l++cmL m:=by simp[cmL]
theorem BJ(l:List Cmd):(cmL l).length=l.length*5:=by
 induction l with
 | nil=>rfl
 | cons c l ih=>rw[cmL,oh,H'];show 5+(cmL l).length=_;rw[ih,mI];omega
theorem OM(l:List Cmd):∀ u∈cmL l,u.oneCell'=true:=by
 intro u b;obtain⟨c,_,a⟩:=oQ.1 b;simp only[cmV,mn,P',or_false]at a;rcases a with rfl|rfl|rfl|rfl|rfl<;>rfl
theorem OL{l:List Cmd}{k:Nat}{c:Cmd}(h:l[k]?=some c){j:Nat}{u:Value}(a:(cmV c)[j]?=some u):(cmL l)[5*k+j]?=some u:=by
 induction l generalizing k with
 | nil=>cases h
 | cons d l ih =>
  rw[cmL,oh];cases k with
  | zero =>
   simp only[nu,X']at h;subst h;rw[mr (by have:=(V'.1 a).1;omega)];simpa using a
  | succ k =>
   rw[mw (by show 5<=_;omega),show 5*(k+1)+j-(cmV d).length=5*k+j by show 5*(k+1)+j-5=_;omega];exact ih (by simpa using h)
theorem Lj(l:List Cmd)(k:Nat):(cmL l).drop (5*k)=cmL (l.drop k):=by
 induction l generalizing k with
 | nil=>simp[cmL]
 | cons c l ih =>
  cases k with
  | zero=>simp
  | succ k =>
   show(cmV c++cmL l).drop (5*(k+1))=cmL (l.drop k);rw[<- ih k,List.drop_append,show(cmV c).drop (5*(k+1))=[]from m8 (by show 5<=_;omega),nz,show 5*(k+1)-(cmV c).length=5*k by show 5*(k+1)-5=_;omega]
def Frz(g:Gh)(x:S3):Prop:=∀ a,x.a=some a->g.t a.block=.z
structure FSl(g:Gh)(w:World)(x:S3)(l:List Int):Prop where
 s:Sl w x.v l
 z:l≠[]->Frz g x
structure FSv(g:Gh)(w:World)(x:S3)(l:List Vt):Prop where
 s:Sv w x.v l
 z:l≠[]->Frz g x
end
section
variable{B:Nat}{T:List Tg}{g g':Gh}{w w':World}
section
variable{b i nb ob r:Nat}{bs:List Nat}{f:Cmd->Option Bal}{l:List Let}{x:S3}
theorem Cg.zc(c:Cg B T g w g' w')(e:Tg.z∉T){b:Nat}(d:b<w.heap.size)(a:g.t b=.z):w'.heap[b]?=w.heap[b]?:=c.same b d (by rw[a];exact e) (λh=>by rw[a]at h;cases h)
theorem FSl.ch{l:List Int}(h:FSl g w x l)(c:Cg B T g w g' w')(v:Tg.z∉T:=by simp):FSl g' w' x l:=by
 obtain⟨⟨⟨a,r,q,o,p,j⟩,k,m⟩,s⟩:=h;simp only[Value.slice.injEq]at q;obtain⟨rfl,e,rfl⟩:=q;rcases j with j|⟨b,off,ha,hbs,hcell⟩
 .exact⟨⟨⟨_,_,by simp only[Value.slice.injEq,and_true,true_and];exact e,o,p,.inl j⟩,k,m⟩,λh=>absurd j h⟩
 .have hne:∀ _:l≠[],g.t b=.z:=λh=>s h _ ha;by_cases f:l=[]
  .exact⟨⟨⟨_,_,by simp only[Value.slice.injEq,and_true,true_and];exact e,o,p,.inl f⟩,k,m⟩,λh=>absurd f h⟩
  .refine⟨⟨⟨_,_,by simp only[Value.slice.injEq,and_true,true_and];exact e,o,p,.inr ⟨b,off,ha,Z' hbs c.size,λi u=>?_⟩⟩,k,m⟩,λ_ y d=>?_⟩
   .rw[World.cell?_of_block (w:=w) (c.zc v hbs (hne f))];exact hcell i u
   .rw[ha]at d;simp only[X']at d;subst d;rw[c.tag hbs (λh=>absurd ((hne f).symm.trans h) (by simp))];exact hne f
theorem FSv.ch{l:List Vt}(h:FSv g w x l)(c:Cg B T g w g' w')(A:Tg.z∉T:=by simp):FSv g' w' x l:=by
 obtain⟨⟨⟨a,q,p,m,o,f⟩,k⟩,r⟩:=h;simp only[Value.slice.injEq]at p;obtain⟨rfl,e,rfl⟩:=p;rcases f with f|⟨b,off,ha,hbs,hcell⟩
 .exact⟨⟨⟨_,_,by simp only[Value.slice.injEq,and_true,true_and];exact e,m,o,.inl f⟩,k⟩,λh=>absurd f h⟩
 .by_cases hl:l=[]
  .exact⟨⟨⟨_,_,by simp only[Value.slice.injEq,and_true,true_and];exact e,m,o,.inl hl⟩,k⟩,λh=>absurd hl h⟩
  .have hzb:g.t b=.z:=r hl _ ha;refine⟨⟨⟨_,_,by simp only[Value.slice.injEq,and_true,true_and];exact e,m,o,.inr ⟨b,off,ha,Z' hbs c.size,λi v s j u y=>?_⟩⟩,k⟩,λ_ C d=>?_⟩
   .rw[World.cell?_of_block (w:=w) (c.zc A hbs hzb)];exact hcell i v s j u y
   .rw[ha]at d;simp only[X']at d;subst d;rw[c.tag hbs (λh=>absurd (hzb.symm.trans h) (by simp))];exact hzb
structure Rc(g:Gh)(w:World)(x:S3)(l:List Cmd):Prop where
 len:x.n=l.length
 cap:x.n<=x.c
 rP:x.a=none->x.c=0
 ex:l=[]\/∃ b off,x.a=some ⟨b,off,none⟩/\b<w.heap.size/\(∀ j u,(cmL l)[j]?=some u->w.cell? ⟨b,off+j,none⟩=some u)/\(g.t b=.z\/off+5*l.length<=g.k b)
theorem Rc.nil(g:Gh)(w:World):Rc g w s30 []:=⟨rfl,A' _,λ_=>rfl,.inl rfl⟩
theorem Rc.ch{l:List Cmd}(h:Rc g w x l)(c:Cg B T g w g' w')(d:Tg.z∉T:=by simp):Rc g' w' x l:=by
 refine⟨h.len,h.cap,h.rP,?_⟩;rcases h.ex with h1|⟨b,off,h1,h2,h3,h4⟩
 .exact .inl h1
 .refine .inr ⟨b,off,h1,Z' h2 c.size,λj u a=>?_,?_⟩
  .rcases h4 with h4|h4
   .rw[World.cell?_of_block (w:=w) (c.zc d h2 h4)];exact h3 j u a
   .have hjl:j<(cmL l).length:=(V'.1 a).1;rw[BJ]at hjl
    rw[c.rm b h2 (off+j) (by omega)];exact h3 j u a
  .rcases h4 with h4|h4
   .exact .inl ((c.tag h2 (by rw[h4];intro h;cases h)).trans h4)
   .exact .inr (me h4 (c.rp b h2))
structure Box(g:Gh)(w:World)(b:Nat)(cs:Array Value)(t:TypeId):Prop where
 r:w.heap[b]?=some (.cells cs t)
 z:g.t b=.z
theorem Box.ch{a:Array Value}{t:TypeId}(h:Box g w b a t)(c:Cg B T g w g' w')(d:Tg.z∉T:=by simp):Box g' w' b a t:=⟨(c.zc d (rl h.r) h.z).trans h.r,(c.tag (rl h.r) (by rw[h.z];intro h;cases h)).trans h.z⟩
def CM(g:Gh)(w:World)(b:Nat)(l:Let):Prop:=∃ vs wh,Box g w b (FA l vs wh) 179/\FSv g w vs l.ln/\Rc g w wh l.gC
theorem CM.ch{l:Let}(h:CM g w b l)(c:Cg B T g w g' w')(a:Tg.z∉T:=by simp):CM g' w' b l:=let ⟨vs,wh,h1,h2,h3⟩:=h;⟨vs,wh,h1.ch c a,h2.ch c a,h3.ch c a⟩
def KV(g:Gh)(w:World)(nb:Nat)(v:Value):Pend->Prop
 | .began b vs=>∃ b1 b2 b3 x,v=.func (.func 96) #[] #[pt b1 0,pt b2 0,pt b3 0]/\Box g w b1 #[pt nb 0] 106/\Box g w b2 #[iv b.r,iv b.n] 111/\Box g w b3 #[S3.v x] 112/\FSv g w x vs
 | .prom to b vs=>∃ b1 b2 b3 x lb l,v=.func (.func 124) #[] #[pt b1 0,pt b2 0,pt b3 0]/\Box g w b1 #[pt nb 0] 106/\Box g w b2 #[pt lb 0] 180/\Box g w b3 #[S3.v x] 112/\FSv g w x vs/\CM g w lb l/\l.src=to/\l.hZ=b
 | .voted to u=>∃ b1 b2 lb l,v=.func (.func 130) #[] #[pt b1 0,pt b2 0]/\Box g w b1 #[pt nb 0] 106/\Box g w b2 #[pt lb 0] 180/\CM g w lb l/\l.src=to/\l.cl=u
 | .ew to b=>∃ b1 b2 b3,v=.func (.func 163) #[] #[pt b1 0,pt b2 0,pt b3 0]/\Box g w b1 #[pt nb 0] 106/\Box g w b2 #[iv (to:Int)] 3/\Box g w b3 #[iv b.r,iv b.n] 111
 | .prop u=>∃ b1 b2,v=.func (.func 145) #[] #[pt b1 0,pt b2 0]/\Box g w b1 #[pt nb 0] 106/\Box g w b2 (vtA u) 177
 | .askNews to=>∃ b1 b2 lb l,v=.func (.func 132) #[] #[pt b1 0,pt b2 0]/\Box g w b1 #[pt nb 0] 106/\Box g w b2 #[pt lb 0] 180/\CM g w lb l/\l.src=to
 | .start=>∃ b1,v=.func (.func 109) #[] #[pt b1 0]/\Box g w b1 #[pt nb 0] 106
 | .tell to bt=>∃ b1 b2 lb l,v=.func (.func 134) #[] #[pt b1 0,pt b2 0]/\Box g w b1 #[pt nb 0] 106/\Box g w b2 #[pt lb 0] 180/\CM g w lb l/\l.src=to/\l.bt=bt
theorem KV.ch{v:Value}{q:Pend}(h:KV g w nb v q)(c:Cg B T g w g' w')(a:Tg.z∉T:=by simp):KV g' w' nb v q:=by
 cases q with
 | began b vs=>obtain⟨d,i,p,x,e,f,j,k,m⟩:=h;exact⟨d,i,p,x,e,f.ch c a,j.ch c a,k.ch c a,m.ch c a⟩
 | prom to b vs=>obtain⟨d,i,p,x,o,l,e,f,j,k,m,r,s⟩:=h;exact⟨d,i,p,x,o,l,e,f.ch c a,j.ch c a,k.ch c a,m.ch c a,r.ch c a,s⟩
 | voted to u=>obtain⟨d,i,o,l,e,f,j,k,m⟩:=h;exact⟨d,i,o,l,e,f.ch c a,j.ch c a,k.ch c a,m⟩
 | ew to b=>obtain⟨d,i,p,e,f,j,k⟩:=h;exact⟨d,i,p,e,f.ch c a,j.ch c a,k.ch c a⟩
 | prop u=>obtain⟨d,i,e,f,j⟩:=h;exact⟨d,i,e,f.ch c a,j.ch c a⟩
 | askNews to=>obtain⟨d,i,o,l,e,f,j,k,m⟩:=h;exact⟨d,i,o,l,e,f.ch c a,j.ch c a,k.ch c a,m⟩
 | start=>obtain⟨d,e,f⟩:=h;exact⟨d,e,f.ch c a⟩
 | tell to bt=>obtain⟨d,i,o,l,e,f,j,k,m⟩:=h;exact⟨d,i,o,l,e,f.ch c a,j.ch c a,k.ch c a,m⟩
def mkA(x:Cmd × Bal × Nat):MapEntry:={ key:=.agg (cmV x.1).toArray,val:=.agg #[iv x.2.1.r,iv x.2.1.n],born:=x.2.2 }
structure AskAt(g:Gh)(w:World)(τ:Tg)(b:Nat)(f:Cmd->Option Bal):Prop where
 t:g.t b=τ
 k:g.k b=0
 ex:∃ (es:List (Cmd × Bal × Nat)) (clock:Nat),w.heap[b]?=some (.map (es.map mkA).toArray clock)/\(∀ x∈es,x.2.2<clock)/\(es.map (·.2.2)).Nodup/\(es.map (·.1)).Nodup/\∀ c,f c=(es.find? λx=>decide (c=x.1)).map (·.2.1)
def Xe(g:Gh)(w:World)(i:Nat)(f:Cmd->Option Bal):Option Nat->Prop
 | some b=>AskAt g w (.n 5 i) b f
 | none=>f=λ_=>none
structure Pends(g:Gh)(w:World)(nb:Nat)(vs:List Value)(l:List Pend):Prop where
 len:vs.length=l.length
 at_:∀ (k:Nat) (v:Value) (q:Pend),vs[k]?=some v->l[k]?=some q->KV g w nb v q
structure NodeAt(g:Gh)(w:World)(i nb ob:Nat)(x:NX)(p:Nod):Prop where
 row:w.heap[nb]?=some (.cells (AF i ob p x) 132)
 tag:g.t nb=.n 0 i
 rp:g.k nb=0
 tape:FSl g w x.tape p.d
 ln:FSv g w x.ln p.vo.vs
 an:∀ j,j<5->FSv g w (x.hv j) (p.bn.an j).vs
 bu:∃ vs,OwnS g w (.n 1 i) true 1 1 x.synced vs/\Pends g w nb vs p.bu
 fv:OwnS g w (.n 2 i) false 24 5 x.fv (cmL p.bn.fv)
 ae:OwnS g w (.n 3 i) true 24 5 x.ae (cmL p.ae)
 av:OwnS g w (.n 4 i) false 24 5 x.av (cmL p.av)
 bN:Xe g w i p.bN x.bN
 rE:p.up=true->∃ b,x.bN=some b
structure Lets(g:Gh)(w:World)(bs:List Nat)(l:List Let):Prop where
 len:bs.length=l.length
 at_:∀ (k b:Nat) (m:Let),bs[k]?=some b->l[k]?=some m->CM g w b m
structure OutAt(g:Gh)(w:World)(ob:Nat)(lt tl:S3)(ls:List Let)(ts:List Tol):Prop where
 row:w.heap[ob]?=some (.cells #[lt.v,tl.v] 103)
 tag:g.t ob=.n 50 0
 rp:g.k ob=0
 br:∃ bs,OwnS g w (.n 51 0) false 180 1 lt (bs.map (pt · 0))/\Lets g w bs ls
 fa:OwnS g w (.n 52 0) false 138 5 tl (ts.flatMap FT)
theorem Pends.ch{a:List Value}{l:List Pend}(h:Pends g w nb a l)(c:Cg B T g w g' w')(e:Tg.z∉T:=by simp):Pends g' w' nb a l:=⟨h.len,λk v q b d=>(h.at_ k v q b d).ch c e⟩
theorem Lets.ch(h:Lets g w bs l)(c:Cg B T g w g' w')(d:Tg.z∉T:=by simp):Lets g' w' bs l:=⟨h.len,λk v q a b=>(h.at_ k v q a b).ch c d⟩
theorem Lets.snoc{m:Let}(h:Lets g w bs l)(f:CM g w b m):Lets g w (bs++[b]) (l++[m]):=by
 refine⟨by simp[h.len],λk c q a d=>?_⟩;by_cases e:k<bs.length
 .rw[mr e]at a
  rw[mr (by rw[<- h.len];exact e)]at d
  exact h.at_ k c q a d
 .rw[mw (by omega)]at a
  rw[mw (by rw[<- h.len];omega),<- h.len]at d
  cases hx:k-bs.length with
  | zero=>rw[hx]at a d;simp at a d;subst a d;exact f
  | succ n=>rw[hx]at a;simp at a
theorem Cg.rc(c:Cg B T g w g' w'){b:Nat}{o:Obj}{r i:Nat}(h:w.heap[b]?=some o)(a:g.t b=.n r i)(d:Tg.n r i∉T):w'.heap[b]?=some o/\g'.t b=.n r i/\g'.k b=g.k b :=
 ⟨(c.same b (rl h) (by rw[a];exact d) (λh=>by rw[a]at h;cases h)).trans h,(c.tag (rl h) (by rw[a];intro h;cases h)).trans a,c.rU b (rl h) (by rw[a];exact d) (by rw[a];intro h;cases h)⟩
theorem AskAt.ch(h:AskAt g w (.n r i) b f)(c:Cg B T g w g' w')(hn:Tg.n r i∉T:=by simp):AskAt g' w' (.n r i) b f:=by
 obtain⟨e,j,d,k,m,o⟩:=h;have a:=c.rc m e hn;exact⟨a.2.1,a.2.2.trans j,d,k,a.1,o⟩
theorem Xe.ch{a:Option Nat}(h:Xe g w i f a)(c:Cg B T g w g' w')(hn:Tg.n 5 i∉T:=by simp):Xe g' w' i f a:=by
 cases a with
 | none=>exact h
 | some b=>exact AskAt.ch h c hn
theorem NodeAt.ch{x:NX}{p:Nod}(h:NodeAt g w i nb ob x p)(c:Cg B T g w g' w')(a:Tg.z∉T:=by simp)(hn:∀ r,r<6->Tg.n r i∉T:=by simp):NodeAt g' w' i nb ob x p:=by
 have b:=c.rc h.row h.tag (hn 0 (by omega));obtain⟨k,d,e⟩:=h.bu;exact⟨b.1,b.2.1,b.2.2.trans h.rp,h.tape.ch c a,h.ln.ch c a,λj f=>(h.an j f).ch c a,⟨k,d.ch c (hn 1 (by omega)) (by simp),e.ch c a⟩,h.fv.ch c (hn 2 (by omega)) (by simp),h.ae.ch c (hn 3 (by omega)) (by simp),h.av.ch c (hn 4 (by omega)) (by simp),h.bN.ch c (hn 5 (by omega)),h.rE⟩
theorem OutAt.ch{lt d:S3}{b:List Let}{e:List Tol}(h:OutAt g w ob lt d b e)(c:Cg B T g w g' w')(k:Tg.z∉T:=by simp)(hn:∀ r,50<=r->Tg.n r 0∉T:=by simp):OutAt g' w' ob lt d b e:=by
 have a:=c.rc h.row h.tag (hn 50 (by omega));obtain⟨f,i,j⟩:=h.br;exact⟨a.1,a.2.1,a.2.2.trans h.rp,⟨f,i.ch c (hn 51 (by omega)) (by simp),j.ch c k⟩,h.fa.ch c (hn 52 (by omega)) (by simp)⟩
end
end
section
def TN(i:Nat):List Tg:=[.n 0 i,.n 1 i,.n 2 i,.n 3 i,.n 4 i,.n 5 i,.n 50 0,.n 51 0,.n 52 0,.n 60 0]
theorem Bx(i:Nat):Tg.z∉TN i:=by simp[TN]
def NS(i nb ob:Nat)(g:Gh)(w:World)(p:Nod)(ls:List Let)(ts:List Tol):Prop:=∃ x lt tl,NodeAt g w i nb ob x p/\OutAt g w ob lt tl ls ts/\Jh g w
variable{B i nb ob:Nat}{T:List Tg}{e:TypeId}{g g':Gh}{l:List Pend}{ls:List Let}{p:Nod}{ts:List Tol}{w w':World}{x:S3}{τ:Tg}
theorem nsC{c:Nat}{x:NX}{lt b:S3}{L:List Sh}(d:NodeAt g w i nb ob x p)(e:OutAt g w ob lt b ls ts)(C:Cg B T g w g' w')(K:Kn c g' w' L)(a:Tg.z∉T:=by simp)(f:∀ r,r<6->Tg.n r i∉T:=by simp)(h:∀ r,50<=r->Tg.n r 0∉T:=by simp):NS i nb ob g' w' p ls ts:=⟨x,lt,b,d.ch C a f,e.ch C a h,K.new⟩
def NP(i nb ob:Nat)(g:Gh)(w:World)(v:Value)(p:Nod)(ls:List Let)(ts:List Tol):Ending->World->Prop:=λe w'=>∃ g',e=.returned v/\NS i nb ob g' w' p ls ts/\Cg w.heap.size (TN i) g w g' w'
theorem NS.new(h:NS i nb ob g w p ls ts):Jh g w:=let ⟨_,_,_,_,_,h⟩:=h;h
theorem NS.af(h:NS i nb ob g w p ls ts)(b:Bw w w'):NS i nb ob g w' p ls ts :=
 let ⟨x,lt,tl,h1,h2,h3⟩:=h
 have c:=Cg.ed (B:=0) (T:=[]) (g:=g) b
 ⟨x,lt,tl,h1.ch c,h2.ch c,λk a=>h3 k (me b.size a)⟩
theorem NS.qL(h:NS i nb ob g w p ls ts)(c:Cg B [] g w g' w')(a:Jh g' w'):NS i nb ob g' w' p ls ts :=
 let ⟨x,lt,tl,h1,h2,_⟩:=h
 ⟨x,lt,tl,h1.ch c,h2.ch c,a⟩
theorem NodeAt.rC{b:Nat}{x:NX}(h:NodeAt g w i nb ob x p)(a:x.bN=some b):AskAt g w (.n 5 i) b p.bN:=by have:=h.bN;rw[a]at this;exact this
theorem Ce(h:∃ vs,OwnS g w (.n 1 i) true 1 1 x vs/\Pends g w nb vs l)(c:Cg B T g w g' w')(b:Tg.z∉T:=by simp)(a:Tg.n 1 i∉T:=by simp):∃ vs,OwnS g' w' (.n 1 i) true 1 1 x vs/\Pends g' w' nb vs l :=
 let ⟨vs,h1,h2⟩:=h
 ⟨vs,h1.ch c a (by simp),h2.ch c b⟩
theorem Ej{l:List Let}(h:∃ bs:List Nat,OwnS g w (.n 51 0) false 180 1 x (bs.map (pt · 0))/\Lets g w bs l)(c:Cg B T g w g' w')(b:Tg.z∉T:=by simp)(a:Tg.n 51 0∉T:=by simp):∃ bs:List Nat,OwnS g' w' (.n 51 0) false 180 1 x (bs.map (pt · 0))/\Lets g' w' bs l :=
 let ⟨bs,h1,h2⟩:=h
 ⟨bs,h1.ch c a (by simp),h2.ch c b⟩
theorem BA{a:Nat->S3}{f:Nat->Acc}(h:∀ j,j<5->FSv g w (a j) (f j).vs)(c:Cg B T g w g' w')(d:Tg.z∉T:=by simp):∀ j,j<5->FSv g' w' (a j) (f j).vs:=λj b=>(h j b).ch c d
theorem Pends.snoc{d:List Value}{v:Value}{q:Pend}(h:Pends g w nb d l)(f:KV g w nb v q):Pends g w nb (d++[v]) (l++[q]):=by
 refine⟨by simp[h.len],λk c m a b=>?_⟩;by_cases e:k<d.length
 .rw[mr e]at a
  rw[mr (by rw[<- h.len];exact e)]at b
  exact h.at_ k c m a b
 .rw[mw (by omega)]at a
  rw[mw (by rw[<- h.len];omega),<- h.len]at b
  cases hx:k-d.length with
  | zero=>rw[hx]at a b;simp at a b;subst a b;exact f
  | succ n=>rw[hx]at a;simp at a
theorem OwnS.num{a:Bool}{l:List Cmd}(h:OwnS g w τ a e 5 x (cmL l)):x.n=l.length:=by have:=h.len;rw[BJ]at this;omega
theorem OwnS.rc{l:List Cmd}(h:OwnS g w τ true e 5 x (cmL l)):Rc g w x l:=by
 have a:=h.num;rcases h.ex with⟨h1,h2,h3⟩|⟨b,cur,h1,h2,h3,h4,h5,h6,h7,h8⟩
 .exact⟨a,by omega,λ_=>h3,.inl (Y' (by omega))⟩
 .refine⟨a,h3,λh=>(by rw[h1]at h;cases h),.inr ⟨b,0,h1,rl h2,λj u c=>?_,.inr ?_⟩⟩
  .obtain⟨b',hb',_,hc⟩:=h.cell c;rw[h1]at hb'
   simp only[X',Addr.mk.injEq,and_true]at hb';subst hb';rw[mR];exact hc
  .rw[h8,BJ];simp;omega
end
section
variable{P:Program}{fn:Func}{R:Ending->World->Prop}{B:Nat}{T:List Tg}{g:Gh}{w:World}
section
def S1:List Kt->Bool|.c (.loop _)::_=>true|_=>false
def jJ:List Kt->Code|.c (.loop b)::_=>b|_=>.skip
def isJ:List Kt->Bool|.j _::_=>true|_=>false
def jK:List Kt->Act->World->Prop|.j J::_=>J|_=>λ_ _=>False
def dV(s:Xs)(n:Nat)(J:Act->World->Prop)(e:List (Nat × Value))(z:Nat->Value)(L:List Sh):Xs:=⟨.c (jJ s.K)::.j J::s.K.tail,⟨n,e,z⟩,L⟩
variable{s:Xs}
theorem Ca(n:Nat)(d:List (Nat × Value))(m:List Bool)(i:List Sh)(a:Nat->Gh->World->List (Nat × Value)->List Sh->Prop)(q:S1 s.K=true)(r:s.f.n=n)(D:d.map (λp=>lk s.f.z s.f.e p.1)=d.map (·.2))(A:BM (AH m s.L)=i)(k:Nat)(u:Kn B g w s.L->a k g w d i)(round:∀ k g w e z L,a k g w e L->∀ J:Act->World->Prop,(∀ k' g' w' e' z' L',k'<k->a k' g' w' e' L'->Kn B g' w' L'->J (⟨n,e',z'⟩:Fm).act w')->GG P fn R B T (dV s n J e z L) g w):GG P fn R B T s g w:=by
 refine Af λj=>gFm d D λz=>?_;obtain⟨K,f,L⟩:=s;simp only at r;subst r;have o:BM (AH m L)=i:=A;have C:GG P fn R B T ⟨K,⟨f.n,d,z⟩,BM (AH m L)⟩ g w->GG P fn R B T ⟨K,⟨f.n,d,z⟩,L⟩ g w:=λh=>⟨λj=>h.ex (j.sub (DA m L)).so⟩;refine C ?_;rw[o];cases K with
 | nil=>cases q
 | cons t K =>
  cases t with
  | c x =>
   cases x with
   | loop b=>exact j6 a (λk g w e z L v J y=>round k g w e z L v J y) (u j)
   | _=>cases q
  | _=>cases q
theorem EL(J:Act->World->Prop)(n:Nat)(e:List (Nat × Value))(m:List Bool)(b:List Sh)(i:isJ s.K=true)(c:jK s.K=J)(o:s.f.n=n)(r:e.map (λp=>lk s.f.z s.f.e p.1)=e.map (·.2))(k:BM (AH m s.L)=b)(h:∀ z,Kn B g w s.L->Kn B g w b->J (⟨n,e,z⟩:Fm).act w):GG P fn R B T s g w:=by
 refine Af λa=>gFm e r λz=>⟨λq=>?_⟩;obtain⟨K,f,L⟩:=s;simp only at o c k i a;subst o;have d:Kn B g w b:=by rw[<- k];exact(q.sub (DA m L)).so
 cases K with
 | nil=>cases i
 | cons t K =>
  cases t with
  | j J'=>simp only[jK]at c;rw[c];exact h z a d
  | _=>cases i
def JO(s:Xs)(i:Nat):Xs:=match s.K with|.x ops (u+1) Ld e L0::K=>⟨.y ops u Ld e L0 i::K,s.f,s.L⟩|_=>s
def eC(s:Xs)(i j:Nat):Bool:=match s.K with|.x ops (_+1) Ld _ _::_=>(match Region.ready .any ops Ld with|[k,l]=>Nat.beq k i&&Nat.beq l j|_=>false)|_=>false
theorem Dr(i j:Nat)(a:eC s i j=true)(h:GG P fn R B T (JO s i) g w)(m:GG P fn R B T (JO s j) g w):GG P fn R B T s g w:=by
 refine⟨λd=>?_⟩;obtain⟨K,f,L⟩:=s;have b:=h.ex;have c:=m.ex;unfold JO at b c;unfold eC at a;cases K with
 | nil=>cases a
 | cons t K =>
  cases t with
  | x ops u Ld e L0 =>
   cases u with
   | zero=>cases a
   | succ u =>
    simp only at b c a;have n:Region.ready .any ops Ld=[i,j]:=by
     split at a
     .rename_i k l hk
      simp only[mE]at a;rw[hk,mF a.1,mF a.2]
     .cases a
    exact ma n (b d) (c d)
  | _=>cases a
def XJ(s:Xs)(J:Act->World->Prop):Xs:=match s.K with|t::K=>⟨t::.j J::K,s.f,s.L⟩|[]=>s
theorem Es(Q:Exit->Act->World->Prop):Exit.then (Q .normal) Q=Q:=by
 funext e a w
 cases e<;>rfl
theorem Cq(n:Nat)(d:Gh->World->List (Nat × Value)->List Sh->Prop)(u:s.K.isEmpty=false)(k:∀ J:Act->World->Prop,(∀ g' w' e z L,d g' w' e L->Kn B g' w' L->J (⟨n,e,z⟩:Fm).act w')->GG P fn R B T (XJ s J) g w)(p:∀ g' w' e z L,d g' w' e L->GG P fn R B T ⟨s.K.tail,⟨n,e,z⟩,L⟩ g' w'):GG P fn R B T s g w:=by
 obtain⟨K,f,L⟩:=s;cases K with
 | nil=>cases u
 | cons t K =>
  have q:=k (Kq P (bodyPost P fn R) K .normal) (λg' w' e z L r h=>(p g' w' e z L r).ex h);refine⟨λh=>?_⟩;have a:=q.ex h;unfold XJ at a;simp only at a;cases t with
  | c x=>simp only[Kq,Es]at a ⊢;exact a
  | b id=>simp only[Kq,Es]at a ⊢;exact a
  | o ops is=>simp only[Kq,Es]at a ⊢;exact a
  | x ops m Ld e L0=>simp only[Kq,Es]at a ⊢;exact a
  | y ops m Ld e L0 i=>simp only[Kq,Es]at a ⊢;exact a
  | j J=>simp only[Kq,Es]at a ⊢;exact a
def zL(L:List Sh)(k:Nat):List Sh:=L.set k { L.getD k default with t:=.z,w:=false }
theorem j9(k:Nat)(b:Nat)(A:(BM s.L)[k]?.map (λx=>(x.g,x.t))=some (b,.l))(h:∀ g',Cg B [] g w g' w->GG P fn R B T ⟨s.K,s.f,zL (BM s.L) k⟩ g' w):GG P fn R B T s g w:=by
 refine⟨λF=>?_⟩;have q:=F.so;generalize O:BM s.L=L at *;have V:∀ x∈L,x.w=false:=λx e=>by rw[<- O]at e;obtain⟨y,_,rfl⟩:=mz.1 e;rfl
 have m:k<L.length:=by
  cases e:L[k]? with
  | none=>rw[e]at A;cases A
  | some x=>exact(V'.1 e).1
 have N:L.getD k default=L[k]:=by rw[mM,G' m];rfl
 rw[G' m]at A
 simp only[mY,X',mZ]at A;obtain⟨r,I⟩:=A;have d:=q.row _ (mN m);have G:∀ n (D:n<L.length),n≠k->L[n].g≠b:=λn D o a=>by
  have:=q.two D m o (by rw[r];exact a);rw[I]at this
  cases this.2.1
 let g':Gh:=⟨λc=>if c=b then .z else g.t c,g.k⟩
 have H:g.t b=.l:=by rw[<- r,d.2.1];exact I
 have E:B<=b:=by rw[<- r];exact d.2.2.1 I
 refine(h g' ⟨rfl,rfl,rfl,A' _,λc M=>?_,λ_ _=>A' _,λ_ _ _ _=>rfl,λ_ _ _ _=>rfl,λ_ _ _ _=>rfl⟩).ex ⟨λx e=>?_,?_,λc M=>?_,q.base⟩
 .show(if c=b then _ else _)=_\/(_/\_/\(if c=b then _ else _)=_);by_cases a:c=b
  .subst a;right;exact⟨H,E,if_pos rfl⟩
  .left;exact if_neg a
 .unfold zL at e;simp only at e;rw[N]at e
  obtain⟨n,D,rfl⟩:=oC e;have C:n<L.length:=by simpa using D
  rw[nW];split
  .refine⟨d.1,?_,λh=>(by cases h),λh=>absurd rfl h⟩;show(if L[k].g=b then _ else _)=_;rw[if_pos r]
  .rename_i o
   have p:=q.row _ (mN C);refine⟨p.1,?_,p.2.2⟩;show(if L[n].g=b then _ else _)=_;rw[if_neg (G n C (λh=>o h.symm))];exact p.2.1
 .show(zL L k).Pairwise _;unfold zL;rw[N,m6];intro i j Q U S a;have u:i<L.length:=by simpa using Q
  have v:j<L.length:=by simpa using U
  rw[nW,nW]at a ⊢
  by_cases p:k=i
  .rw[if_pos p]at a ⊢
   rw[if_neg (by omega)]at a ⊢
   exact absurd a.symm (by show L[j].g≠L[k].g;rw[r];exact G j v (by omega))
  .rw[if_neg p]at a ⊢
   by_cases J:k=j
   .rw[if_pos J]at a ⊢
    exact absurd a (by show L[i].g≠L[k].g;rw[r];exact G i u (by omega))
   .rw[if_neg J]at a ⊢
    exact q.two u v (by omega) a
 .have:=q.new c M;show(if c=b then _ else _)=_/\_;refine⟨?_,this.2⟩;split
  .rfl
  .exact this.1
end
end
def gS:Gh:=⟨λ_=>.z,λ_=>0⟩
section
variable{P:Program}{fn:Func}{R:Ending->World->Prop}{B:Nat}{T:List Tg}{g:Gh}{w:World}
def kQ(s:Xs)(i j l:Nat):Bool:=match s.K with|.x ops (_+1) Ld _ _::_=>(match Region.ready .any ops Ld with|[a,b,c]=>Nat.beq a i&&(Nat.beq b j&&Nat.beq c l)|_=>false)|_=>false
theorem Yo{s:Xs}(i j l:Nat)(d:kQ s i j l=true)(r:GG P fn R B T (JO s i) g w)(v:GG P fn R B T (JO s j) g w)(y:GG P fn R B T (JO s l) g w):GG P fn R B T s g w:=by
 refine⟨λn=>?_⟩;obtain⟨K,f,L⟩:=s;have h:=r.ex;have k:=v.ex;have m:=y.ex;unfold JO at h k m;unfold kQ at d;cases K with
 | nil=>cases d
 | cons t K =>
  cases t with
  | x ops u Ld e L0 =>
   cases u with
   | zero=>cases d
   | succ u =>
    simp only at h k m d;have o:Region.ready .any ops Ld=[i,j,l]:=by
     split at d
     .rename_i a b c hk
      simp only[mE]at d;rw[hk,mF d.1,mF d.2.1,mF d.2.2]
     .cases d
    refine⟨λp=>absurd (o▸p) (by simp),o▸(λq z=>?_)⟩;rcases(show q=i\/q=j\/q=l by simpa using z)with rfl|rfl|rfl
    .exact h n
    .exact k n
    .exact m n
  | _=>cases d
def UL:List Sh->List Sh
 | [a,b]=>[b,a]
 | a::l=>a::UL l
 | []=>[]
theorem Ie:∀ L:List Sh,(UL L).Perm L
 | []=>.refl _
 | [a]=>by simp[UL]
 | [a,b]=>.swap _ _ _
 | a::b::c::l=>(Ie (b::c::l)).cons a
theorem NK{s:Xs}(h:GG P fn R B T ⟨s.K,s.f,UL s.L⟩ g w):GG P fn R B T s g w:=by
 refine⟨λa=>h.ex ⟨λx c=>a.row x ((Ie s.L).mem_iff.1 c),?_,a.new,a.base⟩⟩;refine(Ie s.L).symm.pairwise a.rG ?_;intro x y b e;have:=b e.symm;exact⟨this.2,this.1⟩
theorem lE{s:Xs}{r i:Nat}{e:TypeId}{p:Nat}{x:S3}{m:List Value}(c:OwnS g w (.n r i) false e p x m)(q:s.L.all (λy=>y.t.ne (.n r i))=true)(h:∀ g',Cg B [.n r i] g w g' w->OwnS g' w (.n r i) true e p x m->GG P fn R B T s g' w):GG P fn R B T s g w:=by
 refine⟨λa=>?_⟩;rcases c.ex with h1|⟨b,cur,h1,h2,h3,h4,h5,h6,h7,h8⟩
 .exact(h g (Cg.refl _ _ _ _) ⟨c.len,.inl h1⟩).ex a
 .have h80:g.k b=0:=h8;have u:b<w.heap.size:=(U'.1 h2).1;refine(h (j5 g b m.length) ⟨rfl,rfl,rfl,A' _,λ_ _=>.inl rfl,λd f=>?_,λd f j _=>if_neg (λe=>j (by rw[e,h7];exact D'.2 rfl)),λ_ _ _ _=>rfl,λ_ _ _ _=>rfl⟩ ⟨c.len,.inr ⟨b,cur,h1,h2,h3,h4,h5,h6,h7,if_pos rfl⟩⟩).ex ⟨λy o=>?_,a.rG,λd f=>?_,a.base⟩
  .show g.k d<=(if d=b then _ else g.k d);split
   .rename_i e;rw[e,h80];exact mJ _
   .exact A' _
  .obtain⟨k1,k2,k3,k4⟩:=a.row y o;refine⟨k1,k2,k3,λv=>?_⟩;show(if y.g=b then _ else g.k y.g)=0;rw[if_neg (λe=>Tg.rW (nA.1 q y o) (by rw[<- k2,e,h7]))];exact k4 v
  .have:=a.new d f;refine⟨this.1,?_⟩;show(if d=b then _ else g.k d)=0;rw[if_neg (by omega)];exact this.2
end
theorem Xy{P:Program}{s:Xs}{a:Nat}{S:Sem Value}{v:Value}{W:World}(h:Dx s a=some (S>>=λv=>pure (.value v)))(b:S.run P W=.ok v W):Dd P s a W=some (.ok (.value v) W):=by
 unfold Dd;unfold Dx at h;cases hx:opN s a with
 | none=>rw[hx]at h;cases h
 | some x =>
  rw[hx]at h
  simp only[mY,X']at h ⊢;rw[h,Sem.run_bind,b,Result.andThen_ok];rfl
section
variable{P:Program}{W:World}
section
theorem ki(d:Array TypeId)(t:TypeId)(a b:Int):(Builtin.max_ d t #[iv a,iv b]).run P W=.ok (iv (max a b)) W:=by
 rw[run_max_int2]
 congr 2
 rw[Int.max_def];by_cases h:a<b
 .rw[if_pos h,if_pos (by omega)]
 .rw[if_neg h];by_cases c:a<=b
  .rw[if_pos c];omega
  .rw[if_neg c]
theorem iB(c:Array TypeId)(t:TypeId)(a b:Int):(Builtin.min_ c t #[iv a,iv b]).run P W=.ok (iv (min a b)) W:=by
 rw[run_min_int2]
 congr 2
 rw[Int.min_def];by_cases h:b<a
 .rw[if_pos h,if_neg (by omega)]
 .rw[if_neg h,if_pos (by omega)]
variable{t:TypeId}{x y:Operand}
theorem Mb(a b:Int)(d:P.underlying t=some (.int .i64))(h:-9223372036854775808<=a+b/\a+b<=9223372036854775807):(do Go.eqGuard .add t x y (iv a) (iv b);Go.binOp .add t (iv a) (iv b):Sem Value).run P W=.ok (iv (a+b)) W:=by
 have c:IntKind.i64.wrap (a+b)=a+b:=by rw[IntKind.wrap_i64];omega
 simp[Go.eqGuard,Go.binOp,go_sem,c]
theorem Bf(k:Nat)(a:Int)(b:P.underlying 3=some (.int .i64))(h:-9223372036854775808<=a+1/\a+1<=9223372036854775807):(do Go.eqGuard .add 3 (.tmp k) (.const (iv 1)) (iv a) (iv 1);Go.binOp .add 3 (iv a) (iv 1):Sem Value).run P W=.ok (iv (a+1)) W:=Mb a 1 b h
theorem ZB(a b:Int)(d:P.underlying t=some (.int .i64))(h:-9223372036854775808<=a-b/\a-b<=9223372036854775807):(do Go.eqGuard .sub t x y (iv a) (iv b);Go.binOp .sub t (iv a) (iv b):Sem Value).run P W=.ok (iv (a-b)) W:=by
 have c:IntKind.i64.wrap (a-b)=a-b:=by rw[IntKind.wrap_i64];omega
 simp[Go.eqGuard,Go.binOp,go_sem,c]
end
end
section
theorem TT(a b:Bal):decide (a.r=b.r/\a.n=b.n)=decide (a=b):=na.2 (Bal.eq_iff a b)
variable{W:World}{x y:Operand}
theorem lI(a b:Bal):(do Go.eqGuard .eql 111 x y (.agg #[iv a.r,iv a.n]) (.agg #[iv b.r,iv b.n]);Go.binOp .eql 111 (.agg #[iv a.r,iv a.n]) (.agg #[iv b.r,iv b.n]):Sem Value).run prog W=.ok (.bool (decide (a=b))) W:=by
 have c:=bZ a.r a.n b.r b.n W;rw[TT]at c
 have d:(Go.eqGuard .eql 111 x y (.agg #[iv a.r,iv a.n]) (.agg #[iv b.r,iv b.n])).run prog W=.ok () W:=by kernel_rfl
 rw[Sem.run_bind,d,Result.andThen_ok];exact c
theorem hY(a b c d:Int):∀ w,(binOp .neq 111 (.agg #[.int .i64 a,.int .i64 b]) (.agg #[.int .i64 c,.int .i64 d])).run prog w=.ok (.bool (!decide (a=c/\b=d))) w:=by
 intro w;rw[run_neq_struct,run_equalIn_agg w 9999 _ _ _ (by kernel_rfl) (by kernel_rfl)];unfold Program.fieldsOf;rw[underlying111];have e:=underlying3;simp[Op.eqFields,go_sem,e]
 repeat' split
 all_goals simp_all
theorem km(a b:Bal):(do Go.eqGuard .neq 111 x y (.agg #[iv a.r,iv a.n]) (.agg #[iv b.r,iv b.n]);Go.binOp .neq 111 (.agg #[iv a.r,iv a.n]) (.agg #[iv b.r,iv b.n]):Sem Value).run prog W=.ok (.bool (!decide (a=b))) W:=by
 have c:=hY a.r a.n b.r b.n W;rw[TT]at c
 have d:(Go.eqGuard .neq 111 x y (.agg #[iv a.r,iv a.n]) (.agg #[iv b.r,iv b.n])).run prog W=.ok () W:=by kernel_rfl
 rw[Sem.run_bind,d,Result.andThen_ok];exact c
theorem TX(a b:Cmd):decide (a.k=b.k/\a.c=b.c/\a.s=b.s/\a.n=b.n/\a.v=b.v)=decide (a=b):=na.2 (Cmd.eq_iff a b)
theorem i6(a b:Cmd):(do Go.eqGuard .eql 24 x y (.agg #[iv a.k,iv a.c,iv a.s,iv a.n,iv a.v]) (.agg #[iv b.k,iv b.c,iv b.s,iv b.n,iv b.v]);Go.binOp .eql 24 (.agg #[iv a.k,iv a.c,iv a.s,iv a.n,iv a.v]) (.agg #[iv b.k,iv b.c,iv b.s,iv b.n,iv b.v]):Sem Value).run prog W=.ok (.bool (decide (a=b))) W:=by
 have d:=Uf a.k a.c a.s a.n a.v b.k b.c b.s b.n b.v W;rw[TX]at d
 have e:(Go.eqGuard .eql 24 x y (.agg #[iv a.k,iv a.c,iv a.s,iv a.n,iv a.v]) (.agg #[iv b.k,iv b.c,iv b.s,iv b.n,iv b.v])).run prog W=.ok () W:=by kernel_rfl
 rw[Sem.run_bind,e,Result.andThen_ok];exact d
theorem IK(a b:Bal)(h:a≠b):(do Go.eqGuard .neq 111 x y (.agg #[iv a.r,iv a.n]) (.agg #[iv b.r,iv b.n]);Go.binOp .neq 111 (.agg #[iv a.r,iv a.n]) (.agg #[iv b.r,iv b.n]):Sem Value).run prog W=.ok (.bool true) W:=by rw[km,E' h];rfl
theorem IJ(a b:Bal)(h:a=b):(do Go.eqGuard .neq 111 x y (.agg #[iv a.r,iv a.n]) (.agg #[iv b.r,iv b.n]);Go.binOp .neq 111 (.agg #[iv a.r,iv a.n]) (.agg #[iv b.r,iv b.n]):Sem Value).run prog W=.ok (.bool false) W:=by rw[km,O' h];rfl
theorem qv{j:Nat}(h:j<5):j=0\/j=1\/j=2\/j=3\/j=4:=by omega
theorem GB:∀ ts:List Tol,(ts.flatMap FT).length=ts.length*5
 | []=>rfl
 | t::r=>by rw[oh,H',GB r,mI];show 5+_=_;omega
end
section
variable{P:Program}{fn:Func}{R:Ending->World->Prop}{B:Nat}{T:List Tg}{g:Gh}{w:World}
section
variable{B' i nb ob:Nat}{L:List Sh}{T':List Tg}{g0:Gh}{ls:List Let}{lt tl:S3}{p p0:Nod}{s:Xs}{ts:List Tol}{v:Value}{w0:World}{x x0:NX}
theorem qR(a:List Tg)(m:Nat)(h:List Nat)(c:∀ gs g' w',Cg B a g w g' w'->GG P fn R B T (rn0 P a gs m s h).s g' w')(b:∀ gs,(rn0 P a gs m s h).o.map Ob.l'=(rn0 P a gs m s h).o.map Ob.r':=by intro _;kernel_rfl):GG P fn R B T s g w:=cE a m h b c
theorem qV(i:Nat)(v:Value){S:Sem Value}(c:S.run P w=.ok v w)(b:GG P fn R B T (nxt s i v s.L).s g w)(d:Dx s i=some (S>>=λv=>pure (.value v)):=by kernel_rfl)(a:(nxt s i undef s.L).o.map Ob.l'=(nxt s i undef s.L).o.map Ob.r':=by kernel_rfl):GG P fn R B T s g w:=cG i v (λ_=>Xy d c) a b
theorem qT(i:Nat)(v:Value){S:Sem Value}(c:∀ W,S.run P W=.ok v W)(b:GG P fn R B T (tkN s i v false).s g w)(d:Dx s i=some (S>>=λv=>pure (.value v)):=by kernel_rfl)(a:(tkN s i undef false).o.map Ob.l'=(tkN s i undef false).o.map Ob.r':=by kernel_rfl):GG P fn R B T s g w:=Qm i v false (λW _=>Xy d (c W)) a b
theorem qU(i:Nat)(v:Value){S:Sem Value}(c:∀ W,(true=true->AO (UK s) W)->S.run P W=.ok v W)(b:GG P fn R B T (tkN s i v true).s g w)(d:Dx s i=some (S>>=λv=>pure (.value v)):=by kernel_rfl)(a:(tkN s i undef true).o.map Ob.l'=(tkN s i undef true).o.map Ob.r':=by kernel_rfl):GG P fn R B T s g w:=Qm i v true (λW h=>Xy d (c W h)) a b
theorem qI(b t:Bool)(a:b=t)(h:GG P fn R B T (Ll s t) g w)(c:PU s=.bool b:=by kernel_rfl):GG P fn R B T s g w:=gIf b t a c h
theorem qC(i:Nat){f:FuncId}{a:Array Value}{C:Ending->World->Prop}(c:Calls P f a w C)(h:∀ e w',C e w'->∃ v,e=.returned v/\Bw w w'/\GG P fn R B T (nxt s i v s.L).s g w')(j:∀ W,Dd P s i W=some (.ok (.enter f a) W):=by intro _;kernel_rfl)(d:K3 s i=true:=by kernel_rfl)(b:(nxt s i undef s.L).o.map Ob.l'=(nxt s i undef s.L).o.map Ob.r':=by kernel_rfl):GG P fn R B T s g w:=gD i f a j d b c h
theorem qG(i:Nat)(a:List Tg)(m:List Bool){f:FuncId}{c:Array Value}{C:Ending->World->Prop}(j:Calls P f c w C)(q:∀ e w',C e w'->∃ v g',e=.returned v/\Cg w.heap.size a g w g' w'/\(∀ b,w'.heap.size<=b->g'.t b=.z/\g'.k b=0)/\GG P fn R B T (nxt s i v (AH m s.L)).s g' w')(r:∀ W,Dd P s i W=some (.ok (.enter f c) W):=by intro _;kernel_rfl)(p:K3 s i=true:=by kernel_rfl)(d:(nxt s i undef (AH m s.L)).o.map Ob.l'=(nxt s i undef (AH m s.L)).o.map Ob.r':=by kernel_rfl)(h:(AH m s.L).all (λx=>a.all λt=>x.t.ne t)=true:=by kernel_rfl):GG P fn R B T s g w:=Sj i f c a m r p d h j q
theorem qE(v:Value)(h:Kn B g w s.L->R (.returned v) w)(a:Kn B g w s.L->(results fn s.f.act.tmps).run P w=.ok v w:=by intro _;kernel_rfl)(b:MX s.K=true:=by kernel_rfl):GG P fn R B T s g w:=V7 v b a h
theorem qB{J:Act->World->Prop}{n:Nat}{e:List (Nat × Value)}(m:List Bool){a:List Sh}(h:∀ z,Kn B g w s.L->Kn B g w a->J (⟨n,e,z⟩:Fm).act w)(i:isJ s.K=true:=by kernel_rfl)(b:jK s.K=J:=by kernel_rfl)(j:s.f.n=n:=by kernel_rfl)(d:e.map (λp=>lk s.f.z s.f.e p.1)=e.map (·.2):=by kernel_rfl)(c:BM (AH m s.L)=a:=by kernel_rfl):GG P fn R B T s g w:=EL J n e m a i b j d c h
theorem Kn.sj(h:Kn B g w L){i b:Nat}{d:Array Value}(a:(L[i]?).map (λx=>(x.g,CV x.o,E6 x.o))=some (b,d,true)):∃ e,w.heap[b]?=some (.cells d e (0,0)):=by
 cases hi:L[i]? with
 | none=>rw[hi]at a;cases a
 | some x =>
  rw[hi]at a
  have f:=(h.row x (mA hi)).1;obtain⟨j,k,m,p⟩:=x;simp only[mY,X',mZ]at a f;obtain⟨rfl,rfl,c⟩:=a;rw[f];unfold E6 at c;split at c
  .exact⟨_,rfl⟩
  .cases c
theorem Ia{a:TypeId}(h:G4 P a=true):∃ d,P.underlying a=some d/\d.isRow=true:=by
 unfold G4 at h;split at h
 .rename_i d hd
  exact⟨d,hd,h⟩
 .cases h
theorem qE1(p:Tmp)(c:TypeId)(i b:Nat)(a:Array Value)(h:Kn B g w s.L->R (.returned (.agg a)) w)(t:(s.L[i]?).map (λx=>(x.g,CV x.o,E6 x.o))=some (b,a,true):=by kernel_rfl)(j:fn.results=#[.cell p c]:=by kernel_rfl)(m:s.f.act.tmps.getD p undef=pt b 0:=by kernel_rfl)(r:G4 P c=true:=by kernel_rfl)(k:(P.info? c).map (·.size)=some a.size:=by kernel_rfl)(q:MX s.K=true:=by kernel_rfl):GG P fn R B T s g w :=
 V7 _ q (λK=>let ⟨e,he⟩:=K.sj t;let ⟨d,h1,h2⟩:=Ia r;aA j _ _ b e a (0,0) d m he h1 (by cases d<;>first|rfl|cases h2) k) h
theorem qE2(p u:Tmp)(c:TypeId)(i b:Nat)(a:Array Value)(v:Value)(h:Kn B g w s.L->R (.returned (.tuple #[.agg a,v])) w)(y:(s.L[i]?).map (λx=>(x.g,CV x.o,E6 x.o))=some (b,a,true):=by kernel_rfl)(j:fn.results=#[.cell p c,.tmp u]:=by kernel_rfl)(m:s.f.act.tmps.getD p undef=pt b 0:=by kernel_rfl)(t:s.f.act.tmps.getD u undef=v:=by kernel_rfl)(r:G4 P c=true:=by kernel_rfl)(k:(P.info? c).map (·.size)=some a.size:=by kernel_rfl)(q:MX s.K=true:=by kernel_rfl):GG P fn R B T s g w :=
 V7 _ q (λK=>let ⟨e,he⟩:=K.sj y;let ⟨d,h1,h2⟩:=Ia r;by rw[<- t];exact UM j _ _ b e a (0,0) d m he h1 (by cases d<;>first|rfl|cases h2) k) h
theorem qE3(p u k:Tmp)(j:TypeId)(i b:Nat)(a:Array Value)(v m:Value)(h:Kn B g w s.L->R (.returned (.tuple #[.agg a,v,m])) w)(D:(s.L[i]?).map (λx=>(x.g,CV x.o,E6 x.o))=some (b,a,true):=by kernel_rfl)(q:fn.results=#[.cell p j,.tmp u,.tmp k]:=by kernel_rfl)(t:s.f.act.tmps.getD p undef=pt b 0:=by kernel_rfl)(C:s.f.act.tmps.getD u undef=v:=by kernel_rfl)(c:s.f.act.tmps.getD k undef=m:=by kernel_rfl)(A:G4 P j=true:=by kernel_rfl)(r:(P.info? j).map (·.size)=some a.size:=by kernel_rfl)(y:MX s.K=true:=by kernel_rfl):GG P fn R B T s g w :=
 V7 _ y (λK=>let ⟨e,he⟩:=K.sj D;let ⟨d,h1,h2⟩:=Ia A;by rw[<- C,<- c];exact jU q _ _ b e a (0,0) d t he h1 (by cases d<;>first|rfl|cases h2) r) h
theorem qE4(p y:Tmp)(v c:TypeId)(i b j m:Nat)(k a:Array Value)(h:Kn B g w s.L->R (.returned (.tuple #[.agg k,.agg a])) w)(G:(s.L[i]?).map (λx=>(x.g,CV x.o,E6 x.o))=some (b,k,true):=by kernel_rfl)(u:(s.L[j]?).map (λx=>(x.g,CV x.o,E6 x.o))=some (m,a,true):=by kernel_rfl)(A:fn.results=#[.cell p v,.cell y c]:=by kernel_rfl)(D:s.f.act.tmps.getD p undef=pt b 0:=by kernel_rfl)(r:s.f.act.tmps.getD y undef=pt m 0:=by kernel_rfl)(F:G4 P v=true:=by kernel_rfl)(t:G4 P c=true:=by kernel_rfl)(C:(P.info? v).map (·.size)=some k.size:=by kernel_rfl)(q:(P.info? c).map (·.size)=some a.size:=by kernel_rfl)(E:MX s.K=true:=by kernel_rfl):GG P fn R B T s g w :=
 V7 _ E (λK=>let ⟨e,he⟩:=K.sj G;let ⟨e',he'⟩:=K.sj u;let ⟨d,h1,h2⟩:=Ia F;let ⟨d',h3,h4⟩:=Ia t;jy A _ _ b m e e' k a (0,0) (0,0) d d' D he h1 (by cases d<;>first|rfl|cases h2) C r he' h3 (by cases d'<;>first|rfl|cases h4) q) h
theorem qE5(p C u:Tmp)(A c:TypeId)(i b j m:Nat)(k a:Array Value)(v:Value)(h:Kn B g w s.L->R (.returned (.tuple #[.agg k,.agg a,v])) w)(J:(s.L[i]?).map (λx=>(x.g,CV x.o,E6 x.o))=some (b,k,true):=by kernel_rfl)(y:(s.L[j]?).map (λx=>(x.g,CV x.o,E6 x.o))=some (m,a,true):=by kernel_rfl)(D:fn.results=#[.cell p A,.cell C c,.tmp u]:=by kernel_rfl)(F:s.f.act.tmps.getD p undef=pt b 0:=by kernel_rfl)(r:s.f.act.tmps.getD C undef=pt m 0:=by kernel_rfl)(I:s.f.act.tmps.getD u undef=v:=by kernel_rfl)(H:G4 P A=true:=by kernel_rfl)(t:G4 P c=true:=by kernel_rfl)(E:(P.info? A).map (·.size)=some k.size:=by kernel_rfl)(q:(P.info? c).map (·.size)=some a.size:=by kernel_rfl)(G:MX s.K=true:=by kernel_rfl):GG P fn R B T s g w :=
 V7 _ G (λK=>let ⟨e,he⟩:=K.sj J;let ⟨e',he'⟩:=K.sj y;let ⟨d,h1,h2⟩:=Ia H;let ⟨d',h3,h4⟩:=Ia t;by rw[<- I];exact jz D _ _ b m e e' k a (0,0) (0,0) d d' F he h1 (by cases d<;>first|rfl|cases h2) E r he' h3 (by cases d'<;>first|rfl|cases h4) q) h
theorem qN(h:NodeAt g w i nb ob x p)(b:GG P fn R B T ⟨s.K,s.f,BM s.L++[⟨nb,.cells (AF i ob p x) 132,.n 0 i,false⟩]⟩ g w)(a:s.L.all (λy=>(Tg.n 0 i).ne y.t)=true:=by kernel_rfl):GG P fn R B T s g w:=Iy nb _ 0 i h.row h.tag h.rp a b
theorem qO(h:OutAt g w ob lt tl ls ts)(b:GG P fn R B T ⟨s.K,s.f,BM s.L++[⟨ob,.cells #[lt.v,tl.v] 103,.n 50 0,false⟩]⟩ g w)(a:s.L.all (λy=>(Tg.n 50 0).ne y.t)=true:=by kernel_rfl):GG P fn R B T s g w:=Iy ob _ 50 0 h.row h.tag h.rp a b
theorem qS0(n:Nat)(m:List Bool){f:FuncId}{j:Array Value}{i nb a:Nat}{v:Value}{p:Nod}{k:List Let}{q:List Tol}(u:Calls P f j w (NP i nb a g w v p k q))(C:∀ g' w' x lt tl,NodeAt g' w' i nb a x p->OutAt g' w' a lt tl k q->Cg B (TN i) g w g' w'->GG P fn R B T ⟨(nxt s n v (AH m s.L)).s.K,(nxt s n v (AH m s.L)).s.f,BM (BM (nxt s n v (AH m s.L)).s.L++[⟨nb,.cells (AF i a p x) 132,.n 0 i,false⟩])++[⟨a,.cells #[lt.v,tl.v] 103,.n 50 0,false⟩]⟩ g' w')(D:∀ W,Dd P s n W=some (.ok (.enter f j) W):=by intro _;kernel_rfl)(A:K3 s n=true:=by kernel_rfl)(h:(nxt s n undef (AH m s.L)).o.map Ob.l'=(nxt s n undef (AH m s.L)).o.map Ob.r':=by kernel_rfl)(r:(AH m s.L).all (λx=>(TN i).all λt=>x.t.ne t)=true:=by kernel_rfl)(b:(nxt s n v (AH m s.L)).s.L.all (λy=>(Tg.n 0 i).ne y.t)=true:=by kernel_rfl)(d:∀ x:NX,(BM (nxt s n v (AH m s.L)).s.L++[(⟨nb,.cells (AF i a p x) 132,.n 0 i,false⟩:Sh)]).all (λy=>(Tg.n 50 0).ne y.t)=true:=by intro _;kernel_rfl):GG P fn R B T s g w :=
 qG n (TN i) m u (λ_ w' ⟨g',e,M,c⟩=>⟨v,g',e,c,M.new,let ⟨x,lt,tl,hN,hO,_⟩:=M;qN hN (qO hO (C g' w' x lt tl hN hO c.ret) (d x)) b⟩) D A h r
theorem qS(n:Nat)(m:List Bool){f:FuncId}{D:Array Value}{i nb a H:Nat}{d:List Tg}{e:Gh}{A:World}{Y:NX}{q u:S3}{v:Value}{F p:Nod}{b E:List Let}{c G:List Tol}(I:NodeAt e A i nb a Y F)(J:OutAt e A a q u b c)(C:Cg H d e A g w)(N:NS i nb a g w F b c->Calls P f D w (NP i nb a g w v p E G))(Q:∀ g' w' x lt tl,NodeAt g' w' i nb a x p->OutAt g' w' a lt tl E G->Cg B (TN i) g w g' w'->GG P fn R B T ⟨(nxt s n v (AH m s.L)).s.K,(nxt s n v (AH m s.L)).s.f,BM (BM (nxt s n v (AH m s.L)).s.L++[⟨nb,.cells (AF i a p x) 132,.n 0 i,false⟩])++[⟨a,.cells #[lt.v,tl.v] 103,.n 50 0,false⟩]⟩ g' w')(X:Tg.z∉d:=by simp)(S:∀ r,r<6->Tg.n r i∉d:=by simp)(U:∀ r,50<=r->Tg.n r 0∉d:=by simp)(V:∀ W,Dd P s n W=some (.ok (.enter f D) W):=by intro _;kernel_rfl)(O:K3 s n=true:=by kernel_rfl)(k:(nxt s n undef (AH m s.L)).o.map Ob.l'=(nxt s n undef (AH m s.L)).o.map Ob.r':=by kernel_rfl)(M:(AH m s.L).all (λx=>(TN i).all λt=>x.t.ne t)=true:=by kernel_rfl)(h:(nxt s n v (AH m s.L)).s.L.all (λy=>(Tg.n 0 i).ne y.t)=true:=by kernel_rfl)(j:∀ x:NX,(BM (nxt s n v (AH m s.L)).s.L++[(⟨nb,.cells (AF i a p x) 132,.n 0 i,false⟩:Sh)]).all (λy=>(Tg.n 50 0).ne y.t)=true:=by intro _;kernel_rfl):GG P fn R B T s g w :=
 Af λK=>qS0 n m (N (nsC I J C K X S U)) Q V O k M h j
theorem qF{a:Gh}{b:World}(d:NodeAt a b i nb ob x p)(e:OutAt a b ob lt tl ls ts)(c:Cg B' T' a b g w)(C:Cg w0.heap.size (TN i) g0 w0 g w)(o:Tg.z∉T':=by simp)(h:∀ r,r<6->Tg.n r i∉T':=by simp)(j:∀ r,50<=r->Tg.n r 0∉T':=by simp)(k:Kn w0.heap.size g w s.L->(results fn s.f.act.tmps).run P w=.ok v w:=by intro _;kernel_rfl)(m:MX s.K=true:=by kernel_rfl):GG P fn (NP i nb ob g0 w0 v p ls ts) w0.heap.size T s g w :=
 qE v (λK=>⟨_,rfl,nsC d e c K o h j,C⟩) k m
theorem Kn.nd(h:Kn B g w L)(k:Nat)(a:FSl g w x.tape p.d)(c:FSv g w x.ln p.vo.vs)(e:∀ j,j<5->FSv g w (x.hv j) (p.bn.an j).vs)(f:∃ vs,OwnS g w (.n 1 i) true 1 1 x.synced vs/\Pends g w nb vs p.bu)(m:OwnS g w (.n 2 i) false 24 5 x.fv (cmL p.bn.fv))(o:OwnS g w (.n 3 i) true 24 5 x.ae (cmL p.ae))(r:OwnS g w (.n 4 i) false 24 5 x.av (cmL p.av))(s:Xe g w i p.bN x.bN)(t:p.up=true->∃ b,x.bN=some b)(u:L[k]?=some ⟨nb,.cells (AF i ob p x) 132,.n 0 i,false⟩:=by kernel_rfl):NodeAt g w i nb ob x p :=
 have q:=h.rk k nb _ 0 i u
 ⟨q.1,q.2.1,q.2.2,a,c,e,f,m,o,r,s,t⟩
theorem Kn.sq{C:Nat}{f:List Tg}(h:Kn B g w L)(k:Nat)(a:NodeAt g0 w0 i nb ob x0 p0)(c:Cg C f g0 w0 g w)(I:L[k]?=some ⟨nb,.cells (AF i ob p x) 132,.n 0 i,false⟩:=by kernel_rfl)(e:Tg.z∉f:=by simp)(b:∀ r,1<=r->r<6->Tg.n r i∉f:=by simp;try omega)(o:x=x0:=by rfl)(s:p.d=p0.d:=by rfl)(t:p.vo.vs=p0.vo.vs:=by rfl)(u:p.bn.an=p0.bn.an:=by rfl)(v:p.bu=p0.bu:=by rfl)(y:p.bn.fv=p0.bn.fv:=by rfl)(A:p.ae=p0.ae:=by rfl)(D:p.av=p0.av:=by rfl)(E:p.bN=p0.bN:=by rfl)(m:p.up=p0.up:=by rfl):NodeAt g w i nb ob x p:=by
 have q:=h.rk k nb _ 0 i I;subst o;obtain⟨vs,F,G⟩:=a.bu;exact⟨q.1,q.2.1,q.2.2,by rw[s];exact a.tape.ch c e,by rw[t];exact a.ln.ch c e,by rw[u];exact λj H=>(a.an j H).ch c e,by rw[v];exact⟨vs,F.ch c (b 1 (by omega) (by omega)) (by simp),G.ch c e⟩,by rw[y];exact a.fv.ch c (b 2 (by omega) (by omega)) (by simp),by rw[A];exact a.ae.ch c (b 3 (by omega) (by omega)) (by simp),by rw[D];exact a.av.ch c (b 4 (by omega) (by omega)) (by simp),by rw[E];exact a.bN.ch c (b 5 (by omega) (by omega)),by rw[m];exact a.rE⟩
theorem Kn.od(h:Kn B g w L)(k:Nat)(a:∃ bs:List Nat,OwnS g w (.n 51 0) false 180 1 lt (bs.map (pt · 0))/\Lets g w bs ls)(b:OwnS g w (.n 52 0) false 138 5 tl (ts.flatMap FT))(c:L[k]?=some ⟨ob,.cells #[lt.v,tl.v] 103,.n 50 0,false⟩:=by kernel_rfl):OutAt g w ob lt tl ls ts :=
 have q:=h.rk k ob _ 50 0 c
 ⟨q.1,q.2.1,q.2.2,a,b⟩
end
end
section
structure RdC(w:World)(x:S3)(l:List Cmd):Prop where
 len:x.n=l.length
 cap:x.n<=x.c
 rP:x.a=none->x.c=0
 ex:l=[]\/∃ b off,x.a=some ⟨b,off,none⟩/\b<w.heap.size/\∀ j u,(cmL l)[j]?=some u->w.cell? ⟨b,off+j,none⟩=some u
variable{g:Gh}{l:List Cmd}{w:World}{x:S3}
theorem OwnS.rd{τ:Tg}{i:Bool}{e:TypeId}(h:OwnS g w τ i e 5 x (cmL l)):RdC w x l:=by
 have c:=h.num;rcases h.ex with⟨h1,h2,h3⟩|⟨b,cur,h1,h2,h3,h4,h5,h6,h7,h8⟩
 .exact⟨c,by omega,λ_=>h3,.inl (Y' (by omega))⟩
 .refine⟨c,h3,λh=>(by rw[h1]at h;cases h),.inr ⟨b,0,h1,rl h2,λj u f=>?_⟩⟩;obtain⟨k,a,_,d⟩:=h.cell f;rw[h1]at a
  simp only[X',Addr.mk.injEq,and_true]at a;subst a;rw[mR];exact d
theorem RdC.af{d:World}(h:RdC w x l)(b:Bw w d):RdC d x l :=
 ⟨h.len,h.cap,h.rP,h.ex.imp id λ⟨k,a,e,c,f⟩=>⟨k,a,e,Z' c b.size,λj u g=>(b.cell (p:=⟨k,a+j,none⟩) c).trans (f j u g)⟩⟩
def S3.cut(x:S3)(l h:Nat):S3:=⟨if x.c=l then x.a else x.a.map (·.add (l*5)),h-l,x.c-l⟩
theorem Rc.drop(h:Rc g w x l){k:Nat}(i:k<=l.length):Rc g w (x.cut k x.n) (l.drop k):=by
 have e:=h.len;have f:=h.cap;refine⟨by simp[S3.cut,e],by simp only[S3.cut];omega,λc=>?_,?_⟩
 .simp only[S3.cut]at c ⊢;split at c
  .omega
  .cases ha:x.a with
   | none=>have:=h.rP ha;omega
   | some a=>rw[ha]at c;cases c
 .rcases h.ex with rfl|⟨b,off,h1,h2,h3,h4⟩
  .exact .inl (by simp)
  .by_cases he:k=l.length
   .exact .inl (by rw[he];simp)
   .refine .inr ⟨b,off+k*5,?_,h2,λj u d=>?_,?_⟩
    .simp only[S3.cut];rw[if_neg (by omega),h1];simp only[mY,X'];unfold Addr.add;split
     .rename_i h0;rw[show k=0 by omega];simp
     .simp
    .rw[<- Lj,nc]at d
     have:=h3 _ u d;rw[show off+k*5+j=off+(5*k+j)by omega];exact this
    .rcases h4 with h4|h4
     .exact .inl h4
     .right;rw[mm];omega
theorem Rc.addr(h:Rc g w x l){k:Nat}(c:k<l.length):∃ b off,x.a=some ⟨b,off,none⟩:=by
 rcases h.ex with rfl|⟨b,off,h2,_⟩
 .simp at c
 .exact⟨b,off,h2⟩
theorem Rc.cellAt(h:Rc g w x l){b d j q:Nat}{c:Cmd}{u:Value}(f:x.a=some ⟨b,d,none⟩)(e:l[j]?=some c)(i:(cmV c)[q]?=some u):w.cell? ⟨b,d+5*j+q,none⟩=some u:=by
 rcases h.ex with rfl|⟨b',off',h1,h2,h3,_⟩
 .cases e
 .rw[f]at h1
  simp only[X',Addr.mk.injEq,and_true]at h1;obtain⟨rfl,rfl⟩:=h1;rw[m9];exact h3 _ u (OL e i)
theorem RdC.cellAt(h:RdC w x l){b d j q:Nat}{c:Cmd}{u:Value}(f:x.a=some ⟨b,d,none⟩)(e:l[j]?=some c)(g:(cmV c)[q]?=some u):w.cell? ⟨b,d+5*j+q,none⟩=some u:=by
 rcases h.ex with rfl|⟨b',off',h1,h2,h3⟩
 .cases e
 .rw[f]at h1
  simp only[X',Addr.mk.injEq,and_true]at h1;obtain⟨rfl,rfl⟩:=h1;rw[m9];exact h3 _ u (OL e g)
theorem RdC.addr(h:RdC w x l){k:Nat}(c:k<l.length):∃ b off,x.a=some ⟨b,off,none⟩:=by
 rcases h.ex with rfl|⟨b,off,h2,_⟩
 .simp at c
 .exact⟨b,off,h2⟩
theorem XB(l:List Cmd)(k:Nat){j:Nat}{u:Value}(h:(cmL (l.take k))[j]?=some u):(cmL l)[j]?=some u:=by
 have a:cmL l=cmL (l.take k)++cmL (l.drop k):=by rw[<- Cu,np]
 rw[a,mr (V'.1 h).1];exact h
theorem RdC.take(h:RdC w x l){k:Nat}(g:k<=l.length):RdC w (x.cut 0 k) (l.take k):=by
 have i:=h.len;have f:=h.cap;have c:(x.cut 0 k).a=x.a:=by
  simp only[S3.cut];split
  .rfl
  .cases x.a with
   | none=>rfl
   | some a=>simp[Addr.add]
 refine⟨by simp[S3.cut];omega,by simp only[S3.cut];omega,λd=>?_,?_⟩
 .rw[c]at d
  have:=h.rP d;simp only[S3.cut];omega
 .rcases h.ex with rfl|⟨b,off,h1,h2,h3⟩
  .exact .inl (by simp)
  .exact .inr ⟨b,off,by rw[c];exact h1,h2,λj u e=>h3 j u (XB l k e)⟩
end
section
variable{W:World}
section
theorem sz5:(Go.sizeOf (prog.elem 48)).run prog W=.ok 5 W:=by kernel_rfl
theorem unC:prog.underlying 48=some (.slice (prog.elem 48)):=by kernel_rfl
theorem iD(x:S3)(k:Nat)(a:k<=x.n):(Instr.sliceAt 48 x.v (some (iv (k:Int))) none none).run prog W=.ok (S3.v (x.cut k x.n)) W:=by
 rw[run_sliceAt_slice _ _ _ _ _ _ unC,run_slice_l (P:=prog) (w:=W) _ _ _ _ unC .i64 k (by omega) (by omega),sz5];simp[Result.andThen,sliced,S3.cut]
theorem kw(x:S3)(k:Nat)(a:k<=x.c):(Instr.sliceAt 48 x.v none (some (iv (k:Int))) none).run prog W=.ok (S3.v (x.cut 0 k)) W:=by
 rw[run_sliceAt_slice _ _ _ _ _ _ unC,run_slice_h (P:=prog) (w:=W) _ _ _ _ unC .i64 k (by omega) (by omega),sz5];simp[Result.andThen,sliced,S3.cut]
variable{b k off:Nat}{x:S3}{y:Operand}
theorem kt(d:x.a=some ⟨b,off,none⟩)(k:Nat)(f:k<x.n)(e:x.n<=x.c):(Instr.sliceAt 48 x.v (some (iv (k:Int))) none none).run prog W=.ok (.slice (some ⟨b,off+5*k,none⟩) (x.n-k) (x.c-k)) W:=by
 rw[iD x k (by omega)];unfold S3.v S3.cut;simp only;rw[if_neg (by omega),d];simp only[mY,Addr.add];split
 .rename_i h0;rw[show k=0 by omega];rfl
 .simp only[oV]
theorem ky{P:Program}{x:Operand}(a b:Nat)(c:P.underlying 3=some (.int .i64))(h:b<=a)(d:a<4611686018427387904):(do Go.eqGuard .sub 3 x y (iv (a:Int)) (iv (b:Int));Go.binOp .sub 3 (iv (a:Int)) (iv (b:Int)):Sem Value).run P W=.ok (iv ((a-b:Nat):Int)) W:=by
 rw[ZB _ _ c (by omega)]
 congr 3
 omega
theorem jO{g:Gh}{l:List Cmd}(e:x.a=some ⟨b,off,none⟩)(h:Rc g W x l)(k:Nat)(f:k<l.length):∀ j u,(cmL (l.drop k))[j]?=some u->W.cell? ((⟨b,off+5*k,none⟩:Addr).add j)=some u:=by
 intro j u d;rcases h.ex with rfl|⟨b',off',h1,h2,h3,h4⟩
 .simp at f
 .rw[e]at h1
  simp only[X',Addr.mk.injEq,and_true]at h1;obtain⟨rfl,rfl⟩:=h1;rw[<- Lj,nc]at d
  have:=h3 _ u d;have c:(⟨b,off+5*k,none⟩:Addr).add j=⟨b,off+5*k+j,none⟩:=by unfold Addr.add;split<;>simp_all
  rw[c,show off+5*k+j=off+(5*k+j)by omega];exact this
theorem Om(c:x.a=some ⟨b,off,none⟩)(j:Nat)(d:j<x.n):(Instr.indexAt 48 x.v (iv (j:Int))).run prog W=.ok (pt b (off+5*j)) W:=by
 unfold S3.v;rw[c];exact Pm (P:=prog) (e:=24) (z:=5) underlying48 (by kernel_rfl) (by kernel_rfl) d _ rfl
theorem Wq(c:Cmd)(h:∀ j u,(cmV c)[j]?=some u->W.cell? ⟨b,k+j,none⟩=some u):(Instr.loadAt 24 (pt b k)).run prog W=.ok (.agg #[iv c.k,iv c.c,iv c.s,iv c.n,iv c.v]) W:=by
 have a:=run_loadVar_mid (P:=prog) W b k 24 (cmV c) _ (λj u d=>h j u d) underlying24 rfl (by kernel_rfl);simp only[Instr.loadAt,Instr.sureAddr,Sem.run_bind,Sem.run_pure,Result.andThen_ok];exact a
theorem UF(c:x.a=some ⟨b,off,none⟩)(j:Nat)(d:j<x.n):(Instr.indexAt 112 x.v (iv (j:Int))).run prog W=.ok (pt b (off+8*j)) W:=by
 unfold S3.v;rw[c];exact Pm (P:=prog) (e:=177) (z:=8) underlying112 (by kernel_rfl) (by kernel_rfl) d _ rfl
theorem dM(v:Vt)(h:W.rangeAt b k (vtC v)):(Instr.loadAt 177 (pt b k)).run prog W=.ok (.agg #[iv v.bt,iv v.b.r,iv v.b.n,iv v.w.k,iv v.w.c,iv v.w.s,iv v.w.n,iv v.w.v]) W:=by
 have a:=run_loadVar_mid (P:=prog) W b k 177 (vtC v) _ h underlying177 rfl (by kernel_rfl);simp only[Instr.loadAt,Instr.sureAddr,Sem.run_bind,Sem.run_pure,Result.andThen_ok];exact a
theorem jf(u v:Vt):decide (u.bt=v.bt/\u.b.r=v.b.r/\u.b.n=v.b.n/\u.w.k=v.w.k/\u.w.c=v.w.c/\u.w.s=v.w.s/\u.w.n=v.w.n/\u.w.v=v.w.v)=decide (u=v):=by
 apply na.2;constructor
 .rintro⟨a1,a2,a3,a4,a5,a6,a7,a8⟩;exact(Vt.eq_iff u v).1 ⟨a1,(Bal.eq_iff _ _).1 ⟨a2,a3⟩,(Cmd.eq_iff _ _).1 ⟨a4,a5,a6,a7,a8⟩⟩
 .rintro rfl;exact⟨rfl,rfl,rfl,rfl,rfl,rfl,rfl,rfl⟩
theorem jZ{x:Operand}(a b:Vt):(do Go.eqGuard .eql 177 x y (.agg #[iv a.bt,iv a.b.r,iv a.b.n,iv a.w.k,iv a.w.c,iv a.w.s,iv a.w.n,iv a.w.v]) (.agg #[iv b.bt,iv b.b.r,iv b.b.n,iv b.w.k,iv b.w.c,iv b.w.s,iv b.w.n,iv b.w.v]);Go.binOp .eql 177 (.agg #[iv a.bt,iv a.b.r,iv a.b.n,iv a.w.k,iv a.w.c,iv a.w.s,iv a.w.n,iv a.w.v]) (.agg #[iv b.bt,iv b.b.r,iv b.b.n,iv b.w.k,iv b.w.c,iv b.w.s,iv b.w.n,iv b.w.v]):Sem Value).run prog W=.ok (.bool (decide (a=b))) W:=by
 have d:=Yc a.bt a.b.r a.b.n a.w.k a.w.c a.w.s a.w.n a.w.v b.bt b.b.r b.b.n b.w.k b.w.c b.w.s b.w.n b.w.v W;rw[jf]at d
 have e:(Go.eqGuard .eql 177 x y (.agg #[iv a.bt,iv a.b.r,iv a.b.n,iv a.w.k,iv a.w.c,iv a.w.s,iv a.w.n,iv a.w.v]) (.agg #[iv b.bt,iv b.b.r,iv b.b.n,iv b.w.k,iv b.w.c,iv b.w.s,iv b.w.n,iv b.w.v])).run prog W=.ok () W:=by kernel_rfl
 rw[Sem.run_bind,e,Result.andThen_ok];exact d
end
end
theorem D3{W:World}{ty:TypeId}{c:TypeDesc}{b k:Nat}{v:Value}(g:prog.underlying ty=some c)(d:c.isRow=false)(e:W.cell? ⟨b,k,none⟩=some v):(Instr.loadAt ty (pt b k)).run prog W=.ok v W:=by
 have a:(isAgg ty).run prog W=.ok false W:=by
  unfold isAgg;rw[Sem.run_bind,run_underlying g W];cases c<;>first|rfl|(simp only[TypeDesc.isRow]at d;cases d)
 have f:(loadVar ty ⟨b,k,none⟩).run prog W=.ok v W:=by simp[loadVar,a,e,go_sem]
 simp only[Instr.loadAt,Instr.sureAddr,Sem.run_bind,Sem.run_pure,Result.andThen_ok,f]
end
end Go.Proofs.YtdjfdfpkkenjbadGreatDoor
