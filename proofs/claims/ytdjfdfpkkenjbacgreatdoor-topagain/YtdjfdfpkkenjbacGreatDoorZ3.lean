/- Part 3 of the walk. -/
import Derived.Laws.AppendOwn
import Derived.Great.BuildSlice
import Derived.Test.YtdjfdfpkkenjbacGreatDoorZ2
set_option maxRecDepth 100000
set_option maxHeartbeats 4000000
open Go.Proofs.Tryz
set_option linter.unusedVariables false
namespace Go.Proofs.YtdjfdfpkkenjbacGreatDoor
section
open Go.RowKit
section
variable{P:Program}{fn:Func}{R:Ending->World->Prop}{B:Nat}{T:List Tg}{g:Gh}{w:World}
section
variable{s:Xs}
theorem I2(b:Nat)(o:Obj)(r i:Nat)(a:w.heap[b]?=some o)(c:g.t b=.n r i)(d:g.k b=0)(e:s.L.all (λy=>(Tg.n r i).ne y.t)=true)(h:GG P fn R B T ⟨s.K,s.f,BM s.L++[⟨b,o,.n r i,false⟩]⟩ g w):GG P fn R B T s g w :=
 Cr ⟨b,o,.n r i,false⟩ (λ_=>⟨a,c,λh=>(by cases h),λ_=>d⟩) (by show(true&&(false||_))=true;rw[p8,Bool.true_and];exact e) h
theorem cP(a:Nat)(v:Value)(h:Kn B g w s.L->Df P s a w=some (.ok (.value v) w))(c:(nxt s a undef s.L).o.map Ob.l'=(nxt s a undef s.L).o.map Ob.r')(f:GG P fn R B T (nxt s a v s.L).s g w):GG P fn R B T s g w:=by
 refine Af λe=>?_;have b:=h e;unfold Df at b;refine L9 a s.L c ?_ λ_ j i o d=>?_
 .cases hx:opN s a with
  | none=>rw[hx]at b;cases b
  | some x=>rfl
 .rw[d]at b
  exact⟨v,w,g,.inl (by simpa using b),e,f⟩
def tkN(s:Xs)(i':Nat)(v:Value)(ld:Bool):Rz:=match s.K with
 | .x ops (u+1) Ld e L0::K=>match ops[i']? with
  | some o=>⟨⟨.x ops u (Ld.setIfInBounds i' true) e L0::K,s.f.put o.dst v,s.L⟩,[.b (s.f.au ops o),.b (tkB ops Ld e i' ld&&o.dst.isSome&&(!ld||!Ld.getD e false)),.l (cond (Ld.getD e false) [] L0) (cond (Ld.getD e false) [] (BM (s.L.take L0.length)))]⟩
  | none=>⟨s,[.b false]⟩
 | _=>⟨s,[.b false]⟩
def ZP(s:Xs):List Sh:=match s.K with|.x _ _ _ _ L0::_=>L0|_=>[]
theorem Qw(k:Nat)(v:Value)(n:Bool)(h:∀ W,(n=true->AZ (ZP s) W)->Df P s k W=some (.ok (.value v) W))(C:(tkN s k undef n).o.map Ob.l'=(tkN s k undef n).o.map Ob.r')(O:GG P fn R B T (tkN s k v n).s g w):GG P fn R B T s g w:=by
 refine⟨λF=>?_⟩;obtain⟨K,f,L⟩:=s;have b:=Ob.all C;have j:=O.ex;unfold tkN at b j;unfold Df opN ZP at h;cases K with
 | nil=>exact absurd (b _ (M' ..)) (by simp[Ob.ok])
 | cons t K =>
  cases t with
  | x ops u Ld e L0 =>
   cases u with
   | zero=>exact absurd (b _ (M' ..)) (by simp[Ob.ok])
   | succ u =>
    simp only at b j h;cases ho:ops[k]? with
    | none=>rw[ho]at b;exact absurd (b _ (M' ..)) (by simp[Ob.ok])
    | some o =>
     simp only[ho,m5,X']at b j h;have H:=b _ (M' ..);have m:=b _ (I' _ (M' ..));have E:=b _ (I' _ (I' _ (M' ..)));simp only[Ob.ok,mG]at H m E;obtain⟨⟨m,p⟩,r⟩:=m;have D:Region.wanted o (yielded ops f.act.tmps)=true:=by rw[f.wanted];exact H
     have y:Sx [(e,AZ L0)] Ld w:=WK (ops:=ops) F.rows E;have i:=j F;simp only[Fm.qZ]at i;have G:∀ c a d v w,Kq P (bodyPost P fn R) K (.panic c) (a.put (some d) v) w->Kq P (bodyPost P fn R) K (.panic c) a w:=λc a d v w=>Kq.panic K c a (some d) v w;cases hdd:o.dst with
     | none=>rw[hdd]at p;cases p
     | some d =>
      rw[hdd]at i
      unfold tkB at m;simp only[mG]at m;obtain⟨ns,⟨⟨⟨⟨I,J⟩,M⟩,N⟩,q⟩⟩:=m;have l:∀ W,(n=true->AZ L0 W)->got P ops f.act W k=some (some d,v,W):=λW z=>by
       unfold got;simp only[ho,D,if_true,f.eval,h W z,hdd]
      cases n with
      | false =>
       rw[cond_false]at q
       refine xB0 u [k] [(d,v)] (λW=>?_) ns ?_ rfl rfl G y i
       .simp only[S6,au,mR,nG,l W (λh=>by cases h)]
       .simp only[MA,mR,nG,oD,qq,p9,mG];exact⟨⟨⟨⟨I,J⟩,M⟩,N⟩,q⟩
      | true =>
       rw[cond_true]at q
       have A:Ld.getD e false=false:=by simpa using r
       refine xC0 u k d (Yb ops k) v (λW z=>l W (λ_=>z)) (y.1 A) ns ?_ rfl G y i;simp only[mR,nG,oD,qq,p9,mG]at q ⊢;exact⟨⟨⟨⟨I,J⟩,M⟩,N⟩,q⟩
  | _=>exact absurd (b _ (M' ..)) (by simp[Ob.ok])
def Qe(s:Xs):Value:=match s.K with|.c (.cond c _ _)::_=>s.f.ev c|_=>undef
def Ln(s:Xs)(t:Bool):Xs:=match s.K with|.c (.cond _ x y)::K=>⟨.c (cond t x y)::K,s.f,s.L⟩|_=>s
theorem gIf(b t:Bool)(j:b=t)(a:Qe s=.bool b)(h:GG P fn R B T (Ln s t) g w):GG P fn R B T s g w:=by
 subst j;refine⟨λi=>?_⟩;obtain⟨K,f,L⟩:=s;unfold Qe at a;have d:=h.ex;unfold Ln at d;cases K with
 | nil=>cases a
 | cons t K =>
  cases t with
  | c x =>
   cases x with
   | cond c x y =>
    simp only at a d;have e:=d i;refine wp_cond (t:=b) (by rw[f.eval];exact a) ?_;cases b<;>exact e
   | _=>cases a
  | _=>cases a
theorem YL{p:Nat->Prop}:∀ k,p k->∃ m,p m/\∀ j,p j->m<=j:=by
 intro k;induction k using Nat.strongRecOn with
 | _ k ih =>
  intro b;by_cases h:∃ j,j<k/\p j
  .obtain⟨j,a,hp⟩:=h;exact ih j a hp
  .exact⟨k,b,λj a=>pH λc=>h ⟨j,c,a⟩⟩
theorem jP{c:Code}{Q:Exit->Act->World->Prop}(b:Nat->Act->World->Prop)(round:∀ k a w,b k a w->c.wp P (Exit.then (λa' w'=>∃ k',k'<k/\b k' a' w') Q) a w)(k:Nat)(a:Act)(w:World)(h:b k a w):(Code.loop c).wp P Q a w:=by
 classical
 have g:∀ a w,(∃ k,b k a w)->∃ m,b m a w/\∀ j,b j a w->m<=j:=λa w ⟨k,q⟩=>YL k q
 let μ:Act->World->Nat:=λa w=>if h:∃ k,b k a w then Classical.choose (g a w h)else 0
 refine wp_loop (λa w=>∃ k,b k a w) μ ⟨k,h⟩ λa w l=>?_;have o:μ a w=Classical.choose (g a w l):=dif_pos l;refine wp_mono (round _ a w (Classical.choose_spec (g a w l)).1) λe a' w' p=>?_;cases e with
 | normal =>
  obtain⟨k',n,f⟩:=p;refine⟨⟨k',f⟩,?_⟩;have d:∃ k,b k a' w':=⟨k',f⟩;have i:μ a' w'=Classical.choose (g a' w' d):=dif_pos d;show μ a' w'<μ a w;rw[o,i];exact pT ((Classical.choose_spec (g a' w' d)).2 k' f) n
 | _=>exact p
theorem jA{K:List Kt}{body:Code}{n:Nat}(d:Nat->Gh->World->List (Nat × Value)->List Sh->Prop)(round:∀ k g w e z L,d k g w e L->∀ J:Act->World->Prop,(∀ k' g' w' e' z' L',k'<k->d k' g' w' e' L'->Kn B g' w' L'->J (⟨n,e',z'⟩:Fm).act w')->GG P fn R B T ⟨.c body::.j J::K,⟨n,e,z⟩,L⟩ g w){k:Nat}{e:List (Nat × Value)}{z:Nat->Value}{L:List Sh}(h:d k g w e L):GG P fn R B T ⟨.c (.loop body)::K,⟨n,e,z⟩,L⟩ g w:=by
 refine⟨λm=>?_⟩;refine jP (λk a w=>∃ g e z L,d k g w e L/\Kn B g w L/\a=(⟨n,e,z⟩:Fm).act) (λk a w f=>?_) k _ w ⟨g,e,z,L,h,m,rfl⟩;obtain⟨g,e,z,L,f,m,rfl⟩:=f;exact(round k g w e z L f (λr w'=>∃ k',k'<k/\∃ g e z L,d k' g w' e L/\Kn B g w' L/\r=(⟨n,e,z⟩:Fm).act) (λk' g' w' e' z' L' q i p=>⟨k',q,g',e',z',L',i,p,rfl⟩)).ex m
end
end
section
structure S3 where
 a:Option Addr
 n:Nat
 c:Nat
abbrev S3.v(x:S3):Value:=.slice x.a x.n x.c
def s30:S3:=⟨none,0,0⟩
def Ji(g:Gh)(w:World):Prop:=∀ b,w.heap.size<=b->g.t b=.z/\g.k b=0
structure OwnS(g:Gh)(w:World)(τ:Tg)(kp:Bool)(e:TypeId)(sz:Nat)(x:S3)(xs:List Value):Prop where
 len:xs.length=x.n*sz
 ex:(x.a=none/\x.n=0/\x.c=0)\/∃ b cur,x.a=some ⟨b,0,none⟩/\w.heap[b]?=some (.cells cur e (0,0))/\x.n<=x.c/\x.c<=maxLen/\cur.size=x.c*sz/\cur.toList.take (x.n*sz)=xs/\g.t b=τ/\g.k b=(if kp then xs.length else 0)
theorem OwnS.nil(g:Gh)(w:World)(τ:Tg)(a:Bool)(e:TypeId)(b:Nat):OwnS g w τ a e b s30 []:=⟨by simp[s30],.inl ⟨rfl,rfl,rfl⟩⟩
variable{e:TypeId}{g:Gh}{kp:Bool}{sz:Nat}{w:World}{x:S3}{xs:List Value}{τ:Tg}
theorem OwnS.ch{B:Nat}{T:List Tg}{f:Gh}{i:World}(h:OwnS g w τ kp e sz x xs)(c:Cg B T g w f i)(a:τ∉T:=by simp)(d:τ≠.l:=by simp):OwnS f i τ kp e sz x xs:=by
 refine⟨h.len,?_⟩;rcases h.ex with h1|⟨b,cur,h1,h2,h3,h4,h5,h6,h7,h8⟩
 .exact .inl h1
 .have hb:=rl h2;exact .inr ⟨b,cur,h1,(c.same b hb (by rw[h7];exact a) (by rw[h7];exact λh=>absurd h d)).trans h2,h3,h4,h5,h6,(c.tag hb (by rw[h7];exact λh=>absurd h d)).trans h7,by rw[c.rV b hb (by rw[h7];exact a) (by rw[h7];exact λh=>absurd h d)];exact h8⟩
theorem OwnS.cell(h:OwnS g w τ kp e sz x xs){j:Nat}{u:Value}(c:xs[j]?=some u):∃ b,x.a=some ⟨b,0,none⟩/\b<w.heap.size/\w.cell? ⟨b,j,none⟩=some u:=by
 have d:j<xs.length:=(V'.1 c).1;rcases h.ex with⟨h1,h2,h3⟩|⟨b,cur,h1,h2,h3,h4,h5,h6,h7,h8⟩
 .rw[h.len,h2]at d;omega
 .refine⟨b,h1,rl h2,?_⟩;rw[cell_of_row _ _ _ _ _ _ h2];rw[<- h6,nk]at c
  split at c
  .simpa using c
  .cases c
end
section
variable{P:Program}{B:Nat}{T:List Tg}{g:Gh}{w:World}
def Pb(g:Gh)(w:World)(τ:Tg)(k:Nat):Gh:=⟨λb=>if b=w.heap.size then τ else g.t b,λb=>if b=w.heap.size then k else g.k b⟩
def j9(g:Gh)(b k:Nat):Gh:=⟨g.t,λc=>if c=b then k else g.k c⟩
theorem lC{τ:Tg}{I:Bool}{x:S3}{C:List Value}(t S e:TypeId)(J q:Nat)(z:Value)(Y:P.underlying t=some (.slice e))(f:(P.info? e).map (λi=>(i.zero,i.size,i.bytes))=some (some z,J,q))(a0:z.cells.size=J)(a2:0<J)
  (O:τ∈T)(H:OwnS g w τ I e J x C)(hg:Ji g w)(a:Addr)(m c:Nat)(news:List Value)(hm:0<m)(K:news.length=m*J)(r:∀ j u,news[j]?=some u->w.cell? (a.add j)=some u)(h1:∀ u∈news,u.oneCell'=true)
  (L:x.n+m<=maxLen)(y:(x.n+m)*q<=140737488355328) :
  ∃ x' w' g',(Builtin.append_ #[t,t] S #[x.v,.slice (some a) m c]).run P w=.ok (S3.v x') w'/\OwnS g' w' τ I e J x' (C++news)/\x'.n=x.n+m/\Cg B T g w g' w'/\Ji g' w':=by
 obtain⟨i,X,hz,hs,U⟩:∃ i,P.info? e=some i/\i.zero=some z/\i.size=J/\i.bytes=q:=by
  cases hh:P.info? e with
  | none=>rw[hh]at f;cases f
  | some i=>rw[hh]at f;simp only[m5,X',m6]at f;exact⟨i,rfl,f.1,f.2.1,f.2.2⟩
 subst hs;subst U
 obtain⟨xa,h,Q⟩:=x;have A:(C++news).length=(h+m)*i.size:=by rw[E',H.len,K,px]
 have a1:h+m<=9223372036854775807:=by simp only[maxLen]at L;show h+m<=_;omega
 have grown:∀ o,o<h+m->∃ x' g',S3.v x'=.slice (some ⟨w.heap.size,0,none⟩) (h+m) (grownCap w (h+m) o e)/\OwnS g' (w.drew.alloc (.cells (C.toArray++news.toArray++Builtin.zeroCells z.cells (grownCap w (h+m) o e-(h+m))) e)) τ I e i.size x' (C++news)/\x'.n=h+m /\
   Cg B T g w g' (w.drew.alloc (.cells (C.toArray++news.toArray++Builtin.zeroCells z.cells (grownCap w (h+m) o e-(h+m))) e))/\Ji g' (w.drew.alloc (.cells (C.toArray++news.toArray++Builtin.zeroCells z.cells (grownCap w (h+m) o e-(h+m))) e)):=by
  intro o ho;have W:=grownCap_ge w (h+m) o e;have V:grownCap w (h+m) o e<=maxLen:=grownCap_le_maxLen w (h+m) o e L;refine⟨⟨some ⟨w.heap.size,0,none⟩,h+m,grownCap w (h+m) o e⟩,Pb g w τ (if I then(C++news).length else 0),rfl,⟨A,.inr ⟨w.heap.size,_,rfl,heap_alloc_new w.drew _,W,V,?_,?_,if_pos rfl,if_pos rfl⟩⟩,rfl,⟨rfl,rfl,rfl,by simp,λb D=>.inl (if_neg (by omega)),λb D=>?_,λb D _ _=>if_neg (by omega),λb D _ _=>heap_alloc_old w.drew _ D,λb D j G=>World.cell?_of_block (w:=w) (heap_alloc_old w.drew _ D)⟩,λb D=>?_⟩
  .simp only[Array.size_append,oh,size_zeroCells,a0,H.len,K,<- px]
   congr 1
   omega
  .simp only[Array.toList_append,mm];rw[<- mm,<- A];exact pV
  .show _<=(if b=w.heap.size then _ else g.k b);rw[if_neg (by omega)];exact A' _
  .have E:w.heap.size+1<=b:=by simpa using D
   show(if b=w.heap.size then τ else g.t b)=.z/\(if b=w.heap.size then _ else g.k b)=0;rw[if_neg (by omega),if_neg (by omega)];exact hg b (by omega)
 rcases H.ex with⟨h2,h3,h4⟩|⟨b,cur,h2,h3,h4,h5,h6,h7,h8,h9⟩
 .simp only at h2 h3 h4;subst h2 h3 h4;have Z:C=[]:=Y' (by simpa using H.len);subst Z;have N:=run_append_nil (P:=P) w t S e i z Y X hz a m c news K r (by omega) (by omega) (by have D:=y;simp only[mU]at D;omega);obtain⟨x',g',R,p⟩:=grown 0 (by omega);simp only[mU,nC,Array.empty_append]at R p ⊢;exact⟨x',_,g',by rw[R];exact N,p⟩
 .simp only at h2 h4 h5 h6 h7;subst h2;by_cases s:h+m<=Q
  .have hfit:h*i.size+news.length<=cur.size:=by rw[K,h6,<- px];exact oe _ s
   have N:=run_append_room (P:=P) w t S e i Y X b h Q cur h3 a m c news K r h1 s hfit;refine⟨⟨some ⟨b,0,none⟩,h+m,Q⟩,_,j9 g b (if I then(C++news).length else 0),N,⟨A,.inr ⟨b,_,rfl,setRow_heap w b cur _ e _ h3,s,h5,?_,?_,h8,if_pos rfl⟩⟩,rfl,⟨rfl,rfl,rfl,by simp,λ_ _=>.inl rfl,λd M=>?_,λd M F _=>if_neg (λe=>F (by rw[e,h8];exact O)),λd M F _=>setRow_other w b d _ (λe=>F (by rw[e,h8];exact O)),λd M j G=>?_⟩,λd M=>?_⟩
   .simp only[oh,E',j',mo,nF];omega
   .rw[h7,<- A];exact pV
   .show g.k d<=(if d=b then _ else g.k d);split
    .rename_i he;rw[he,h9];cases I<;>simp
    .exact A' _
   .by_cases he:d=b
    .subst he;rw[h9]at G
     cases I with
     | false=>simp at G
     | true =>
      simp only[if_true]at G;rw[cell_of_row _ _ _ _ _ _ (setRow_heap w d cur _ e _ h3),cell_of_row _ _ _ _ _ _ h3];simp only[m7,h7];rw[mm,mt G,<- h7,nk,if_pos (by have:=H.len;simp only at this;omega)];simp
    .exact World.cell?_of_block (w:=w) (setRow_other w b d _ he)
   .have hd':w.heap.size<=d:=by simpa using M
    show g.t d=.z/\(if d=b then _ else g.k d)=0;have:=rl h3;rw[if_neg (by omega)];exact hg d hd'
  .have holds:∀ j u,C[j]?=some u->w.cell? ((⟨b,0,none⟩:Addr).add j)=some u:=λj u G=>by
    obtain⟨b',E,_,hc⟩:=H.cell G;simp only[X',Addr.mk.injEq,and_true]at E;subst E;have:(⟨b,0,none⟩:Addr).add j=⟨b,j,none⟩:=by unfold Addr.add;split<;>simp_all
    rw[this];exact hc
   have N:=run_append_grow (P:=P) w t S e i z Y X hz ⟨b,0,none⟩ h Q C H.len holds a m c news K r (by omega) (by omega) (growslice_fits (by omega) y);obtain⟨x',g',R,p⟩:=grown Q (by omega);exact⟨x',_,g',by rw[R];exact N,p⟩
end
section
variable{P:Program}{fn:Func}{R:Ending->World->Prop}{B:Nat}{T:List Tg}{g:Gh}{w:World}
section
variable{L:List Sh}{S:Sem Next}{i':Nat}{s:Xs}
theorem Kn.at(h:Kn B g w L)(k:Nat){x:Sh}(a:L[k]?=some x):w.heap[x.g]?=some x.o:=(h.row x (mD a)).1
theorem Kn.sU(h:Kn B g w L)(k b:Nat)(a:Array Value)(e:TypeId)(t:Tg)(v:Bool)(c:L[k]?=some ⟨b,.cells a e,t,v⟩):w.heap[b]?=some (.cells a e):=h.at k c
theorem Kn.rm(h:Kn B g w L)(k b:Nat)(o:Obj)(r i:Nat)(c:L[k]?=some ⟨b,o,.n r i,false⟩):w.heap[b]?=some o/\g.t b=.n r i/\g.k b=0 :=
 have a:=h.row _ (mD c)
 ⟨a.1,a.2.1,a.2.2.2 (by simp)⟩
theorem Kn.rk(h:Kn B g w L)(k b:Nat)(o:Obj)(v:Bool)(c:L[k]?=some ⟨b,o,.z,v⟩):w.heap[b]?=some o/\g.t b=.z :=
 have a:=h.row _ (mD c)
 ⟨a.1,a.2.1⟩
theorem Dx(h:Kn B g w L)(k b:Nat)(news:List Value)(e:TypeId)(t:Tg)(v:Bool)(d:L[k]?=some ⟨b,.cells news.toArray e,t,v⟩):∀ j u,news[j]?=some u->w.cell? ((⟨b,0,none⟩:Addr).add j)=some u:=by
 intro j u c;have a:=h.at k d;have:(⟨b,0,none⟩:Addr).add j=⟨b,j,none⟩:=by unfold Addr.add;split<;>simp_all
 rw[this,cell_of_row _ _ _ _ _ _ a];simpa using c
def D5(s:Xs)(i':Nat):Option (Sem Next):=(opN s i').map λx=>execOp s.f.ev x.2.2
theorem DQ(h:D5 s i'=some S){a:Array Oper}{i:Nat}{o:Oper}(b:opN s i'=some (a,i,o)):execOp s.f.ev o=S:=by
 unfold D5 at h;rw[b]at h
 simpa using h
theorem Cp(h:D5 s i'=some S):(opN s i').isSome=true:=by
 unfold D5 at h;cases hx:opN s i' with
 | none=>rw[hx]at h;cases h
 | some x=>rfl
theorem K3(q:Nat){τ:Tg}{K:Bool}{x:S3}{N:List Value}(t M e:TypeId)(p b:Nat)(z:Value)(a:Addr)(m c:Nat)(news:List Value)(Y:OwnS g w τ K e p x N)(f:D5 s q=some (Builtin.append_ #[t,t] M #[x.v,.slice (some a) m c]>>=λv=>pure (.value v)))(D:(nxt s q undef s.L).o.map Ob.l'=(nxt s q undef s.L).o.map Ob.r')(C:s.L.all (λy=>[τ].all λt=>y.t.ne t)=true)(G:P.underlying t=some (.slice e))(h:(P.info? e).map (λi=>(i.zero,i.size,i.bytes))=some (some z,p,b))(H:Nat.beq z.cells.size p=true)(F:0<p)(W:0<m)(V:news.length=m*p)(O:∀ u∈news,u.oneCell'=true)(k:Kn B g w s.L->∀ j u,news[j]?=some u->w.cell? (a.add j)=some u)(r:x.n+m<=maxLen)(d:(x.n+m)*b<=140737488355328)(U:∀ x' g' w',OwnS g' w' τ K e p x' (N++news)->x'.n=x.n+m->(∀ B T,τ∈T->Cg B T g w g' w')->Ji g' w'->GG P fn R B T (nxt s q (S3.v x') s.L).s g' w'):GG P fn R B T s g w:=by
 refine L9 q s.L D (Cp f) λA Z i o E=>?_;obtain⟨x',w',g',X,Q,S,I,J⟩:=lC (P:=P) (B:=w.heap.size) (T:=[τ]) t M e p b z G h (mH H) F (D'.2 rfl) Y A.new a m c news W V (k A) O r d;refine⟨x'.v,w',g',.inl ?_,A.ch I J C,U x' g' w' Q S (λB T C=>(I.ret (B:=B)).mono λt G=>by rw[D'.1 G];exact C) J⟩;rw[DQ f E,Sem.run_bind,X,Result.andThen_ok];rfl
end
end
end
section
section
structure Bal where
 r:Int
 n:Int
theorem Bal.eq_iff(a b:Bal):(a.r=b.r/\a.n=b.n)↔a=b:=by
 cases a;cases b;simp
instance:DecidableEq Bal:=λa b=>decidable_of_iff _ (Bal.eq_iff a b)
structure Cmd where
 k:Int
 c:Int
 s:Int
 n:Int
 v:Int
theorem Cmd.eq_iff(a b:Cmd):(a.k=b.k/\a.c=b.c/\a.s=b.s/\a.n=b.n/\a.v=b.v)↔a=b:=by
 cases a;cases b;simp
instance:DecidableEq Cmd:=λa b=>decidable_of_iff _ (Cmd.eq_iff a b)
structure Vt where
 bn:Int
 b:Bal
 w:Cmd
theorem Vt.eq_iff(a b:Vt):(a.bn=b.bn/\a.b=b.b/\a.w=b.w)↔a=b:=by
 cases a;cases b;simp
instance:DecidableEq Vt:=λa b=>decidable_of_iff _ (Vt.eq_iff a b)
instance:Inhabited Vt:=⟨⟨0,⟨0,0⟩,⟨0,0,0,0,0⟩⟩⟩
structure Acc where
 p:Bal
 vs:List Vt
def Bal.lt(a b:Bal):Prop:=a.r<b.r\/(a.r=b.r/\a.n<b.n)
instance (a b:Bal):Decidable (a.lt b):=by unfold Bal.lt;exact inferInstance
def Bal.key(a:Bal):Int:=5*a.r+a.n
def Ab(a:Bal):Prop:=(1<=a.r/\a.r<=65536)/\0<=a.n/\a.n<=4
instance (a:Bal):Decidable (Ab a):=by unfold Ab;exact inferInstance
def Cmd.e(c:Cmd):Int:=Bh c.k c.c c.s c.n c.v
def Ah(v:Vt):Prop:=(0<=v.bn/\v.bn<=39)/\Ab v.b/\v.w.e=0
instance (v:Vt):Decidable (Ah v):=by unfold Ah;exact inferInstance
def Ao(a:Bal):Prop:=Ab a\/(a.r=0/\a.n=0)
instance (a:Bal):Decidable (Ao a):=by unfold Ao;exact inferInstance
def BL:List Vt->Prop
 | []=>True
 | u::us=>(∀ v∈us,u.bn<v.bn)/\BL us
def UJ:(l:List Vt)->Decidable (BL l)
 | []=>isTrue trivial
 | u::us=>@instDecidableAnd _ _ inferInstance (UJ us)
instance (l:List Vt):Decidable (BL l):=UJ l
def Ag(a:Acc):Prop:=Ao a.p/\(∀ v∈a.vs,Ah v/\¬ a.p.lt v.b)/\BL a.vs
instance (a:Acc):Decidable (Ag a):=by unfold Ag;exact inferInstance
variable{a b:Bal}{l:List Vt}{v:Vt}
theorem Fb(c:Ao a)(d:Ao b):a.lt b↔a.key<b.key:=by
 unfold Ao Ab at c d;unfold Bal.lt Bal.key;omega
theorem DN(c:Ao a)(d:Ao b)(h:a.key=b.key):a=b:=by
 unfold Ao Ab at c d;unfold Bal.key at h;exact(Bal.eq_iff a b).1 (by omega)
theorem Ab.pr(h:Ab a):Ao a:=.inl h
theorem Ab.pos(h:Ab a):5<=a.key:=by unfold Ab at h;unfold Bal.key;omega
def F4(a:Acc):Int:=if Ag a then 0 else 5
def Cl(a:Acc)(b:Bal):Int:=if ¬ Ag a then 5 else if ¬ Ab b then 2 else if b.lt a.p then 7 else 0
def Ba(a:Acc)(v:Vt):Int:=if ¬ Ag a then 5 else if ¬ Ah v then 2 else if v.b.lt a.p then 7 else 0
def Bo:List Vt->Vt->List Vt
 | [],v=>[v]
 | u::us,v=>if u.bn<v.bn then u::Bo us v else if u.bn=v.bn then v::us else v::u::us
theorem BB{u:Vt}(h:BL l):u∈Bo l v↔u=v\/(u∈l/\u.bn≠v.bn):=by
 induction l with
 | nil=>simp[Bo]
 | cons x xs b =>
  obtain⟨c,a⟩:=h;have b:=b a;rw[Bo];split
  .rename_i h1
   rw[mp,b];constructor
   .rintro(rfl|rfl|⟨h2,h3⟩)
    .exact .inr ⟨M',by omega⟩
    .exact .inl rfl
    .exact .inr ⟨I' _ h2,h3⟩
   .rintro(rfl|⟨h2,h3⟩)
    .exact .inr (.inl rfl)
    .rcases mp.1 h2 with rfl|h2
     .exact .inl rfl
     .exact .inr (.inr ⟨h2,h3⟩)
  .split
   .rename_i h1 h2
    rw[mp];constructor
    .rintro(rfl|h3)
     .exact .inl rfl
     .have:=c u h3;exact .inr ⟨I' _ h3,by omega⟩
    .rintro(rfl|⟨h3,h4⟩)
     .exact .inl rfl
     .rcases mp.1 h3 with rfl|h3
      .exact absurd h2 h4
      .exact .inr h3
   .rename_i h1 h2
    rw[mp];constructor
    .rintro(rfl|h3)
     .exact .inl rfl
     .rcases mp.1 h3 with rfl|h4
      .exact .inr ⟨h3,h2⟩
      .have:=c u h4;exact .inr ⟨h3,by omega⟩
    .rintro(rfl|⟨h3,h4⟩)
     .exact .inl rfl
     .exact .inr h3
theorem Jv(v:Vt)(h:BL l):BL (Bo l v):=by
 induction l with
 | nil=>exact⟨λu b=>(O' b).elim,trivial⟩
 | cons x xs ih =>
  obtain⟨c,a⟩:=h;rw[Bo];split
  .rename_i h1
   refine⟨λu b=>?_,ih a⟩;rcases(BB a).1 b with rfl|⟨h2,_⟩
   .exact h1
   .exact c u h2
  .split
   .rename_i h1 h2
    exact⟨λu b=>by have:=c u b;omega,a⟩
   .rename_i h1 h2
    refine⟨λu b=>?_,c,a⟩;rcases mp.1 b with rfl|h3
    .omega
    .have:=c u h3;omega
def BR:List Vt->Option Vt->Option Vt
 | [],o=>o
 | v::l,none=>BR l (some v)
 | v::l,some u=>if u.b.lt v.b then BR l (some v)else BR l (some u)
theorem RJ(l:List Vt)(u:Vt)(k:∀ v∈l,Ao v.b)(f:Ao u.b):∃ x,BR l (some u)=some x/\(x=u\/x∈l)/\u.b.key<=x.b.key/\∀ v∈l,v.b.key<=x.b.key:=by
 induction l generalizing u with
 | nil=>exact⟨u,rfl,.inl rfl,mf _,λ_ h=>by cases h⟩
 | cons v l ih =>
  have i:=k v M';have j:∀ x∈l,Ao x.b:=λx hx=>k x (I' _ hx);rw[BR];split
  .rename_i h1
   have a:=(Fb f i).1 h1;obtain⟨x,e,hx,c,d⟩:=ih v j i;refine⟨x,e,?_,by omega,?_⟩
   .rcases hx with rfl|hx
    .exact .inr M'
    .exact .inr (I' _ hx)
   .intro y hy;rcases mp.1 hy with rfl|hy
    .exact c
    .exact d y hy
  .rename_i h1
   have a:¬ u.b.key<v.b.key:=λg=>h1 ((Fb f i).2 g);obtain⟨x,e,hx,c,d⟩:=ih u j f;refine⟨x,e,?_,c,?_⟩
   .rcases hx with rfl|hx
    .exact .inl rfl
    .exact .inr (I' _ hx)
   .intro y hy;rcases mp.1 hy with rfl|hy
    .omega
    .exact d y hy
theorem Lc(l:List Vt)(a:∀ v∈l,Ao v.b):(l=[]/\BR l none=none)\/∃ x,BR l none=some x/\x∈l/\∀ v∈l,v.b.key<=x.b.key:=by
 cases l with
 | nil=>exact .inl ⟨rfl,rfl⟩
 | cons v l =>
  right;obtain⟨x,e,hx,c,d⟩:=RJ l v (λx hx=>a x (I' _ hx)) (a v M');refine⟨x,e,?_,?_⟩
  .rcases hx with rfl|hx
   .exact M'
   .exact I' _ hx
  .intro y hy;rcases mp.1 hy with rfl|hy
   .exact c
   .exact d y hy
def Ae(l:List Vt)(s:Int):List Vt:=l.filter λv=>decide (v.bn=s)
theorem AL{s:Int}:v∈Ae l s↔v∈l/\v.bn=s:=by simp[Ae]
def BY(ls:List (List Vt))(s:Int):Int:=if ¬ (0<=s/\s<=39)then 2 else if ∀ l∈ls,∀ v∈l,Ah v then 0 else 5
def Eh(ls:List (List Vt))(s:Int):Option Vt:=BR (Ae ls.flatten s) none
def BK(l:List Vt)(v:Vt):Nat:=l.countP λu=>decide (u=v)
def Hj(l:List Vt)(m:Nat):Option Vt:=l.find? λv=>decide (m<2*BK l v)
end
end
section
open Go.RowKit
section
def vtC(v:Vt):List Value:=[.int .i64 v.bn,.int .i64 v.b.r,.int .i64 v.b.n,.int .i64 v.w.k,.int .i64 v.w.c,.int .i64 v.w.s,.int .i64 v.w.n,.int .i64 v.w.v]
def vtA(v:Vt):Array Value:=(vtC v).toArray
theorem CE(v:Vt):(vtC v).length=8:=rfl
theorem fb(v:Vt):∀ u∈vtC v,u.oneCell'=true:=by
 intro u a;simp only[vtC,mp,O',or_false]at a;rcases a with rfl|rfl|rfl|rfl|rfl|rfl|rfl|rfl<;>rfl
def vtL(l:List Vt):List Value:=l.flatMap vtC
theorem MJ(v:Vt)(l:List Vt):vtL (v::l)=vtC v++vtL l:=rfl
theorem TW(l m:List Vt):vtL (l++m)=vtL l++vtL m:=by simp[vtL]
theorem De(l:List Vt):(vtL l).length=l.length*8:=by
 induction l with
 | nil=>rfl
 | cons v l ih=>rw[MJ,E',ih,CE,mJ];omega
theorem Va(l:List Vt):∀ u∈vtL l,u.oneCell'=true:=by
 intro u a;obtain⟨v,_,b⟩:=oU.1 a;exact fb v u b
theorem fc(l:List Vt)(i:Nat)(v:Vt)(h:l[i]?=some v)(j:Nat)(u:Value)(a:(vtC v)[j]?=some u):(vtL l)[8*i+j]?=some u:=by
 induction l generalizing i with
 | nil=>simp at h
 | cons x l ih =>
  have b:j<8:=by have:=(V'.1 a).1;rwa [CE]at this
  rw[MJ];cases i with
  | zero =>
   simp at h;subst h;rw[mt (by rw[CE];omega)];simpa using a
  | succ i =>
   rw[my (by rw[CE];omega),CE,show 8*(i+1)+j-8=8*i+j by omega];exact ih i (by simpa using h)
theorem bv(l:List Vt)(m:Nat)(u:Value)(h:(vtL l)[m]?=some u):∃ v,l[m/8]?=some v/\(vtC v)[m%8]?=some u:=by
 induction l generalizing m with
 | nil=>simp[vtL]at h
 | cons x l ih =>
  rw[MJ]at h
  rcases mZ m 8 with hm|hm
  .rw[mt (by rw[CE];omega)]at h
   exact⟨x,by rw[Nat.div_eq_of_lt hm];rfl,by rwa [pG hm]⟩
  .rw[my (by rw[CE];omega),CE]at h
   obtain⟨v,a,b⟩:=ih (m-8) h;refine⟨v,?_,?_⟩
   .rw[show m/8=(m-8)/8+1 by omega];simpa using a
   .rw[show m%8=(m-8)%8 by omega];exact b
structure Sv(w:World)(x:Value)(l:List Vt):Prop where
 ex:∃ a cap,x=.slice a l.length cap/\l.length<=cap/\(a=none->cap=0)/\(l=[]\/∃ b off,a=some ⟨b,off,none⟩/\b<w.heap.size/\∀ i v,l[i]?=some v->w.rangeAt b (off+8*i) (vtC v))
 len:l.length<=2199023255488
variable{B base e n:Nat}{P:Program}{Q:Exit->Act->World->Prop}{a:Act}{l:List Vt}{ops:Array Oper}{w w':World}{x:Value}
theorem Sv.af(h:Sv w x l)(e:Bw w w'):Sv w' x l:=by
 obtain⟨⟨a,c,rfl,g,n,d⟩,f⟩:=h;refine⟨⟨a,c,rfl,g,n,?_⟩,f⟩;rcases d with d|⟨b,off,ha,hbs,hcell⟩
 .exact .inl d
 .exact .inr ⟨b,off,ha,Z' hbs e.size,λi v k j u m=>(e.cell (p:=⟨b,off+8*i+j,none⟩) hbs).trans (hcell i v k j u m)⟩
theorem Sv.nil(w:World):Sv w (.slice none 0 0) []:=⟨⟨none,0,rfl,by simp,by simp,.inl rfl⟩,by simp⟩
theorem Sv.shape(h:Sv w x l):∃ a cap,x=.slice a l.length cap:=by
 obtain⟨⟨a,cap,e,_⟩,_⟩:=h;exact⟨a,cap,e⟩
theorem Sv.spot{a:Option Addr}{c:Nat}(h:Sv w (.slice a n c) l)(i:Nat)(v:Vt)(f:l[i]?=some v):∃ b off,a=some ⟨b,off,none⟩/\b<w.heap.size/\w.rangeAt b (off+8*i) (vtC v):=by
 obtain⟨⟨j,d,e,k,m,g⟩,_⟩:=h;simp only[Value.slice.injEq]at e;obtain⟨rfl,rfl,rfl⟩:=e;rcases g with rfl|⟨b,off,rfl,hb,hcell⟩
 .simp at f
 .exact⟨b,off,rfl,hb,hcell i v f⟩
theorem Sv.ni(h:w.ownsRow base e 8 x l.length (vtL l))(f:l.length<=2199023255488):Sv w x l:=by
 refine⟨?_,f⟩;rcases h.2 with⟨rfl,h0⟩|⟨g,cap,cur,rfl,_,hg,hn,_,hcs,ht⟩
 .exact⟨none,0,by rw[h0],by omega,λ_=>rfl,.inl (Y' h0)⟩
 .refine⟨_,cap,rfl,hn,by simp,.inr ⟨g,0,rfl,(U'.1 hg).1,λi v c j u d=>?_⟩⟩;have b:=h.cells (g:=g) rfl (8*i+j) u (fc l i v c j u d);have a:(⟨g,0,none⟩:Addr).add (8*i+j)=⟨g,8*i+j,none⟩:=by unfold Addr.add;split<;>simp_all
  rw[a]at b
  rw[mU];exact b
theorem Nr(w:World)(c t s e:Nat)(z:Value)(C:P.underlying t=some (.slice e))(h:(P.info? e).map (λi=>(i.zero,i.size,i.bytes))=some (some z,8,64))(r:z.cells.size=8)(x:Value)(l:List Vt)(d:w.ownsRow c e 8 x l.length (vtL l))(u:Value)(m:List Vt)(M:Sv w u m)(B:l.length+m.length<=2199023255552)(g:c<=w.heap.size) :
  ∃ v' w',(Builtin.append_ #[t,t] s #[x,u]).run P w=.ok v' w'/\w'.ownsRow c e 8 v' (l++m).length (vtL (l++m))/\w.grownBy w' x.ownBlock:=by
 obtain⟨i,y,N,q,o⟩:=info_parts h;obtain⟨⟨a,n,rfl,O,J,D⟩,_⟩:=M;cases a with
 | none =>
  have p:=J rfl;subst p;have I:m=[]:=Y' (by omega);subst I;refine⟨x,w,?_,by simpa using d,⟨rfl,rfl,rfl,A' _,λ_ _ _=>rfl⟩⟩;exact run_append_owned_none (P:=P) (w:=w) c t s e i 8 C y x l.length _ d
 | some ad =>
  have f:∀ j u,(vtL m)[j]?=some u->w.cell? (ad.add j)=some u:=by
   intro j u A;rcases D with rfl|⟨b,off,hab,_,hcell⟩
   .simp[vtL]at A
   .obtain rfl:ad=⟨b,off,none⟩:=by simpa using hab
    obtain⟨v,E,F⟩:=bv m j u A;have k:(⟨b,off,none⟩:Addr).add j=⟨b,off+j,none⟩:=by unfold Addr.add;split<;>simp_all
    rw[k];have G:=hcell (j/8) v E (j%8) u F
    rwa [show off+8*(j/8)+j%8=off+j by omega]at G
  obtain⟨v',w',L,K,H,_⟩:=run_append_own (P:=P) w c t s e i z 8 64 C y N q o r (by decide) x l.length _ d ad m.length n (vtL m) (De m) f (Va m)
   (by unfold maxLen;omega) (by omega) g
  exact⟨v',w',L,by rw[TW,E'];exact K,H⟩
theorem B3(w:World){n:Array Oper}{c:List Oper}{o:Oper}{a:Act}{Q:Exit->Act->World->Prop}(p:o.guard=none)(s x:Operand)(t:TypeId)(y:o.op=.call { callee:=.builtin .append,args:=#[s,x],argTypes:=#[t,t] })(b e:Nat)(z:Value)(B:P.underlying t=some (.slice e))(f:(P.info? e).map (λi=>(i.zero,i.size,i.bytes))=some (some z,8,64))(q:z.cells.size=8)(v u:Value)(A:a.eval s=v)(D:a.eval x=u)(l m:List Vt)(j:w.ownsRow b e 8 v l.length (vtL l))(C:Sv w u m)(g:l.length+m.length<=2199023255552)(d:b<=w.heap.size)(h:∀ v' w',w'.ownsRow b e 8 v' (l++m).length (vtL (l++m))->w.grownBy w' v.ownBlock->wpList P n Q c (a.put o.dst v') w'):wpList P n Q (o::c) a w:=by
 refine wpList_plain p λK r=>?_;obtain⟨v',w',k,E,F⟩:=Nr (P:=P) w b t o.type e z B f q v l j u m C g d;unfold Oper.wp execOp;simp only[y,resolve,invoke,builtin,Sem.run_bind,Sem.run_pure,Result.andThen_ok,oT,mR,nG,A,D,k];exact r _ _ (h v' w' E F)
theorem Sv.one(w:World)(v:Vt)(e:TypeId){g:Nat}(b:g=w.heap.size):Sv (w.alloc (.cells (vtA v) e)) (.slice (some ⟨g,0,none⟩) 1 1) [v]:=by
 subst b;refine⟨⟨_,1,rfl,A' _,by simp,.inr ⟨w.heap.size,0,rfl,by simp,λi u a j x c=>?_⟩⟩,by simp⟩;cases i with
 | zero =>
  simp at a;subst a;rw[cell_of_row _ _ (0+8*0+j) _ _ _ (heap_alloc_new w (.cells (vtA v) e))];simpa[vtA]using c
 | succ i=>simp at a
def zVt:Value:=.agg zV8
theorem EZ:(prog.info? 164).map (λi=>(i.zero,i.size,i.bytes))=some (some zVt,8,64):=by kernel_rfl
theorem ZW(v:Vt):(prog.info? 164).map (·.size)=some (vtC v).length:=by show _=some 8;kernel_rfl
theorem Sn:prog.elem 105=164:=by kernel_rfl
theorem T9(w:World):(Go.sizeOf 164).run prog w=.ok 8 w:=by
 obtain⟨i,b,_,a,_⟩:=info_parts EZ;simp[sizeOf,typeInfo,b,a]
theorem JA(b o n c:Nat)(i:Nat)(a:i<n)(w:World):(Instr.indexAt 105 (.slice (some ⟨b,o,none⟩) n c) (.int .i64 (i:Int))).run prog w=.ok (.pointer (some ⟨b,o+8*i,none⟩)) w:=by
 rw[run_indexAt_slice (P:=prog) w 105 _ n c .i64 _ underlying105,if_pos ⟨by omega,by omega⟩,Sn,T9];simp[Result.andThen,Addr.add_mid,Nat.mul_comm]
theorem Da{l:List Oper}(h:wpList P ops Q l a w):wpList P ops Q l a w:=h
theorem FX(l:List Vt)(k:Nat)(v:Vt)(h:l[k]?=some v):l.take (k+1)=l.take k++[v]:=by
 obtain⟨a,e⟩:=V'.1 h;rw[mz a,e]
def acA(p:Bal)(x:Value):Array Value:=#[.int .i64 p.r,.int .i64 p.n,x]
theorem Xx:(prog.info? 104).map (·.size)=some 2:=by kernel_rfl
theorem Tj(h:Below B w w'){b o:Nat}{a:List Value}(c:b<B)(d:w.rangeAt b o a):w'.rangeAt b o a :=
 λj v e=>(h.cell (p:=⟨b,o+j,none⟩) c).trans (d j v e)
theorem EQ{a:World}(h:Below B a w){g:Nat}(c:B<=g)(b:Array Value):Below B a (w.setRow g b) :=
 h.trans ⟨rfl,rfl,rfl,by simp,λk d=>setRow_other w g k b (by omega)⟩
theorem fp{S:World->Prop}{op:Oper}(e:Region.wanted op (yielded ops a.tmps)=true)(x:Operand)(d:op.op=.load 164 x)(g:Nat)(f:a.eval x=.pointer (some ⟨g,0,none⟩))(v:Vt)(c:∀ w,S w->w.heap[g]?=some (.cells (vtA v) 164)):YieldsIf prog ops S op (.agg (vtA v)) a :=
 .inl ⟨e,λw b=>by
  unfold execOp;simp only[d,f,Instr.loadAt,Instr.sureAddr,Sem.run_bind,Sem.run_pure,Result.andThen_ok,run_loadVar_row w g 164 164 _ (0,0) _ (c w b) underlying164 rfl (show _=some (vtA v).size from ZW v)]⟩
theorem jX{P:Program}{f:Func}{p u v:Tmp}{c:TypeId}(h:f.results=#[.cell p c,.tmp u,.tmp v])(a:Array Value)(w:World)(g:Nat)(t:TypeId)(b:Array Value)(i:Nat × Nat)(d:TypeDesc)(m:a.getD p undef=.pointer (some ⟨g,0,none⟩))(k:w.heap[g]?=some (.cells b t i))(n:P.underlying c=some d)(j:(match d with|.struct _|.array _ _=>true|_=>false)=true)(l:(P.info? c).map (·.size)=some b.size) :
  (results f a).run P w=.ok (.tuple #[.agg b,a.getD u undef,a.getD v undef]) w:=by
 have e:a[p]?.getD undef=.pointer (some ⟨g,0,none⟩):=by simpa using m
 simp[results,h,e,asAddr,run_loadVar_row w g t c b i d k n j l]
theorem Te{a:Nat}{v:Value}{b:List Value}(h:w.ownsRow base e a v n b)(c:∀ k,v.ownBlock=some k->w'.heap[k]?=w.heap[k]?):w'.ownsRow base e a v n b:=by
 refine⟨h.1,?_⟩;rcases h.2 with h2|⟨g,cap,cur,hv,hb,hg,hr⟩
 .exact .inl h2
 .exact .inr ⟨g,cap,cur,hv,hb,(c g (by rw[hv];rfl)).trans hg,hr⟩
theorem jh(v:Vt):(prog.info? 164).map (·.size)=some (vtA v).size:=by show _=some 8;kernel_rfl
theorem fF{P:Program}{f:Func}{p u:Tmp}{c:TypeId}(h:f.results=#[.cell p c,.tmp u])(a:Array Value)(w:World)(g:Nat)(t:TypeId)(b:Array Value)(i:Nat × Nat)(d:TypeDesc)(m:a.getD p undef=.pointer (some ⟨g,0,none⟩))(k:w.heap[g]?=some (.cells b t i))(n:P.underlying c=some d)(j:(match d with|.struct _|.array _ _=>true|_=>false)=true)(l:(P.info? c).map (·.size)=some b.size) :
  (results f a).run P w=.ok (.tuple #[.agg b,a.getD u undef]) w:=by
 have e:a[p]?.getD undef=.pointer (some ⟨g,0,none⟩):=by simpa using m
 simp[results,h,e,asAddr,run_loadVar_row w g t c b i d k n j l]
def cmC(c:Cmd):Array Value:=cmA c.k c.c c.s c.n c.v
theorem cE(a b c d:Int):∀ w,(binOp .eql 104 (.agg #[.int .i64 a,.int .i64 b]) (.agg #[.int .i64 c,.int .i64 d])).run prog w=.ok (.bool (decide (a=c/\b=d))) w:=by
 intro w;rw[run_eql_struct,run_equalIn_agg w 9999 _ _ _ (by kernel_rfl) (by kernel_rfl)];unfold Program.fieldsOf;rw[underlying104];have e:=underlying3;simp[Op.eqFields,go_sem,e]
 repeat' split
 all_goals simp_all
theorem Yf(a b c d e f g h i j k l m n o p:Int):∀ w,(binOp .eql 164 (.agg #[.int .i64 a,.int .i64 b,.int .i64 c,.int .i64 d,.int .i64 e,.int .i64 f,.int .i64 g,.int .i64 h]) (.agg #[.int .i64 i,.int .i64 j,.int .i64 k,.int .i64 l,.int .i64 m,.int .i64 n,.int .i64 o,.int .i64 p])).run prog w=.ok (.bool (decide (a=i/\b=j/\c=k/\d=l/\e=m/\f=n/\g=o/\h=p))) w:=by
 intro w;rw[run_eql_struct,run_equalIn_agg w 9999 _ _ _ (by kernel_rfl) (by kernel_rfl)];unfold Program.fieldsOf;rw[underlying164];have q:=underlying3;have r:=underlying104;have s:=underlying24;simp[Op.eqFields,go_sem,q,r,s]
 repeat' split
 all_goals simp_all
end
end
section
section
def Nd(l:List Vt)(v:Vt):Nat->List Vt
 | 0=>[]
 | k+1=>Nd l v k++(if(k:Int)=v.bn then[v]else Ae l k)
variable{a b l:List Vt}{v:Vt}
theorem Rg(c:BL a)(d:BL b)(h:∀ x∈a,∀ y∈b,x.bn<y.bn):BL (a++b):=by
 induction a with
 | nil=>exact d
 | cons x xs ih =>
  refine⟨λu hu=>?_,ih c.2 (λy e=>h y (I' _ e))⟩;rcases Q'.1 hu with hu|hu
  .exact c.1 u hu
  .exact h x M' u hu
theorem Km(h:BL l)(q:Vt->Bool):BL (l.filter q):=by
 induction l with
 | nil=>trivial
 | cons x xs ih =>
  rw[List.filter_cons];split
  .exact⟨λu a=>h.1 u (oL.1 a).1,ih h.2⟩
  .exact ih h.2
theorem ZI(c:BL a)(d:BL b)(h:∀ u,u∈a↔u∈b):a=b:=by
 induction a generalizing b with
 | nil =>
  cases b with
  | nil=>rfl
  | cons y ys=>exact absurd ((h y).2 M') (O')
 | cons x xs ih =>
  cases b with
  | nil=>exact absurd ((h x).1 M') (O')
  | cons y ys =>
   have f:x=y:=by
    rcases mp.1 ((h x).1 M')with e|e
    .exact e
    .rcases mp.1 ((h y).2 M')with e'|e'
     .exact e'.symm
     .have:=c.1 y e';have:=d.1 x e;omega
   subst f;rw[ih c.2 d.2 (λu=>?_)];constructor
   .intro hu;rcases mp.1 ((h u).1 (I' _ hu))with rfl|e
    .have:=c.1 u hu;omega
    .exact e
   .intro hu;rcases mp.1 ((h u).2 (I' _ hu))with rfl|e
    .have:=d.1 u hu;omega
    .exact e
theorem Qx(k:Nat)(u:Vt):u∈Nd l v k↔(0<=u.bn/\u.bn<k)/\(u=v\/(u∈l/\u.bn≠v.bn)):=by
 induction k with
 | zero=>simp[Nd];omega
 | succ k ih =>
  rw[Nd,Q',ih];by_cases a:(k:Int)=v.bn
  .rw[if_pos a,D'];constructor
   .rintro(⟨h1,h2⟩|rfl)
    .exact⟨by omega,h2⟩
    .exact⟨by omega,.inl rfl⟩
   .rintro⟨h1,rfl|⟨h2,h3⟩⟩
    .exact .inr rfl
    .exact .inl ⟨by omega,.inr ⟨h2,h3⟩⟩
  .rw[if_neg a,AL];constructor
   .rintro(⟨h1,h2⟩|⟨h1,h2⟩)
    .exact⟨by omega,h2⟩
    .exact⟨by omega,.inr ⟨h1,by omega⟩⟩
   .rintro⟨h1,rfl|⟨h2,h3⟩⟩
    .exact .inl ⟨by omega,.inl rfl⟩
    .by_cases h4:u.bn=k
     .exact .inr ⟨h2,h4⟩
     .exact .inl ⟨by omega,.inr ⟨h2,h3⟩⟩
theorem J5(h:BL l)(s:Int):(Ae l s).length<=1:=by
 match e:Ae l s with
 | []=>simp
 | [_]=>simp
 | x::y::r =>
  have a:BL (Ae l s):=Km h _;have b:=(AL.1 (show x∈Ae l s by rw[e];simp)).2;have c:=(AL.1 (show y∈Ae l s by rw[e];simp)).2;rw[e]at a
  have:=a.1 y M';omega
theorem Yt(v:Vt)(h:BL l)(k:Nat):(Nd l v k).length<=k:=by
 induction k with
 | zero=>simp[Nd]
 | succ k ih =>
  rw[Nd,E'];have:=J5 h k;split
  .simp;omega
  .omega
theorem VD(v:Vt)(h:BL l)(k:Nat):BL (Nd l v k):=by
 induction k with
 | zero=>trivial
 | succ k ih =>
  rw[Nd];refine Rg ih ?_ ?_
  .split
   .exact⟨λu a=>(O' a).elim,trivial⟩
   .exact Km h _
  .intro x hx y hy;have b:=((Qx k x).1 hx).1;split at hy
   .obtain rfl:y=v:=by simpa using hy
    omega
   .have:=(AL.1 hy).2;omega
theorem cR(k:Nat)(h:BL l)(b:∀ u∈l,0<=u.bn/\u.bn<k)(c:0<=v.bn/\v.bn<k):Nd l v k=Bo l v:=by
 refine ZI (VD v h k) (Jv v h) λu=>?_;rw[Qx,BB h];constructor
 .exact λa=>a.2
 .rintro(rfl|⟨h1,h2⟩)
  .exact⟨c,.inl rfl⟩
  .exact⟨b u h1,.inr ⟨h1,h2⟩⟩
theorem Kb(l:List Vt)(u:Vt)(s:Int):Ae (l++[u]) s=Ae l s++(if u.bn=s then[u]else[]):=by
 unfold Ae;rw[nP];by_cases h:u.bn=s<;>simp[h]
theorem WT(a:List (List Vt))(j:Nat)(l:List Vt)(h:a[j]?=some l):(a.take (j+1)).flatten=(a.take j).flatten++l:=by
 obtain⟨b,e⟩:=V'.1 h;rw[mz b,e];simp
theorem DP(a b:List Vt)(s:Int):Ae (a++b) s=Ae a s++Ae b s:=by unfold Ae;rw[nP]
end
end
section
open Go.RowKit
section
structure Sac(w:World)(x:Value)(ac:List Acc):Prop where
 ex:∃ a cap,x=.slice a ac.length cap/\(ac=[]\/∃ b off,a=some ⟨b,off,none⟩/\b<w.heap.size/\∀ (i:Nat) (A:Acc),ac[i]?=some A->∃ y,w.rangeAt b (off+3*i) [.int .i64 A.p.r,.int .i64 A.p.n,y]/\Sv w y A.vs)
 len:ac.length<=3518437208780
variable{ac:List Acc}{s:Int}{w:World}{x:Value}
theorem Sac.af{f:World}(h:Sac w x ac)(e:Bw w f):Sac f x ac:=by
 obtain⟨⟨a,c,rfl,d⟩,g⟩:=h;refine⟨⟨a,c,rfl,?_⟩,g⟩;rcases d with d|⟨b,off,ha,hbs,hc⟩
 .exact .inl d
 .refine .inr ⟨b,off,ha,Z' hbs e.size,λi A l=>?_⟩;obtain⟨y,j,k⟩:=hc i A l;exact⟨y,Tj e hbs j,k.af e⟩
theorem Sac.shape(h:Sac w x ac):∃ a cap,x=.slice a ac.length cap:=by
 obtain⟨⟨a,cap,e,_⟩,_⟩:=h;exact⟨a,cap,e⟩
theorem Sac.spot{a:Option Addr}{n c:Nat}(h:Sac w (.slice a n c) ac)(i:Nat)(A:Acc)(f:ac[i]?=some A):∃ b off y,a=some ⟨b,off,none⟩/\b<w.heap.size/\w.rangeAt b (off+3*i) [.int .i64 A.p.r,.int .i64 A.p.n,y]/\Sv w y A.vs:=by
 obtain⟨⟨j,d,e,g⟩,_⟩:=h;simp only[Value.slice.injEq]at e;obtain⟨rfl,rfl,rfl⟩:=e;rcases g with rfl|⟨b,off,rfl,hb,hc⟩
 .simp at f
 .obtain⟨y,h3,h4⟩:=hc i A f;exact⟨b,off,y,rfl,hb,h3,h4⟩
theorem gG:prog.elem 225=107:=by kernel_rfl
theorem iR(w:World):(Go.sizeOf 107).run prog w=.ok 3 w:=by
 have h:(prog.info? 107).map (·.size)=some 3:=by kernel_rfl
 cases hi:prog.info? 107 with
 | none=>rw[hi]at h;cases h
 | some i =>
  rw[hi]at h
  simp at h;simp[sizeOf,typeInfo,hi,h]
theorem W8(b o n c:Nat)(i:Nat)(a:i<n)(w:World):(Instr.indexAt 225 (.slice (some ⟨b,o,none⟩) n c) (.int .i64 (i:Int))).run prog w=.ok (.pointer (some ⟨b,o+3*i,none⟩)) w:=by
 rw[run_indexAt_slice (P:=prog) w 225 _ n c .i64 _ underlying225,if_pos ⟨by omega,by omega⟩,gG,iR];simp[Result.andThen,Addr.add_mid,Nat.mul_comm]
def D2(ac:List Acc)(s:Int):List Vt:=Ae (ac.map (·.vs)).flatten s
def CZ(ac:List Acc)(s:Int):Int:=if ¬ ((0<=s/\s<=39)/\(1<=(ac.length:Int)/\(ac.length:Int)<=5))then 2 else if ¬ ∀ a∈ac,Ag a then 5 else if(Hj (D2 ac s) ac.length).isSome then 0 else 9
def CR(ac:List Acc)(s:Int):Cmd:=if CZ ac s=0 then((Hj (D2 ac s) ac.length).map (·.w)).getD ⟨0,0,0,0,0⟩else⟨0,0,0,0,0⟩
theorem DA(h:¬ ((0<=s/\s<=39)/\(1<=(ac.length:Int)/\(ac.length:Int)<=5))):CR ac s=⟨0,0,0,0,0⟩/\CZ ac s=2:=by
 have e:CZ ac s=2:=if_pos h;exact⟨if_neg (by rw[e];decide),e⟩
theorem Vr(h:(0<=s/\s<=39)/\(1<=(ac.length:Int)/\(ac.length:Int)<=5))(b:¬ ∀ a∈ac,Ag a):CR ac s=⟨0,0,0,0,0⟩/\CZ ac s=5:=by
 have e:CZ ac s=5:=by unfold CZ;rw[if_neg (λg=>g h),if_pos b]
 exact⟨if_neg (by rw[e];decide),e⟩
theorem XC(h:(0<=s/\s<=39)/\(1<=(ac.length:Int)/\(ac.length:Int)<=5))(b:∀ a∈ac,Ag a)(c:Hj (D2 ac s) ac.length=none):CR ac s=⟨0,0,0,0,0⟩/\CZ ac s=9:=by
 have e:CZ ac s=9:=by unfold CZ;rw[if_neg (λg=>g h),if_neg (λg=>g b),c];rfl
 exact⟨if_neg (by rw[e];decide),e⟩
theorem XD(h:(0<=s/\s<=39)/\(1<=(ac.length:Int)/\(ac.length:Int)<=5))(c:∀ a∈ac,Ag a){x:Vt}(b:Hj (D2 ac s) ac.length=some x):CR ac s=x.w/\CZ ac s=0:=by
 have e:CZ ac s=0:=by unfold CZ;rw[if_neg (λg=>g h),if_neg (λg=>g c),b];rfl
 exact⟨by unfold CR;rw[if_pos e,b];rfl,e⟩
theorem gv{c:List Acc}(h:∀ a∈c,Ag a)(s:Int):(Ae (c.map (·.vs)).flatten s).length<=c.length:=by
 induction c with
 | nil=>simp[Ae]
 | cons a c ih =>
  have e:=J5 (h a M').2.2 s;have f:=ih (λb d=>h b (I' _ d));simp only[mR,List.flatten_cons,mJ];rw[DP,E'];omega
theorem TK(ac:List Acc)(j:Nat)(a:Acc)(h:ac[j]?=some a):((ac.take (j+1)).map (·.vs)).flatten=((ac.take j).map (·.vs)).flatten++a.vs:=by
 obtain⟨b,e⟩:=V'.1 h;rw[mz b,e];simp
end
end
section
end
section
open Go.RowKit
section
def baA(b:Bal):Array Value:=#[.int .i64 b.r,.int .i64 b.n]
theorem O0(l:List Vt)(v:Vt):BL (l++[v])↔BL l/\∀ u∈l,u.bn<v.bn:=by
 induction l with
 | nil=>exact⟨λ_=>⟨trivial,λu hu=>(O' hu).elim⟩,λ_=>⟨λu hu=>(O' hu).elim,trivial⟩⟩
 | cons x xs ih =>
  show((∀ u∈xs++[v],x.bn<u.bn)/\BL (xs++[v]))↔((∀ u∈xs,x.bn<u.bn)/\BL xs)/\∀ u∈x::xs,u.bn<v.bn;rw[ih];constructor
  .rintro⟨h1,h2,h3⟩;refine⟨⟨λu hu=>h1 u (mn _ hu),h2⟩,λu hu=>?_⟩;rcases mp.1 hu with rfl|hu
   .exact h1 v (mj _ M')
   .exact h3 u hu
  .rintro⟨⟨h1,h2⟩,h3⟩;refine⟨λu hu=>?_,h2,λu hu=>h3 u (I' _ hu)⟩;rcases Q'.1 hu with hu|hu
   .exact h1 u hu
   .obtain rfl:u=v:=by simpa using hu
    exact h3 x M'
def Fq(a:Acc)(b:Bal):Bal:=if Cl a b=0 then b else⟨0,0⟩
def Ea(a:Acc)(b:Bal):List Vt:=if Cl a b=0 then a.vs else[]
def BI(a:Acc)(v:Vt):Bal:=if Ba a v=0 then v.b else⟨0,0⟩
def Br(a:Acc)(v:Vt):List Vt:=if Ba a v=0 then Bo a.vs v else[]
def G1(ls:List (List Vt))(s:Int):Cmd:=if BY ls s=0 then((Eh ls s).map (·.w)).getD ⟨0,0,0,0,0⟩else⟨0,0,0,0,0⟩
def DZ(ls:List (List Vt))(s:Int):Bool:=if BY ls s=0 then(Eh ls s).isSome else false
variable{l:List Vt}{ls:List (List Vt)}{s:Int}
theorem LT(h:¬ (0<=s/\s<=39)):G1 ls s=⟨0,0,0,0,0⟩/\DZ ls s=false/\BY ls s=2:=by
 have e:BY ls s=2:=if_pos h;exact⟨if_neg (by rw[e];decide),if_neg (by rw[e];decide),e⟩
theorem Tr(h:0<=s/\s<=39)(a:¬ ∀ l∈ls,∀ v∈l,Ah v):G1 ls s=⟨0,0,0,0,0⟩/\DZ ls s=false/\BY ls s=5:=by
 have e:BY ls s=5:=by unfold BY;rw[if_neg (λg=>g h),if_neg a]
 exact⟨if_neg (by rw[e];decide),if_neg (by rw[e];decide),e⟩
theorem aN{j:Nat}(h:ls[j]?=some l)(b:∀ l∈ls.take j,∀ v∈l,Ah v)(c:∀ v∈l,Ah v):∀ l∈ls.take (j+1),∀ v∈l,Ah v:=by
 obtain⟨d,e⟩:=V'.1 h;rw[mz d,e];intro l' a;rcases Q'.1 a with g|g
 .exact b l' g
 .obtain rfl:l'=l:=by simpa using g
  exact c
theorem aO{k:Nat}{u:Vt}(h:l[k]?=some u)(a:∀ v∈l.take k,Ah v)(b:Ah u):∀ v∈l.take (k+1),Ah v:=by
 rw[FX l k u h];intro v c;rcases Q'.1 c with g|g
 .exact a v g
 .obtain rfl:v=u:=by simpa using g
  exact b
def AR(d:List Int)(s:Int):Prop:=d.length<=100000/\0<=s/\s<=(d.length:Int)
instance (d:List Int) (s:Int):Decidable (AR d s):=by unfold AR;exact inferInstance
def Db(d:List Int)(s:Int):Int:=if AR d s then 0 else 5
def Hm(d:List Int)(s:Int):List Int:=if AR d s then d else[]
def Ik(d:List Int)(s:Int):Int:=if AR d s then(d.length:Int)else 0
def Gp(d:List Int)(s k:Int):Int:=if k<(d.length:Int)-s then s+k else(d.length:Int)
def Gn(d:List Int)(s k:Int):Int:=if ¬ AR d s then 5 else if k<0 then 2 else 0
def Kx(d:List Int)(s k:Int):List Int:=if Gn d s k=0 then d.take (Gp d s k).toNat else[]
def Ky(d:List Int)(s k:Int):Int:=if Gn d s k=0 then Gp d s k else 0
def tpA(x:Value)(s:Int):Array Value:=#[x,.int .i64 s]
theorem ME:(prog.info? 121).map (·.size)=some 2:=by kernel_rfl
theorem aX(x:Option Addr)(n c:Nat)(s:Int):(#[.slice x n c,.int .i64 s]:Array Value).all (·.oneCell')=true:=by simp[Value.oneCell']
end
end
section
section
def Ef(b:List Int):List Int:=(b.length:Int)::b
def AN(b:List Int):List Int:=Ef b++(dig (Ef b)).take 4
theorem CG(b:List Int):(Ef b).length=b.length+1:=rfl
theorem Bg(b:List Int):(AN b).length=b.length+5:=by
 unfold AN;rw[E',CG,j',AA];omega
def Bu(b:Bal):List Int:=1::(Ad b.r++Ad b.n)
def Bk(v:Vt):List Int:=2::(Ad v.bn++(Ad v.b.r++(Ad v.b.n++D3 v.w.k v.w.c v.w.s v.w.n v.w.v)))
theorem Kf(b:Bal):(Bu b).length=9:=rfl
theorem GM(v:Vt):(Bk v).length=33:=rfl
theorem Wp(b:Bal):∀ x∈Bu b,0<=x/\x<256:=by
 intro x hx;rcases mp.1 hx with rfl|hx
 .omega
 .rcases Q'.1 hx with hx|hx
  .exact AT _ x hx
  .exact AT _ x hx
theorem Xc(v:Vt):∀ x∈Bk v,0<=x/\x<256:=by
 intro x hx;rcases mp.1 hx with rfl|hx
 .omega
 .rcases Q'.1 hx with hx|hx
  .exact AT _ x hx
  .rcases Q'.1 hx with hx|hx
   .exact AT _ x hx
   .rcases Q'.1 hx with hx|hx
    .exact AT _ x hx
    .exact Jq _ _ _ _ _ x hx
variable{N k m n:Nat}{a b c:Acc}{all:List Acc}{bs:List (List Int)}{r:List Int}
theorem L8{b:List Int}(a:∀ x∈b,0<=x/\x<256)(c:b.length<=255):∀ x∈Ef b,0<=x/\x<256:=by
 intro x hx;rcases mp.1 hx with rfl|hx
 .omega
 .exact a x hx
theorem Mc{b:List Int}(a:∀ x∈b,0<=x/\x<256)(c:b.length<=255):∀ x∈AN b,0<=x/\x<256:=by
 intro x hx;rcases Q'.1 hx with hx|hx
 .exact L8 a c x hx
 .exact DV _ x (mx hx)
def ce(l:List Int):Cmd:=⟨Ac l 0,Ac l 4,Ac l 8,Ac l 12,Ac l 16⟩
def Gk(b:List Int):Bal:=⟨Ac b 1,Ac b 5⟩
def FZ(b:List Int):Vt:=⟨Ac b 1,⟨Ac b 5,Ac b 9⟩,ce (b.drop 13)⟩
def DW(a:Acc)(b:List Int):Option Acc :=
 if b.length=9/\b.getD 0 0=1 then(if Cl a (Gk b)=0 then some ⟨Gk b,a.vs⟩else none)
 else if b.length=33/\b.getD 0 0=2 then(if Ck (b.drop 13)=0 then(if Ba a (FZ b)=0 then some ⟨(FZ b).b,Bo a.vs (FZ b)⟩else none)else none)
 else none
def BZ(r:List Int)(a:Acc):Option (Acc × Nat) :=
 if r=[]then none
 else if r.length<(r.getD 0 0).toNat+5 then none
 else if(dig (r.take ((r.getD 0 0).toNat+1))).take 4≠(r.drop ((r.getD 0 0).toNat+1)).take 4 then none
 else(DW a ((r.take ((r.getD 0 0).toNat+1)).drop 1)).map λx=>(x,(r.getD 0 0).toNat+5)
def a0:Acc:=⟨⟨0,0⟩,[]⟩
def JY(r:List Int)(p:Nat × Acc):Nat × Acc:=match BZ (r.drop p.1) p.2 with
 | none=>p
 | some (c,m)=>(p.1+m,c)
def itR(r:List Int):Nat->Nat × Acc
 | 0=>(0,a0)
 | k+1=>JY r (itR r k)
def Er(r:List Int):Nat × Acc:=itR r r.length
theorem Mq(h:BZ r a=some (c,m)):5<=m/\m<=r.length:=by
 unfold BZ at h;split at h
 .cases h
 .split at h
  .cases h
  .split at h
   .cases h
   .obtain⟨x,_,e⟩:=nI.1 h;injection e with e1 e2
    omega
theorem Ib{p:Nat × Acc}(h:BZ (r.drop p.1) p.2=none):JY r p=p:=by
 unfold JY;rw[h]
theorem FK(h:BZ (r.drop n) b=some (c,m)):JY r (n,b)=(n+m,c):=by
 unfold JY;rw[show BZ (r.drop (n,b).1) (n,b).2=some (c,m)from h]
theorem VN(h:itR r k=(n,b))(a:BZ (r.drop n) b=none)(j:Nat):itR r (k+j)=(n,b):=by
 induction j with
 | zero=>exact h
 | succ j ih =>
  rw[<- nc,itR,ih];exact Ib a
theorem Pw(h:itR r k=(n,b))(c:k<=r.length)(a:BZ (r.drop n) b=none):Er r=(n,b):=by
 have:=VN h a (r.length-k);rw[show k+(r.length-k)=r.length by omega]at this
 exact this
theorem Y5(r:List Int)(k:Nat):(itR r k).1<=r.length:=by
 induction k with
 | zero=>exact mL _
 | succ k ih =>
  rw[itR];unfold JY;split
  .exact ih
  .rename_i c m h
   have:=(Mq h).2;rw[mo]at this
   show(itR r k).1+m<=r.length;omega
theorem O6{r':List Int}(h:BZ r a=some (c,m))(b:r'.take m=r.take m):BZ r' a=some (c,m):=by
 have s:=Mq h;have d:m<=r'.length:=by
  have e:=congrArg List.length b;rw[j',j']at e
  omega
 unfold BZ at h;split at h
 .cases h
 rename_i p
 split at h
 .cases h
 rename_i q
 split at h
 .cases h
 rename_i f
 obtain⟨x,o,e⟩:=nI.1 h;injection e with e1 e2
 have i:r'.getD 0 0=r.getD 0 0:=by
  have e:=congrArg (λl=>l.getD 0 0) b;simp only[mO,nk]at e ⊢;rw[if_pos (by omega),if_pos (by omega)]at e
  exact e
 have n:∀ k,k<=m->r'.take k=r.take k:=λk j=>by
  have e:=congrArg (List.take k) b;rw[oI,oI,nr j]at e
  exact e
 have g:(r'.drop ((r.getD 0 0).toNat+1)).take 4=(r.drop ((r.getD 0 0).toNat+1)).take 4:=by
  have e:=congrArg (List.drop ((r.getD 0 0).toNat+1)) b;rw[pA,pA,show m-((r.getD 0 0).toNat+1)=4 by omega]at e
  exact e
 unfold BZ;rw[i,if_neg (by rintro rfl;simp at d;omega),if_neg (by omega),n _ (by omega),g,if_neg f,o,m5,e1,e2]
theorem Gt(r:List Int){N n m:Nat}(h:n+m<=N):((r.take N).drop n).take m=(r.drop n).take m:=by
 rw[pA,oI,nr (by omega)]
theorem Y6(r:List Int)(k:Nat):(itR r k).1<=(itR r (k+1)).1:=by
 rw[itR];unfold JY;split
 .exact A' _
 .show(itR r k).1<=(itR r k).1+_;omega
theorem Y7(h:(itR r k).1<=N):itR (r.take N) k=itR r k:=by
 induction k with
 | zero=>rfl
 | succ k b =>
  have i:=Y6 r k;have b:=b (by omega);rw[itR,b];cases e:BZ (r.drop (itR r k).1) (itR r k).2 with
  | none =>
   have a:BZ ((r.take N).drop (itR r k).1) (itR r k).2=none:=by
    cases e3:BZ ((r.take N).drop (itR r k).1) (itR r k).2 with
    | none=>rfl
    | some x =>
     obtain⟨c,m⟩:=x;have g:=(Mq e3).2;rw[mo,j']at g
     have:=O6 (r':=r.drop (itR r k).1) e3 (Gt r (by omega)).symm;rw[e]at this
     cases this
   rw[Ib a,itR,Ib e]
  | some x =>
   obtain⟨c,m⟩:=x;have d:itR r (k+1)=((itR r k).1+m,c):=by rw[itR];exact FK e
   rw[d]at h ⊢
   have f:(itR r k).1+m<=N:=h;have a:=O6 (r':=(r.take N).drop (itR r k).1) e (Gt r f);exact FK a
theorem UI(r:List Int):(Er r).1<=r.length:=Y5 r r.length
theorem TC(b x:List Int)(a:Acc):BZ (AN b++x) a=(DW a b).map λc=>(c,b.length+5):=by
 have d:=Bg b;have h:(AN b++x).getD 0 0=(b.length:Int):=rfl;have i:((b.length:Int)).toNat=b.length:=mM _;have j:(AN b++x).take (b.length+1)=Ef b:=by
  unfold AN;rw[mm,mA (by rw[CG];omega),mr (by rw[CG];omega)]
 have f:((AN b++x).drop (b.length+1)).take 4=(dig (Ef b)).take 4:=by
  unfold AN;rw[mm,nQ (by rw[CG];omega),nJ (by rw[CG];omega),nC,
   mA (by rw[j',AA];omega),oI]
  rfl
 unfold BZ;rw[h,i,if_neg (by intro e;have:=congrArg List.length e;rw[E',d]at this;simp at this),if_neg (by rw[E',d];omega),j,f,if_neg (λg=>g rfl)];rfl
theorem TD(b x:List Int)(a:Acc){k:Nat}(e:k<b.length+5):BZ ((AN b++x).take k) a=none:=by
 have d:=Bg b;cases k with
 | zero=>rfl
 | succ k =>
  have c:((AN b++x).take (k+1)).getD 0 0=(b.length:Int):=rfl;unfold BZ;rw[c,mM];split
  .rfl
  .rw[if_pos (by rw[j',E',d];omega)]
theorem XZ(a:Acc){b:Bal}(g:Ab b):DW a (Bu b)=if Cl a b=0 then some ⟨b,a.vs⟩else none:=by
 have c:=g;unfold Ab at c;have d:Ac (Bu b) 1=b.r:=BC b.r (by omega) (by omega) [1] (Ad b.n);have f:Ac (Bu b) 5=b.n:=by
  have:=BC b.n (by omega) (by omega) (1::Ad b.r) [];rw[mI]at this
  exact this
 have e:Gk (Bu b)=b:=by unfold Gk;rw[d,f]
 unfold DW;rw[if_pos ⟨rfl,rfl⟩,e]
theorem XO{k c s n v:Int}(h:Bh k c s n v=0):Ck (D3 k c s n v)=0/\ce (D3 k c s n v)=⟨k,c,s,n,v⟩:=by
 have j:=Dg h;have i:=j.2;unfold InC at i;have a:=Hb k c s n v (by omega) (by omega);have b:=Hc k c s n v (by omega) (by omega);have d:=Hd k c s n v (by omega) (by omega);have e:=FL k c s n v (by omega) (by omega);have f:=FM k c s n v (by omega) (by omega);unfold Ck ce;rw[if_neg (λg=>g (DU k c s n v)),a,b,d,e,f];exact⟨h,rfl⟩
theorem Ya(a:Acc){v:Vt}(p:Ah v):DW a (Bk v)=if Ba a v=0 then some ⟨v.b,Bo a.vs v⟩else none:=by
 have g:=p;unfold Ah Ab at g;obtain⟨d,⟨r,n⟩,⟨k,c,s,f,x⟩⟩:=v;simp only at g;have l:Ac (Bk ⟨d,⟨r,n⟩,⟨k,c,s,f,x⟩⟩) 1=d:=BC d (by omega) (by omega) [2] (Ad r++(Ad n++D3 k c s f x));have m:Ac (Bk ⟨d,⟨r,n⟩,⟨k,c,s,f,x⟩⟩) 5=r:=BC r (by omega) (by omega) (2::Ad d) (Ad n++D3 k c s f x);have o:Ac (Bk ⟨d,⟨r,n⟩,⟨k,c,s,f,x⟩⟩) 9=n:=BC n (by omega) (by omega) (2::(Ad d++Ad r)) (D3 k c s f x);have i:(Bk ⟨d,⟨r,n⟩,⟨k,c,s,f,x⟩⟩).drop 13=D3 k c s f x:=rfl;have j:=XO (k:=k) (c:=c) (s:=s) (n:=f) (v:=x) g.2.2;have e:FZ (Bk ⟨d,⟨r,n⟩,⟨k,c,s,f,x⟩⟩)=⟨d,⟨r,n⟩,⟨k,c,s,f,x⟩⟩:=by unfold FZ;rw[l,m,o,i,j.2]
 unfold DW;rw[if_neg (by rintro⟨h,_⟩;cases h),if_pos ⟨rfl,rfl⟩,e,i,if_pos j.1]
def AD(bs:List (List Int)):List Int:=bs.flatMap AN
theorem CF(l m:List (List Int)):AD (l++m)=AD l++AD m:=by simp[AD]
structure Chn(all:List Acc)(bs:List (List Int)):Prop where
 len:all.length=bs.length+1
 first:all[0]?=some a0
 step:∀ (i:Nat) (b:List Int) (a c:Acc),bs[i]?=some b->all[i]?=some a->all[i+1]?=some c->DW a b=some c
theorem Chn.at(h:Chn all bs)(j:Nat)(b:j<=bs.length):∃ a,all[j]?=some a:=⟨_,H' (by have:=h.len;omega)⟩
theorem M2(a:List (List Int))(j:Nat)(b:List Int)(h:a[j]?=some b):a.take (j+1)=a.take j++[b]:=by
 obtain⟨c,e⟩:=V'.1 h;rw[mz c,e]
theorem Lx(a:List (List Int))(j:Nat)(x:List Int):(AD a++x).drop (AD (a.take j)).length=AD (a.drop j)++x:=by
 have e:AD a=AD (a.take j)++AD (a.drop j):=by rw[<- CF,nv]
 rw[e,mm,nQ (A' _),nJ (A' _),nC]
theorem Ly(a:List (List Int))(j:Nat)(b:List Int)(h:a[j]?=some b):AD (a.drop j)=AN b++AD (a.drop (j+1)):=by
 obtain⟨c,e⟩:=V'.1 h;rw[m9 c,e];rfl
theorem Chn.it(h:Chn all bs)(x:List Int)(j:Nat)(l:j<=bs.length){a:Acc}(d:all[j]?=some a):itR (AD bs++x) j=((AD (bs.take j)).length,a):=by
 induction j generalizing a with
 | zero =>
  rw[h.first]at d
  obtain rfl:=mT d;rfl
 | succ j g =>
  obtain⟨i,c⟩:=h.at j (by omega);have g:=g (by omega) c;obtain⟨b,f⟩:∃ b,bs[j]?=some b:=⟨_,H' (by omega)⟩;have k:=h.step j b i a f c d;have e:BZ ((AD bs++x).drop (AD (bs.take j)).length) i=some (a,b.length+5):=by
   rw[Lx,Ly bs j b f,mm,TC,k];rfl
  rw[itR,g,FK e,M2 bs j b f,CF,E']
  congr 1
  show _=(AD (bs.take j)).length+(AD [b]).length;simp[AD,Bg]
theorem Qs(a:List (List Int)):a.length<=(AD a).length:=by
 induction a with
 | nil=>exact mL _
 | cons b a ih =>
  show a.length+1<=(AN b++AD a).length;rw[E',Bg];omega
theorem gx(a:List (List Int))(k:Nat):∃ j,j<=a.length/\(AD (a.take j)).length<=k/\(j=a.length\/k<(AD (a.take (j+1))).length):=by
 have:∀ n,n<=a.length->∃ j,j<=n/\(AD (a.take j)).length<=k/\(j=n\/k<(AD (a.take (j+1))).length):=by
  intro n;induction n with
  | zero=>intro _;exact⟨0,A' _,by simp[AD],.inl rfl⟩
  | succ n ih =>
   intro d;obtain⟨j,c,b,h3⟩:=ih (by omega);rcases h3 with rfl|h3
   .rcases mZ k (AD (a.take (j+1))).length with h4|h4
    .exact⟨j,by omega,b,.inr h4⟩
    .exact⟨j+1,A' _,h4,.inl rfl⟩
   .exact⟨j,by omega,b,.inr h3⟩
 exact this a.length (A' _)
theorem Chn.sX(h:Chn all bs)(k:Nat):∃ j a,j<=bs.length/\all[j]?=some a/\Er ((AD bs).take k)=((AD (bs.take j)).length,a)/\(AD (bs.take j)).length<=k/\(j=bs.length\/k<(AD (bs.take (j+1))).length):=by
 obtain⟨j,d,i,h3⟩:=gx bs k;obtain⟨a,l⟩:=h.at j d;refine⟨j,a,d,l,?_,i,h3⟩;have f:=h.it [] j d l;rw[mI]at f
 have g:itR ((AD bs).take k) j=((AD (bs.take j)).length,a):=by
  rw[Y7 (by rw[f];exact i),f]
 have c:=Lx bs j [];rw[mI,mI]at c
 refine Pw g ?_ ?_
 .rw[j'];have m:=Qs (bs.take j);rw[j']at m
  have n:(AD (bs.take j)).length<=(AD bs).length:=by
   have:=congrArg List.length c;rw[mo]at this
   have e:AD bs=AD (bs.take j)++AD (bs.drop j):=by rw[<- CF,nv]
   rw[e,E'];omega
  omega
 .rw[pA,c];rcases h3 with rfl|h3
  .rw[nJ (A' _)];simp[AD,BZ]
  .rcases mZ j bs.length with hj|hj
   .obtain⟨b,hb⟩:∃ b,bs[j]?=some b:=⟨_,H' hj⟩;rw[Ly bs j b hb];refine TD b _ a ?_;rw[M2 bs j b hb,CF,E']at h3
    have e:(AD [b]).length=b.length+5:=by simp[AD,Bg]
    omega
   .rw[nJ hj];simp[AD,BZ]
end
end
section
open Go.RowKit
def fbO(r:List Int):Option (List Int) :=
 if r=[]then none
 else if r.length<(r.getD 0 0).toNat+5 then none
 else if(dig (r.take ((r.getD 0 0).toNat+1))).take 4≠(r.drop ((r.getD 0 0).toNat+1)).take 4 then none
 else some ((r.take ((r.getD 0 0).toNat+1)).drop 1)
theorem Up{r b:List Int}(h:fbO r=some b):b.length+5<=r.length/\b.length=(r.getD 0 0).toNat:=by
 unfold fbO at h;split at h
 .cases h
 .split at h
  .cases h
  .split at h
   .cases h
   .injection h with h
    subst h;rw[mo,j'];omega
theorem Mp(r:List Int)(a:Acc):BZ r a=(fbO r).bind λb=>(DW a b).map λc=>(c,b.length+5):=by
 have d:∀ b,fbO r=some b->b.length=(r.getD 0 0).toNat:=λb h=>(Up h).2;unfold BZ;unfold fbO at d ⊢;by_cases f:r=[]
 .rw[if_pos f,if_pos f];rfl
 .rw[if_neg f]at d ⊢
  rw[if_neg f];by_cases g:r.length<(r.getD 0 0).toNat+5
  .rw[if_pos g,if_pos g];rfl
  .rw[if_neg g]at d ⊢
   rw[if_neg g];by_cases i:(dig (r.take ((r.getD 0 0).toNat+1))).take 4≠(r.drop ((r.getD 0 0).toNat+1)).take 4
   .rw[if_pos i,if_pos i];rfl
   .rw[if_neg i]at d ⊢
    rw[if_neg i];have e:=d _ rfl;show _=(DW a _).map _;rw[e]
theorem DF(l:List Int)(n i:Nat):Ac (l.drop n) i=Ac l (n+i):=by
 unfold Ac;simp only[mO,ng,nc]
def H5(a:Acc)(b:List Int):Int :=
 if b.length=9/\b.getD 0 0=1 then Cl a (Gk b)
 else if b.length=33/\b.getD 0 0=2 then(if Ck (b.drop 13)=0 then Ba a (FZ b)else Ck (b.drop 13))
 else 3
def Gq(a:Acc)(b:List Int):Acc :=
 if b.length=9/\b.getD 0 0=1 then⟨Fq a (Gk b),Ea a (Gk b)⟩
 else if b.length=33/\b.getD 0 0=2 then(if Ck (b.drop 13)=0 then⟨BI a (FZ b),Br a (FZ b)⟩else a0)
 else a0
theorem Qj(a:Acc)(b:List Int):DW a b=if H5 a b=0 then some (Gq a b)else none:=by
 unfold DW H5 Gq;by_cases d:b.length=9/\b.getD 0 0=1
 .rw[if_pos d,if_pos d,if_pos d];by_cases c:Cl a (Gk b)=0
  .rw[if_pos c,if_pos c];unfold Fq Ea;rw[if_pos c,if_pos c]
  .rw[if_neg c,if_neg c]
 .rw[if_neg d,if_neg d,if_neg d];by_cases c:b.length=33/\b.getD 0 0=2
  .rw[if_pos c,if_pos c,if_pos c];by_cases e:Ck (b.drop 13)=0
   .rw[if_pos e,if_pos e,if_pos e];by_cases f:Ba a (FZ b)=0
    .rw[if_pos f,if_pos f];unfold BI Br;rw[if_pos f,if_pos f]
    .rw[if_neg f,if_neg f]
   .rw[if_neg e,if_neg e,if_neg e]
  .rw[if_neg c,if_neg c,if_neg c,if_neg (by decide)]
def voV(l:List Int):Vt:=if Ck (l.drop 12)=0 then⟨Ac l 0,⟨Ac l 4,Ac l 8⟩,ce (l.drop 12)⟩else⟨0,⟨0,0⟩,⟨0,0,0,0,0⟩⟩
theorem eX{l:List Int}(h:Ck (l.drop 12)=0):∃ m0 m1 m2 m3 m4:Int,Iy (l.drop 12)=#[.int .i64 m0,.int .i64 m1,.int .i64 m2,.int .i64 m3,.int .i64 m4]/\voV l=⟨Ac l 0,⟨Ac l 4,Ac l 8⟩,⟨m0,m1,m2,m3,m4⟩⟩:=by
 refine⟨Ac (l.drop 12) 0,Ac (l.drop 12) 4,Ac (l.drop 12) 8,Ac (l.drop 12) 12,Ac (l.drop 12) 16,?_,?_⟩
 .unfold Iy;rw[if_pos h];rfl
 .unfold voV;rw[if_pos h];rfl
theorem eV{l:List Int}(h:¬ Ck (l.drop 12)=0):Iy (l.drop 12)=zV5/\voV l=⟨0,⟨0,0⟩,⟨0,0,0,0,0⟩⟩:=by
 unfold voV Iy;rw[if_neg h,if_neg h];exact⟨rfl,rfl⟩
theorem R7(b:List Int)(h:Ck (b.drop 13)=0):voV (b.drop 1)=FZ b:=by
 unfold voV FZ;rw[oH,if_pos h,DF,DF,DF]
theorem Le(b:List Int):(⟨Ac (b.drop 1) 0,Ac (b.drop 1) 4⟩:Bal)=Gk b:=by
 unfold Gk;rw[DF,DF]
def G4(d:List Int)(s:Int):Acc:=if AR d s then(Er d).2 else a0
def No(d:List Int)(s:Int):Int:=if AR d s then((Er d).1:Int)else 0
def J9(d:List Int)(s:Int):List Int:=if AR d s then d.take (Er d).1 else[]
def Mf(d:List Int)(s:Int):Int:=if AR d s then(if((Er d).1:Int)<s then((Er d).1:Int)else s)else 0
end
section
def G9(d:List Int)(s:Int)(k:Nat):Int:=if ¬ AR d s then 5 else if 100000<d.length+k then 8 else 0
def CK(d:List Int)(s:Int)(may:Prop)[Decidable may] (b:List Int):Int:=if G9 d s (b.length+5)≠0 then G9 d s (b.length+5)else if may then 0 else 2
def FY(d:List Int)(s:Int)(may:Prop)[Decidable may] (b:List Int):List Int:=if CK d s may b=0 then d++AN b else[]
def GP(d:List Int)(s:Int)(may:Prop)[Decidable may] (b:List Int):Int:=if CK d s may b=0 then s else 0
theorem UL{d:List Int}{s:Int}{k:Nat}(a:AR d s)(b:d.length+k<=100000):G9 d s k=0:=by
 unfold G9;rw[if_neg (λg=>g a),if_neg (by omega)]
theorem dP(b:Bal):Cl a0 b=if Ab b then 0 else 2:=by
 have a:Ag a0:=⟨.inr ⟨rfl,rfl⟩,λv c=>(O' c).elim,trivial⟩;unfold Cl;rw[if_neg (λg=>g a)];by_cases h:Ab b
 .rw[if_neg (λg=>g h),if_pos h,if_neg];intro g;unfold Ab at h;unfold Bal.lt a0 at g;simp only at g;omega
 .rw[if_pos h,if_neg h]
theorem eY(v:Vt):Ba a0 v=if Ah v then 0 else 2:=by
 have a:Ag a0:=⟨.inr ⟨rfl,rfl⟩,λv c=>(O' c).elim,trivial⟩;unfold Ba;rw[if_neg (λg=>g a)];by_cases h:Ah v
 .rw[if_neg (λg=>g h),if_pos h,if_neg];intro g;have b:=h.2.1;unfold Ab at b;unfold Bal.lt a0 at g;simp only at g;omega
 .rw[if_pos h,if_neg h]
end
section
open Go.RowKit
section
def By{α:Type}(f:Nat->α)(i:Nat)(x:α):Nat->α:=λj=>if j=i then x else f j
variable{m:Cmd}{α:Type}
theorem Hf(f:Nat->α)(i:Nat)(x:α):By f i x i=x:=if_pos rfl
theorem Pv(f:Nat->α){i j:Nat}(x:α)(h:j≠i):By f i x j=f j:=if_neg h
structure Sto where
 V:Nat->Int
 L:Nat->Int
 C:Nat->Int
 A:Nat->Int
 R:Nat->Bool
def CJ:Sto:=⟨λ_=>0,λ_=>0,λ_=>0,λ_=>0,λ_=>false⟩
def ClB(l c a:Int):Prop:=(0<=l/\l<=1048577)/\(l=0->c=0/\a=0)
instance (l c a:Int):Decidable (ClB l c a):=by unfold ClB;exact inferInstance
def VaB(v:Int):Prop:=0<=v/\v<=1073741824
instance (v:Int):Decidable (VaB v):=by unfold VaB;exact inferInstance
def Ip(s:Sto):Prop:=(∀ i,i<8->VaB (s.V i))/\∀ i,i<8->ClB (s.L i) (s.C i) (s.A i)
noncomputable instance (s:Sto):Decidable (Ip s):=Classical.propDecidable _
theorem az:Ip CJ:=⟨λ_ _=>by unfold VaB CJ;simp,λ_ _=>by unfold ClB CJ;simp⟩
noncomputable def Nu(s:Sto):Int:=if Ip s then 0 else 5
variable{s:Sto}
theorem eD(h:Ip s):Nu s=0:=if_pos h
theorem KS(h:¬ Ip s):Nu s=5:=if_neg h
def Nj(s:Sto)(m:Cmd):Int:=if m.k=1 then m.v else if m.k=2 then s.V m.n.toNat else 0
def J1(s:Sto)(m:Cmd):Sto :=
 ⟨if m.k=1 then By s.V m.n.toNat m.v else s.V,By s.L m.c.toNat (m.s+1),By s.C m.c.toNat 0,By s.A m.c.toNat (Nj s m),if m.k=3 then By s.R m.n.toNat true else s.R⟩
def dnS(s:Sto)(m:Cmd):Sto:=if m.k≠0/\¬ m.s<s.L m.c.toNat/\s.R m.c.toNat=false then J1 s m else s
def dnC(s:Sto)(m:Cmd):Int :=
 if m.k=0 then 0 else if s.L m.c.toNat=m.s+1 then s.C m.c.toNat else if m.s<s.L m.c.toNat then 7 else if s.R m.c.toNat=true then 11 else 0
def dnA(s:Sto)(m:Cmd):Int :=
 if m.k=0 then 0 else if s.L m.c.toNat=m.s+1 then s.A m.c.toNat else if m.s<s.L m.c.toNat then 0 else if s.R m.c.toNat=true then 0 else Nj s m
noncomputable def doE(s:Sto)(m:Cmd):Int:=if Ip s then m.e else 5
noncomputable def doS(s:Sto)(m:Cmd):Sto:=if doE s m=0 then dnS s m else CJ
noncomputable def doC(s:Sto)(m:Cmd):Int:=if doE s m=0 then dnC s m else 0
noncomputable def doA(s:Sto)(m:Cmd):Int:=if doE s m=0 then dnA s m else 0
theorem OX(h:Ip s):doE s m=m.e:=if_pos h
theorem Sg(h:doE s m=0):doS s m=dnS s m:=if_pos h
theorem Sf(h:doE s m=0):doC s m=dnC s m:=if_pos h
theorem Se(h:doE s m=0):doA s m=dnA s m:=if_pos h
theorem XV(h:doE s m≠0):doS s m=CJ:=if_neg h
theorem XR(h:doE s m≠0):doC s m=0:=if_neg h
theorem OU(h:m.e=0):(0<=m.k/\m.k<=3)/\InC m.c m.s m.n m.v:=Dg h
theorem Uk(b:Ip s)(h:m.e=0):Ip (dnS s m):=by
 obtain⟨f,d⟩:=OU h;unfold InC at d;unfold dnS;split
 .refine⟨λi a=>?_,λi a=>?_⟩
  .simp only[J1];split
   .unfold By;split
    .unfold VaB;omega
    .exact b.1 i a
   .exact b.1 i a
  .simp only[J1];by_cases e:i=m.c.toNat
   .subst e;rw[Hf,Hf,Hf];unfold ClB;omega
   .rw[Pv _ _ e,Pv _ _ e,Pv _ _ e];exact b.2 i a
 .exact b
end
end
section
def Jp(Q:Nat->Bool):Nat:=(Q 0).toNat+(Q 1).toNat+(Q 2).toNat+(Q 3).toNat+(Q 4).toNat
theorem Gy(Q R:Nat->Bool)(d:3<=Jp Q)(e:3<=Jp R):∃ q,q<5/\Q q=true/\R q=true:=by
 apply pW;intro h;have a:∀ q,q<5->(Q q).toNat+(R q).toNat<=1:=by
  intro q f;cases b:Q q<;>cases c:R q<;>simp;exact h ⟨q,f,b,c⟩
 have g:=a 0 (by omega);have b:=a 1 (by omega);have c:=a 2 (by omega);have i:=a 3 (by omega);have j:=a 4 (by omega);unfold Jp at d e;omega
section
variable{γ:Type}
section
def Ch(H:Nat->Nat->Int->γ->Prop)(s:Nat)(b:Int)(c:γ):Prop:=∃ Q:Nat->Bool,3<=Jp Q/\∀ q,q<5->Q q=true->H q s b c
def Ez(H:Nat->Nat->Int->γ->Prop)(P:Nat->Int)(s:Nat)(b:Int)(c:γ):Prop :=
 ∃ Q:Nat->Bool,3<=Jp Q/\(∀ q,q<5->Q q=true->b<=P q) /\
  ((∀ q,q<5->Q q=true->∀ b' c',H q s b' c'->b<=b') \/
   ∃ b0,b0<b/\(∃ q,q<5/\Q q=true/\H q s b0 c)/\∀ q,q<5->Q q=true->∀ b' c',H q s b' c'->b'<b->b'<=b0)
structure PInv(H:Nat->Nat->Int->γ->Prop)(P:Nat->Int):Prop where
 le:∀ n s b c,H n s b c->0<b/\b<=P n
 uniq:∀ n n' s b c c',H n s b c->H n' s b c'->c=c'
 safe:∀ n s b c,H n s b c->Ez H P s b c
variable{H:Nat->Nat->Int->γ->Prop}{P:Nat->Int}{b:Int}{c:γ}{n s:Nat}
theorem PInv.later(h:PInv H P){s:Nat}{b:Int}{c:γ}(p:Ch H s b c):∀ (m:Nat) (b2:Int) (c2:γ) (n:Nat),b2.toNat=m->b<b2->H n s b2 c2->c2=c:=by
 intro m;induction m using Nat.strongRecOn with
 | ind m ih =>
  intro b2 c2 n v i l;have w:=(h.le n s b2 c2 l).1;obtain⟨Q,r,u,f⟩:=h.safe n s b2 c2 l;obtain⟨o,e,g⟩:=p;obtain⟨q,j,d,k⟩:=Gy Q o r e;have a:=g q j k;rcases f with f|⟨b0,hb0,⟨q0,hq0,hq0Q,hv0⟩,hmax⟩
  .have:=f q j d b c a;omega
  .have hle:=hmax q j d b c a i;have t:=(h.le q0 s b0 c2 hv0).1;rcases(by omega:b=b0\/b<b0)with rfl|hlt0
   .exact h.uniq q0 q s b c2 c hv0 a
   .exact ih b0.toNat (by omega) b0 c2 q0 rfl hlt0 hv0
theorem PInv.agree(h:PInv H P){s:Nat}{d e:Int}{f g:γ}(j:Ch H s d f)(k:Ch H s e g):f=g:=by
 have a:∀ {b:Int} {c:γ},Ch H s b c->∃ n,H n s b c:=by
  rintro b c ⟨Q,l,t⟩;obtain⟨q,u,i,_⟩:=Gy Q Q l l;exact⟨q,t q u i⟩
 obtain⟨m,p⟩:=a j;obtain⟨o,r⟩:=a k;rcases(by omega:d<e\/d=e\/e<d)with hlt|rfl|hlt
 .exact(h.later j _ e g o rfl hlt r).symm
 .exact h.uniq m o s d f g p r
 .exact h.later k _ d f m rfl hlt p
def upP(P:Nat->Int)(n:Nat)(b:Int):Nat->Int:=λi=>if i=n then b else P i
theorem MG(h:P n<=b)(q:Nat):P q<=upP P n b q:=by
 unfold upP;split
 .rename_i e;rw[e];exact h
 .exact mf _
theorem Ez.up(h:Ez H P s b c){n:Nat}{d:Int}(i:P n<=d):Ez H (upP P n d) s b c:=by
 obtain⟨Q,f,e,g⟩:=h;exact⟨Q,f,λq j a=>mC (e q j a) (MG i q),g⟩
theorem PInv.an(h:PInv H P){n:Nat}{b:Int}(e:P n<=b):PInv H (upP P n b) :=
 ⟨λm s a c d=>⟨(h.le m s a c d).1,mC (h.le m s a c d).2 (MG e m)⟩,h.uniq,λm s a c d=>(h.safe m s a c d).up e⟩
def ga(H:Nat->Nat->Int->γ->Prop)(n s:Nat)(b:Int)(c:γ):Nat->Nat->Int->γ->Prop:=λn' s' b' c'=>H n' s' b' c'\/(n'=n/\s'=s/\b'=b/\c'=c)
theorem Ez.bN(h:Ez H P s b c){n t:Nat}{f:Int}{o:γ}(m:P n<=f):Ez (ga H n t f o) (upP P n f) s b c:=by
 obtain⟨Q,p,j,k⟩:=h;refine⟨Q,p,λq d a=>mC (j q d a) (MG m q),?_⟩;rcases k with k|⟨b0,hb0,⟨q0,hq0,hq0Q,hv0⟩,hmax⟩
 .left;intro q d a g i e;rcases e with e|⟨rfl,rfl,rfl,rfl⟩
  .exact k q d a g i e
  .exact mC (j q d a) m
 .right;refine⟨b0,hb0,⟨q0,hq0,hq0Q,.inl hv0⟩,?_⟩;intro q d a g i e l;rcases e with e|⟨rfl,rfl,rfl,rfl⟩
  .exact hmax q d a g i e l
  .have:=j q d a;omega
theorem PInv.bN(h:PInv H P){n s:Nat}{b:Int}{c:γ}(a:P n<=b)(e:0<b)(f:Ez H P s b c)(d:∀ m c',H m s b c'->c'=c):PInv (ga H n s b c) (upP P n b):=by
 refine⟨?_,?_,?_⟩
 .rintro m t b' c' (hv|⟨rfl,rfl,rfl,rfl⟩)
  .exact⟨(h.le m t b' c' hv).1,mC (h.le m t b' c' hv).2 (MG a m)⟩
  .exact⟨e,by unfold upP;rw[if_pos rfl];exact mf _⟩
 .rintro m m' t b' c' c2 (hv|⟨_,e1,e2,e3⟩) (hv'|⟨_,e1',e2',e3'⟩)
  .exact h.uniq m m' t b' c' c2 hv hv'
  .subst e1' e2' e3';exact d m c' hv
  .subst e1 e2 e3;exact(d m' c2 hv').symm
  .rw[e3,e3']
 .rintro m t b' c' (hv|⟨rfl,rfl,rfl,rfl⟩)
  .exact(h.safe m t b' c' hv).bN a
  .exact f.bN a
end
end
end
section
def upN{α:Type}(f:Nat->α)(n:Nat)(x:α):Nat->α:=λi=>if i=n then x else f i
theorem Dd{α:Type}(f:Nat->α)(n:Nat)(x:α):upN f n x n=x:=if_pos rfl
theorem Dz{α:Type}(f:Nat->α){n i:Nat}(x:α)(h:i≠n):upN f n x i=f i:=if_neg h
end
section
theorem IG{l:List Vt}(h:BL l)(s:Int)(v:Vt):BK (Ae l s) v<=(decide (v∈l/\v.bn=s)).toNat:=by
 induction l with
 | nil=>simp[BK,Ae]
 | cons x xs c =>
  obtain⟨f,d⟩:=h;have c:=c d;have e:BK (Ae (x::xs) s) v=(if x.bn=s/\x=v then 1 else 0)+BK (Ae xs s) v:=by
   unfold BK Ae;rw[List.filter_cons];by_cases a:x.bn=s
   .rw[if_pos (by simpa using a),pI];by_cases b:x=v
    .have h1':v.bn=s:=b▸a;simp[b,h1'];omega
    .simp[a,b]
   .rw[if_neg (by simpa using a)];simp[a]
  rw[e];by_cases a:x.bn=s/\x=v
  .have b:¬ (v∈xs/\v.bn=s):=λg=>by
    have:=f v g.1;rw[<- a.2]at this
    omega
   rw[G' b]at c
   rw[if_pos a,P' ⟨a.2▸M',a.2▸a.1⟩];simp at c ⊢;omega
  .rw[if_neg a];by_cases b:v∈xs/\v.bn=s
   .rw[P' b]at c
    rw[P' ⟨I' _ b.1,b.2⟩];omega
   .rw[G' b]at c
    simp at c ⊢;omega
theorem C1(l m:List Vt)(v:Vt):BK (l++m) v=BK l v+BK m v:=by unfold BK;rw[pi]
end
section
def Be:Bal:=⟨0,0⟩
def Vu:Cmd:=⟨0,0,0,0,0⟩
def vtz:Vt:=⟨0,Be,Vu⟩
def El:Acc:=⟨Be,[]⟩
structure Let where
 kind:Nat
 src:Nat
 dst:Nat
 fv:Bal
 bN:Vt
 ic:List Vt
 bn:Nat
 fm:List Cmd
def BD(k:Nat):Let:=⟨k,0,0,Be,vtz,[],0,[]⟩
inductive Pend where
 | began (b:Bal) (vs:List Vt)
 | prom (to:Nat) (b:Bal) (vs:List Vt)
 | voted (to:Nat) (v:Vt)
 | ew (to:Nat) (b:Bal)
 | prop (v:Vt)
 | askNews (to:Nat)
 | start
 | tell (to:Nat) (bn:Nat)
structure Rnd where
 fv:Bal
 nn:Nat->Bool
 al:Nat->Acc
 bu:Nat->Nat
 next:Nat
 fa:List Cmd
def eh:Rnd:=⟨Be,λ_=>false,λ_=>El,λ_=>0,0,[]⟩
structure Tol where
 n:Nat
 c:Int
 s:Int
 e:Int
 a:Int
structure Nod where
 up:Bool
 d:List Int
 sy:Int
 bad:Nat
 vo:Acc
 br:List Pend
 cF:Int
 av:Rnd
 ae:List Cmd
 done:Nat
 ie:Sto
 au:List Cmd
 bw:Cmd->Option Bal
structure Meet where
 ab:Nat->Nod
 bm:List Let
 eb:List Tol
def Nod.bare(N:Nod)(up:Bool)(d:List Int)(sy:Int)(vo:Acc)(p:List Pend):Nod :=
 ⟨up,d,sy,N.bad,vo,p,0,eh,[],0,CJ,[],λ_=>none⟩
def Cz:Nod:=⟨true,[],0,0,El,[],0,eh,[],0,CJ,[],λ_=>none⟩
def As:Meet:=⟨λ_=>Cz,[],[]⟩
def Meet.put(M:Meet)(i:Nat)(N:Nod):Meet:={ M with ab:=upN M.ab i N }
def Nod.an(N:Nod)(b:Bal):Nod × List Vt × Int :=
 if Cl N.vo b≠0 then(N,[],Cl N.vo b)
 else if b=N.vo.p then({ N with vo:=⟨b,N.vo.vs⟩ },N.vo.vs,0)
 else if CK N.d N.sy (Ab b) (Bu b)≠0 then(N,[],CK N.d N.sy (Ab b) (Bu b))
 else({ N with d:=FY N.d N.sy (Ab b) (Bu b),sy:=GP N.d N.sy (Ab b) (Bu b),vo:=⟨b,N.vo.vs⟩ },N.vo.vs,0)
def Nod.bN(N:Nod)(v:Vt):Nod × Int :=
 if Ba N.vo v≠0 then(N,Ba N.vo v)
 else if v∈N.vo.vs then({ N with vo:=⟨v.b,Bo N.vo.vs v⟩ },0)
 else if CK N.d N.sy (Ah v) (Bk v)≠0 then(N,CK N.d N.sy (Ah v) (Bk v))
 else({ N with d:=FY N.d N.sy (Ah v) (Bk v),sy:=GP N.d N.sy (Ah v) (Bk v),vo:=⟨v.b,Bo N.vo.vs v⟩ },0)
def Nod.wait(N:Nod)(p:Pend):Nod:={ N with br:=N.br++[p] }
def Nod.ew(N:Nod)(to:Nat)(e:Int):Nod:=if e=7 then N.wait (.ew to N.vo.p)else N
def Nod.leads(N:Nod):Bool:=decide (N.av.fv≠Be/\N.av.fv=N.vo.p)
def Rnd.qD(r:Rnd):Bool:=decide (5<2*Jp r.nn)
def Dh(a:Acc):List Vt->Acc
 | []=>a
 | v::l=>Dh (if Ba a v=0 then⟨BI a v,Br a v⟩else a) l
def Rnd.qQ(r:Rnd)(j:Nat)(vs:List Vt):Rnd:={ r with nn:=upN r.nn j true,al:=upN r.al j (Dh ⟨r.fv,vs⟩ (r.al j).vs) }
def Rnd.gC(r:Rnd):List Acc:=[r.al 0,r.al 1,r.al 2,r.al 3,r.al 4]
def FG:Nat->Rnd->List Cmd->List Cmd
 | 0,_,l=>l
 | k+1,r,l=>if CZ r.gC (l.length:Int)=0 then FG k r (l++[CR r.gC (l.length:Int)])else l
def Nod.qv(N:Nod):Nod:={ N with ae:=FG 41 N.av N.ae }
def Nod.ia(N:Nod)(bn:Nat)(fm:List Cmd):Nod:={ N with ae:=N.ae++fm.drop (N.ae.length-bn) }
def Nod.count(N:Nod)(j:Nat)(v:Vt):Nod :=
 if v.b≠N.av.fv then N
 else if Ba (N.av.al j) v≠0 then N
 else Nod.qv { N with av:={ N.av with al:=upN N.av.al j ⟨BI (N.av.al j) v,Br (N.av.al j) v⟩ } }
def Hk(q:List Cmd):List Cmd->List Cmd
 | []=>q
 | c::l=>Hk (if q.length<40/\c∉q then q++[c]else q) l
def Nod.dT(N:Nod)(fm:List Cmd):Nod:=if N.leads then{ N with av:={ N.av with fa:=Hk N.av.fa fm } }else N
def BW(f:Cmd->Option Bal)(c:Cmd)(b:Option Bal):Cmd->Option Bal:=λx=>if x=c then b else f x
def Nod.want(N:Nod)(c:Cmd):Nod:=if(N.bw c).isSome then N else{ N with au:=N.au++[c],bw:=BW N.bw c (some Be) }
def Nod.fu(N:Nod)(c:Cmd):Nod:=if(N.bw c).isSome then{ N with au:=N.au.erase c,bw:=BW N.bw c none }else N
def Bb(b:Bal)(f:Cmd->Option Bal):List Cmd->List Cmd × (Cmd->Option Bal)
 | []=>([],f)
 | c::l=>if(f c).getD Be≠b then(c::(Bb b (BW f c (some b)) l).1,(Bb b (BW f c (some b)) l).2)else Bb b f l
def Nod.take(N:Nod)(l:Let):Nod :=
 match l.kind with
 | 0=>if(N.an l.fv).2.2≠0 then N.ew l.src (N.an l.fv).2.2 else(N.an l.fv).1.wait (.prom l.src l.fv (N.an l.fv).2.1)
 | 1=>let K:=N.ia 0 l.fm
  if K.leads=false\/l.fv≠K.av.fv\/K.av.nn l.src=true then K
  else Nod.qv { K with av:={ K.av.qQ l.src l.ic with bu:=upN K.av.bu l.src l.fm.length } }
 | 2=>{ N with cF:=max N.cF l.fv.r }
 | 3=>if(N.bN l.bN).2≠0 then N.ew l.src (N.bN l.bN).2 else(N.bN l.bN).1.wait (.voted l.src l.bN)
 | 4=>N.count l.src l.bN
 | 5=>if N.ae.length<l.bn then N.wait (.askNews l.src)else N.ia l.bn l.fm
 | 6=>let K:=N.dT l.fm
  if l.bn<K.ae.length then K.wait (.tell l.src l.bn)else K
 | _=>N
def Meet.lp(M:Meet)(l:Let):Meet:=if(M.ab l.dst).up then M.put l.dst ((M.ab l.dst).take l)else M
def Nod.mv(N:Nod)(bn:Nat):Option Cmd :=
 if BY (N.av.gC.map (·.vs)) (bn:Int)≠0 then none
 else if DZ (N.av.gC.map (·.vs)) (bn:Int)then some (G1 (N.av.gC.map (·.vs)) (bn:Int))
 else N.av.fa.find? λc=>decide (c∉N.ae)
def Nod.cl(N:Nod):Nod :=
 if N.leads=false\/N.av.qD=false\/N.ae.length<N.av.next then N
 else match N.mv N.ae.length with
  | none=>N
  | some c =>
   if(N.bN ⟨(N.ae.length:Int),N.av.fv,c⟩).2≠0 then N
   else Nod.wait { (N.bN ⟨(N.ae.length:Int),N.av.fv,c⟩).1 with av:={ N.av with next:=N.ae.length+1 } } (.prop ⟨(N.ae.length:Int),N.av.fv,c⟩)
def Nod.lead(N:Nod)(i:Nat):Nod :=
 let b:Bal:=⟨max N.cF N.vo.p.r+1,(i:Int)⟩
 if(N.an b).2.2≠0 then N
 else Nod.wait { (N.an b).1 with av:=⟨b,λ_=>false,λ_=>El,λ_=>N.ae.length,0,[]⟩ } (.began b (N.an b).2.1)
def Nod.ib(N:Nod)(k:Int):Nod:=if Gn N.d N.sy k≠0 then N else N.bare false (Kx N.d N.sy k) (Ky N.d N.sy k) El []
def Nod.start(N:Nod):Nod :=
 if Db N.d N.sy≠0 then N
 else if No N.d N.sy<(N.d.length:Int)then N.bare true (J9 N.d N.sy) (Mf N.d N.sy) (G4 N.d N.sy) [.start]
 else N.bare true N.d N.sy (G4 N.d N.sy) [.start]
def Meet.move(M:Meet)(k:Int)(at_:Nat):Meet :=
 match M.bm[at_%M.bm.length]? with
 | none=>M
 | some l =>
  let A:=if k≠6 then{ M with bm:=M.bm.eraseIdx (at_%M.bm.length) }else M
  if k≠5 then A.lp l else A
def Meet.qH(M:Meet):Meet:=M.bm.foldl (λM l=>M.lp l) { M with bm:=[] }
end
section
open Go.RowKit
section
def stA(s:Sto):Array Value:=#[.int .i64 (s.V 0),.int .i64 (s.V 1),.int .i64 (s.V 2),.int .i64 (s.V 3),.int .i64 (s.V 4),.int .i64 (s.V 5),.int .i64 (s.V 6),.int .i64 (s.V 7),.int .i64 (s.L 0),.int .i64 (s.L 1),.int .i64 (s.L 2),.int .i64 (s.L 3),.int .i64 (s.L 4),.int .i64 (s.L 5),.int .i64 (s.L 6),.int .i64 (s.L 7),.int .i64 (s.C 0),.int .i64 (s.A 0),.int .i64 (s.C 1),.int .i64 (s.A 1),.int .i64 (s.C 2),.int .i64 (s.A 2),.int .i64 (s.C 3),.int .i64 (s.A 3),.int .i64 (s.C 4),.int .i64 (s.A 4),.int .i64 (s.C 5),.int .i64 (s.A 5),.int .i64 (s.C 6),.int .i64 (s.A 6),.int .i64 (s.C 7),.int .i64 (s.A 7),.bool (s.R 0),.bool (s.R 1),.bool (s.R 2),.bool (s.R 3),.bool (s.R 4),.bool (s.R 5),.bool (s.R 6),.bool (s.R 7)]
theorem kL(s:Sto)(i:Nat)(h:i<8):(stA s)[i]?=some (.int .i64 (s.V i)):=by
 rcases(by omega:i=0\/i=1\/i=2\/i=3\/i=4\/i=5\/i=6\/i=7)with rfl|rfl|rfl|rfl|rfl|rfl|rfl|rfl<;>rfl
theorem kK(s:Sto)(i:Nat)(h:i<8):(stA s)[8+i]?=some (.int .i64 (s.L i)):=by
 rcases(by omega:i=0\/i=1\/i=2\/i=3\/i=4\/i=5\/i=6\/i=7)with rfl|rfl|rfl|rfl|rfl|rfl|rfl|rfl<;>rfl
theorem kJ(s:Sto)(i:Nat)(h:i<8):(stA s)[16+i*2]?=some (.int .i64 (s.C i)):=by
 rcases(by omega:i=0\/i=1\/i=2\/i=3\/i=4\/i=5\/i=6\/i=7)with rfl|rfl|rfl|rfl|rfl|rfl|rfl|rfl<;>rfl
theorem kH(s:Sto)(i:Nat)(h:i<8):(stA s)[16+i*2+1]?=some (.int .i64 (s.A i)):=by
 rcases(by omega:i=0\/i=1\/i=2\/i=3\/i=4\/i=5\/i=6\/i=7)with rfl|rfl|rfl|rfl|rfl|rfl|rfl|rfl<;>rfl
def Bs(w:World)(g:Nat)(s:Sto):Prop:=w.heap[g]?=some (.cells (stA s) 115)
variable{g:Nat}{s:Sto}{w:World}
theorem Bs.sG(h:Bs w g s)(i:Nat)(a:i<8):w.cell? ⟨g,i,none⟩=some (.int .i64 (s.V i)):=(cell_of_row _ _ i _ _ _ h).trans (kL s i a)
theorem Bs.sF(h:Bs w g s)(i:Nat)(a:i<8):w.cell? ⟨g,8+i,none⟩=some (.int .i64 (s.L i)):=(cell_of_row _ _ (8+i) _ _ _ h).trans (kK s i a)
theorem Bs.sE(h:Bs w g s)(i:Nat)(a:i<8):w.cell? ⟨g,16+i*2,none⟩=some (.int .i64 (s.C i)):=(cell_of_row _ _ (16+i*2) _ _ _ h).trans (kJ s i a)
theorem Bs.sD(h:Bs w g s)(i:Nat)(a:i<8):w.cell? ⟨g,16+i*2+1,none⟩=some (.int .i64 (s.A i)):=(cell_of_row _ _ (16+i*2+1) _ _ _ h).trans (kH s i a)
theorem im(a b c d:Int):∀ w,(binOp .neq 46 (.agg #[.int .i64 a,.int .i64 b]) (.agg #[.int .i64 c,.int .i64 d])).run prog w=.ok (.bool (!decide (a=c/\b=d))) w:=by
 intro w;rw[run_neq_struct,run_equalIn_agg w 9999 _ _ _ (by kernel_rfl) (by kernel_rfl)];unfold Program.fieldsOf;rw[underlying46];have e:=underlying3;have f:=underlying28;simp[Op.eqFields,go_sem,e,f]
 repeat' split
 all_goals simp_all
theorem dz(a b:Int):∀ w,(binOp .neq 46 (.agg #[.int .i64 a,.int .i64 b]) (.agg #[.int .i64 0,.int .i64 0])).run prog w=.ok (.bool (!decide (a=0/\b=0))) w:=im a b 0 0
def vaL(f:Nat->Int):List Value:=[.int .i64 (f 0),.int .i64 (f 1),.int .i64 (f 2),.int .i64 (f 3),.int .i64 (f 4),.int .i64 (f 5),.int .i64 (f 6),.int .i64 (f 7)]
def vaA(f:Nat->Int):Array Value:=(vaL f).toArray
theorem bi(f:Nat->Int)(j:Nat)(u:Value)(h:(vaL f)[j]?=some u):j<8/\u=.int .i64 (f j):=by
 have a:j<8:=(V'.1 h).1;refine⟨a,?_⟩;rcases(by omega:j=0\/j=1\/j=2\/j=3\/j=4\/j=5\/j=6\/j=7)with rfl|rfl|rfl|rfl|rfl|rfl|rfl|rfl<;>(simp[vaL]at h;exact h.symm)
theorem Bs.sx(h:Bs w g s):w.rangeAt g 0 (vaL s.V):=by
 intro j u b;obtain⟨a,rfl⟩:=bi _ _ _ b;rw[mU];exact h.sG j a
theorem Bs.sw(h:Bs w g s):w.rangeAt g 8 (vaL s.L):=by
 intro j u b;obtain⟨a,rfl⟩:=bi _ _ _ b;exact h.sF j a
theorem jf(f:Nat->Int):(prog.info? 112).map (·.size)=some (vaL f).length:=by show _=some 8;kernel_rfl
theorem GO{d:Array Oper}{c:List Oper}{op:Oper}{a:Act}{Q:Exit->Act->World->Prop}(e:op.guard=none)(x:Operand)(i:op.op=.load 112 x)(b o:Nat)(j:a.eval x=.pointer (some ⟨b,o,none⟩))(f:Nat->Int)(g:w.rangeAt b o (vaL f))(h:wpList prog d Q c (a.put op.dst (.agg (vaA f))) w):wpList prog d Q (op::c) a w :=
 wpList_load_mid e 112 x i b o j (vaL f) _ g underlying112 rfl (jf f) h
theorem UX(f:Nat->Int)(i:Nat)(a:i<8)(w:World):(Instr.index 112 (.agg (vaA f)) (.int .i64 (i:Int))).run prog w=.ok (.int .i64 (f i)) w:=by
 rcases(by omega:i=0\/i=1\/i=2\/i=3\/i=4\/i=5\/i=6\/i=7)with rfl|rfl|rfl|rfl|rfl|rfl|rfl|rfl<;>kernel_rfl
structure NX where
 tape:S3
 ic:S3
 synced:S3
 fa:S3
 ae:S3
 au:S3
 hv:Nat->S3
 bw:Option Nat
def AF(i ob:Nat)(p:Nod)(x:NX):Array Value:=([iv (i:Int),.bool p.up,S3.v x.tape,iv p.sy,iv (p.bad:Int),pt ob 0,iv p.vo.p.r,iv p.vo.p.n,S3.v x.ic,S3.v x.synced,iv p.cF,iv p.av.fv.r,iv p.av.fv.n,.bool (p.av.nn 0),.bool (p.av.nn 1),.bool (p.av.nn 2),.bool (p.av.nn 3),.bool (p.av.nn 4),iv ((p.av.al 0).p.r),iv ((p.av.al 0).p.n),S3.v (x.hv 0),iv ((p.av.al 1).p.r),iv ((p.av.al 1).p.n),S3.v (x.hv 1),iv ((p.av.al 2).p.r),iv ((p.av.al 2).p.n),S3.v (x.hv 2),iv ((p.av.al 3).p.r),iv ((p.av.al 3).p.n),S3.v (x.hv 3),iv ((p.av.al 4).p.r),iv ((p.av.al 4).p.n),S3.v (x.hv 4),iv (p.av.bu 0:Int),iv (p.av.bu 1:Int),iv (p.av.bu 2:Int),iv (p.av.bu 3:Int),iv (p.av.bu 4:Int),iv (p.av.next:Int),S3.v x.fa,S3.v x.ae,iv (p.done:Int)]++((stA p.ie).toList++[S3.v x.au,.map x.bw])).toArray
def FF(l:Let)(vs wh:S3):Array Value:=#[iv (l.kind:Int),iv (l.src:Int),iv (l.dst:Int),iv l.fv.r,iv l.fv.n,iv l.bN.bn,iv l.bN.b.r,iv l.bN.b.n,iv l.bN.w.k,iv l.bN.w.c,iv l.bN.w.s,iv l.bN.w.n,iv l.bN.w.v,S3.v vs,iv (l.bn:Int),S3.v wh]
def Es(t:Tol):List Value:=[iv (t.n:Int),iv t.c,iv t.s,iv t.e,iv t.a]
def cmV(c:Cmd):List Value:=[iv c.k,iv c.c,iv c.s,iv c.n,iv c.v]
def cmL(l:List Cmd):List Value:=l.flatMap cmV
theorem Cw(l m:List Cmd):cmL (l++m)=cmL l++cmL m:=by simp[cmL]
theorem BJ(l:List Cmd):(cmL l).length=l.length*5:=by
 induction l with
 | nil=>rfl
 | cons c l ih=>rw[cmL,om,E'];show 5+(cmL l).length=_;rw[ih,mJ];omega
theorem OT(l:List Cmd):∀ u∈cmL l,u.oneCell'=true:=by
 intro u b;obtain⟨c,_,a⟩:=oU.1 b;simp only[cmV,mp,O',or_false]at a;rcases a with rfl|rfl|rfl|rfl|rfl<;>rfl
theorem OS{l:List Cmd}{k:Nat}{c:Cmd}(h:l[k]?=some c){j:Nat}{u:Value}(a:(cmV c)[j]?=some u):(cmL l)[5*k+j]?=some u:=by
 induction l generalizing k with
 | nil=>cases h
 | cons d l ih =>
  rw[cmL,om];cases k with
  | zero =>
   simp only[ny,X']at h;subst h;rw[mt (by have:=(V'.1 a).1;omega)];simpa using a
  | succ k =>
   rw[my (by show 5<=_;omega),show 5*(k+1)+j-(cmV d).length=5*k+j by show 5*(k+1)+j-5=_;omega];exact ih (by simpa using h)
theorem Ll(l:List Cmd)(k:Nat):(cmL l).drop (5*k)=cmL (l.drop k):=by
 induction l generalizing k with
 | nil=>simp[cmL]
 | cons c l ih =>
  cases k with
  | zero=>simp
  | succ k =>
   show(cmV c++cmL l).drop (5*(k+1))=cmL (l.drop k);rw[<- ih k,List.drop_append,show(cmV c).drop (5*(k+1))=[]from na (by show 5<=_;omega),nC,show 5*(k+1)-(cmV c).length=5*k by show 5*(k+1)-5=_;omega]
def Frz(g:Gh)(x:S3):Prop:=∀ a,x.a=some a->g.t a.block=.z
structure FSl(g:Gh)(w:World)(x:S3)(l:List Int):Prop where
 s:Sl w x.v l
 z:l≠[]->Frz g x
structure FSv(g:Gh)(w:World)(x:S3)(l:List Vt):Prop where
 s:Sv w x.v l
 z:l≠[]->Frz g x
end
section
variable{B:Nat}{T:List Tg}{g g':Gh}{w w':World}
section
variable{b i nb ob r:Nat}{bs:List Nat}{f:Cmd->Option Bal}{l:List Let}{x:S3}
theorem Cg.zc(c:Cg B T g w g' w')(e:Tg.z∉T){b:Nat}(d:b<w.heap.size)(a:g.t b=.z):w'.heap[b]?=w.heap[b]?:=c.same b d (by rw[a];exact e) (λh=>by rw[a]at h;cases h)
theorem FSl.ch{l:List Int}(h:FSl g w x l)(c:Cg B T g w g' w')(v:Tg.z∉T:=by simp):FSl g' w' x l:=by
 obtain⟨⟨⟨a,r,q,o,p,j⟩,k,m⟩,s⟩:=h;simp only[Value.slice.injEq]at q;obtain⟨rfl,e,rfl⟩:=q;rcases j with j|⟨b,off,ha,hbs,hcell⟩
 .exact⟨⟨⟨_,_,by simp only[Value.slice.injEq,and_true,true_and];exact e,o,p,.inl j⟩,k,m⟩,λh=>absurd j h⟩
 .have hne:∀ _:l≠[],g.t b=.z:=λh=>s h _ ha;by_cases f:l=[]
  .exact⟨⟨⟨_,_,by simp only[Value.slice.injEq,and_true,true_and];exact e,o,p,.inl f⟩,k,m⟩,λh=>absurd f h⟩
  .refine⟨⟨⟨_,_,by simp only[Value.slice.injEq,and_true,true_and];exact e,o,p,.inr ⟨b,off,ha,Z' hbs c.size,λi u=>?_⟩⟩,k,m⟩,λ_ y d=>?_⟩
   .rw[World.cell?_of_block (w:=w) (c.zc v hbs (hne f))];exact hcell i u
   .rw[ha]at d;simp only[X']at d;subst d;rw[c.tag hbs (λh=>absurd ((hne f).symm.trans h) (by simp))];exact hne f
theorem FSv.ch{l:List Vt}(h:FSv g w x l)(c:Cg B T g w g' w')(A:Tg.z∉T:=by simp):FSv g' w' x l:=by
 obtain⟨⟨⟨a,q,p,m,o,f⟩,k⟩,r⟩:=h;simp only[Value.slice.injEq]at p;obtain⟨rfl,e,rfl⟩:=p;rcases f with f|⟨b,off,ha,hbs,hcell⟩
 .exact⟨⟨⟨_,_,by simp only[Value.slice.injEq,and_true,true_and];exact e,m,o,.inl f⟩,k⟩,λh=>absurd f h⟩
 .by_cases hl:l=[]
  .exact⟨⟨⟨_,_,by simp only[Value.slice.injEq,and_true,true_and];exact e,m,o,.inl hl⟩,k⟩,λh=>absurd hl h⟩
  .have hzb:g.t b=.z:=r hl _ ha;refine⟨⟨⟨_,_,by simp only[Value.slice.injEq,and_true,true_and];exact e,m,o,.inr ⟨b,off,ha,Z' hbs c.size,λi v s j u y=>?_⟩⟩,k⟩,λ_ C d=>?_⟩
   .rw[World.cell?_of_block (w:=w) (c.zc A hbs hzb)];exact hcell i v s j u y
   .rw[ha]at d;simp only[X']at d;subst d;rw[c.tag hbs (λh=>absurd (hzb.symm.trans h) (by simp))];exact hzb
structure Rc(g:Gh)(w:World)(x:S3)(l:List Cmd):Prop where
 len:x.n=l.length
 cap:x.n<=x.c
 rQ:x.a=none->x.c=0
 ex:l=[]\/∃ b off,x.a=some ⟨b,off,none⟩/\b<w.heap.size/\(∀ j u,(cmL l)[j]?=some u->w.cell? ⟨b,off+j,none⟩=some u)/\(g.t b=.z\/off+5*l.length<=g.k b)
theorem Rc.nil(g:Gh)(w:World):Rc g w s30 []:=⟨rfl,A' _,λ_=>rfl,.inl rfl⟩
theorem Rc.ch{l:List Cmd}(h:Rc g w x l)(c:Cg B T g w g' w')(d:Tg.z∉T:=by simp):Rc g' w' x l:=by
 refine⟨h.len,h.cap,h.rQ,?_⟩;rcases h.ex with h1|⟨b,off,h1,h2,h3,h4⟩
 .exact .inl h1
 .refine .inr ⟨b,off,h1,Z' h2 c.size,λj u a=>?_,?_⟩
  .rcases h4 with h4|h4
   .rw[World.cell?_of_block (w:=w) (c.zc d h2 h4)];exact h3 j u a
   .have hjl:j<(cmL l).length:=(V'.1 a).1;rw[BJ]at hjl
    rw[c.rp b h2 (off+j) (by omega)];exact h3 j u a
  .rcases h4 with h4|h4
   .exact .inl ((c.tag h2 (by rw[h4];intro h;cases h)).trans h4)
   .exact .inr (mg h4 (c.ry b h2))
structure Box(g:Gh)(w:World)(b:Nat)(cs:Array Value)(t:TypeId):Prop where
 r:w.heap[b]?=some (.cells cs t)
 z:g.t b=.z
theorem Box.ch{a:Array Value}{t:TypeId}(h:Box g w b a t)(c:Cg B T g w g' w')(d:Tg.z∉T:=by simp):Box g' w' b a t:=⟨(c.zc d (rl h.r) h.z).trans h.r,(c.tag (rl h.r) (by rw[h.z];intro h;cases h)).trans h.z⟩
def CQ(g:Gh)(w:World)(b:Nat)(l:Let):Prop:=∃ vs wh,Box g w b (FF l vs wh) 166/\FSv g w vs l.ic/\Rc g w wh l.fm
theorem CQ.ch{l:Let}(h:CQ g w b l)(c:Cg B T g w g' w')(a:Tg.z∉T:=by simp):CQ g' w' b l:=let ⟨vs,wh,h1,h2,h3⟩:=h;⟨vs,wh,h1.ch c a,h2.ch c a,h3.ch c a⟩
def KX(g:Gh)(w:World)(nb:Nat)(v:Value):Pend->Prop
 | .began b vs=>∃ b1 b2 b3 x,v=.func (.func 84) #[] #[pt b1 0,pt b2 0,pt b3 0]/\Box g w b1 #[pt nb 0] 99/\Box g w b2 #[iv b.r,iv b.n] 104/\Box g w b3 #[S3.v x] 105/\FSv g w x vs
 | .prom to b vs=>∃ b1 b2 b3 x lb l,v=.func (.func 110) #[] #[pt b1 0,pt b2 0,pt b3 0]/\Box g w b1 #[pt nb 0] 99/\Box g w b2 #[pt lb 0] 167/\Box g w b3 #[S3.v x] 105/\FSv g w x vs/\CQ g w lb l/\l.src=to/\l.fv=b
 | .voted to u=>∃ b1 b2 lb l,v=.func (.func 116) #[] #[pt b1 0,pt b2 0]/\Box g w b1 #[pt nb 0] 99/\Box g w b2 #[pt lb 0] 167/\CQ g w lb l/\l.src=to/\l.bN=u
 | .ew to b=>∃ b1 b2 b3,v=.func (.func 146) #[] #[pt b1 0,pt b2 0,pt b3 0]/\Box g w b1 #[pt nb 0] 99/\Box g w b2 #[iv (to:Int)] 3/\Box g w b3 #[iv b.r,iv b.n] 104
 | .prop u=>∃ b1 b2,v=.func (.func 133) #[] #[pt b1 0,pt b2 0]/\Box g w b1 #[pt nb 0] 99/\Box g w b2 (vtA u) 164
 | .askNews to=>∃ b1 b2 lb l,v=.func (.func 118) #[] #[pt b1 0,pt b2 0]/\Box g w b1 #[pt nb 0] 99/\Box g w b2 #[pt lb 0] 167/\CQ g w lb l/\l.src=to
 | .start=>∃ b1,v=.func (.func 97) #[] #[pt b1 0]/\Box g w b1 #[pt nb 0] 99
 | .tell to bn=>∃ b1 b2 lb l,v=.func (.func 120) #[] #[pt b1 0,pt b2 0]/\Box g w b1 #[pt nb 0] 99/\Box g w b2 #[pt lb 0] 167/\CQ g w lb l/\l.src=to/\l.bn=bn
theorem KX.ch{v:Value}{q:Pend}(h:KX g w nb v q)(c:Cg B T g w g' w')(a:Tg.z∉T:=by simp):KX g' w' nb v q:=by
 cases q with
 | began b vs=>obtain⟨d,i,p,x,e,f,j,k,m⟩:=h;exact⟨d,i,p,x,e,f.ch c a,j.ch c a,k.ch c a,m.ch c a⟩
 | prom to b vs=>obtain⟨d,i,p,x,o,l,e,f,j,k,m,r,s⟩:=h;exact⟨d,i,p,x,o,l,e,f.ch c a,j.ch c a,k.ch c a,m.ch c a,r.ch c a,s⟩
 | voted to u=>obtain⟨d,i,o,l,e,f,j,k,m⟩:=h;exact⟨d,i,o,l,e,f.ch c a,j.ch c a,k.ch c a,m⟩
 | ew to b=>obtain⟨d,i,p,e,f,j,k⟩:=h;exact⟨d,i,p,e,f.ch c a,j.ch c a,k.ch c a⟩
 | prop u=>obtain⟨d,i,e,f,j⟩:=h;exact⟨d,i,e,f.ch c a,j.ch c a⟩
 | askNews to=>obtain⟨d,i,o,l,e,f,j,k,m⟩:=h;exact⟨d,i,o,l,e,f.ch c a,j.ch c a,k.ch c a,m⟩
 | start=>obtain⟨d,e,f⟩:=h;exact⟨d,e,f.ch c a⟩
 | tell to bn=>obtain⟨d,i,o,l,e,f,j,k,m⟩:=h;exact⟨d,i,o,l,e,f.ch c a,j.ch c a,k.ch c a,m⟩
def mkA(x:Cmd × Bal × Nat):MapEntry:={ key:=.agg (cmV x.1).toArray,val:=.agg #[iv x.2.1.r,iv x.2.1.n],born:=x.2.2 }
structure AskAt(g:Gh)(w:World)(τ:Tg)(b:Nat)(f:Cmd->Option Bal):Prop where
 t:g.t b=τ
 k:g.k b=0
 ex:∃ (es:List (Cmd × Bal × Nat)) (clock:Nat),w.heap[b]?=some (.map (es.map mkA).toArray clock)/\(∀ x∈es,x.2.2<clock)/\(es.map (·.2.2)).Nodup/\(es.map (·.1)).Nodup/\∀ c,f c=(es.find? λx=>decide (c=x.1)).map (·.2.1)
def Xh(g:Gh)(w:World)(i:Nat)(f:Cmd->Option Bal):Option Nat->Prop
 | some b=>AskAt g w (.n 5 i) b f
 | none=>f=λ_=>none
structure Pends(g:Gh)(w:World)(nb:Nat)(vs:List Value)(l:List Pend):Prop where
 len:vs.length=l.length
 at_:∀ (k:Nat) (v:Value) (q:Pend),vs[k]?=some v->l[k]?=some q->KX g w nb v q
structure NodeAt(g:Gh)(w:World)(i nb ob:Nat)(x:NX)(p:Nod):Prop where
 row:w.heap[nb]?=some (.cells (AF i ob p x) 123)
 tag:g.t nb=.n 0 i
 ry:g.k nb=0
 tape:FSl g w x.tape p.d
 ic:FSv g w x.ic p.vo.vs
 al:∀ j,j<5->FSv g w (x.hv j) (p.av.al j).vs
 br:∃ vs,OwnS g w (.n 1 i) true 1 1 x.synced vs/\Pends g w nb vs p.br
 fa:OwnS g w (.n 2 i) false 24 5 x.fa (cmL p.av.fa)
 ae:OwnS g w (.n 3 i) true 24 5 x.ae (cmL p.ae)
 au:OwnS g w (.n 4 i) false 24 5 x.au (cmL p.au)
 bw:Xh g w i p.bw x.bw
 rF:p.up=true->∃ b,x.bw=some b
structure Lets(g:Gh)(w:World)(bs:List Nat)(l:List Let):Prop where
 len:bs.length=l.length
 at_:∀ (k b:Nat) (m:Let),bs[k]?=some b->l[k]?=some m->CQ g w b m
structure OutAt(g:Gh)(w:World)(ob:Nat)(lt tl:S3)(ls:List Let)(ts:List Tol):Prop where
 row:w.heap[ob]?=some (.cells #[lt.v,tl.v] 96)
 tag:g.t ob=.n 50 0
 ry:g.k ob=0
 bm:∃ bs,OwnS g w (.n 51 0) false 167 1 lt (bs.map (pt · 0))/\Lets g w bs ls
 eb:OwnS g w (.n 52 0) false 48 5 tl (ts.flatMap Es)
theorem Pends.ch{a:List Value}{l:List Pend}(h:Pends g w nb a l)(c:Cg B T g w g' w')(e:Tg.z∉T:=by simp):Pends g' w' nb a l:=⟨h.len,λk v q b d=>(h.at_ k v q b d).ch c e⟩
theorem Lets.ch(h:Lets g w bs l)(c:Cg B T g w g' w')(d:Tg.z∉T:=by simp):Lets g' w' bs l:=⟨h.len,λk v q a b=>(h.at_ k v q a b).ch c d⟩
theorem Lets.snoc{m:Let}(h:Lets g w bs l)(f:CQ g w b m):Lets g w (bs++[b]) (l++[m]):=by
 refine⟨by simp[h.len],λk c q a d=>?_⟩;by_cases e:k<bs.length
 .rw[mt e]at a
  rw[mt (by rw[<- h.len];exact e)]at d
  exact h.at_ k c q a d
 .rw[my (by omega)]at a
  rw[my (by rw[<- h.len];omega),<- h.len]at d
  cases hx:k-bs.length with
  | zero=>rw[hx]at a d;simp at a d;subst a d;exact f
  | succ n=>rw[hx]at a;simp at a
theorem Cg.rc(c:Cg B T g w g' w'){b:Nat}{o:Obj}{r i:Nat}(h:w.heap[b]?=some o)(a:g.t b=.n r i)(d:Tg.n r i∉T):w'.heap[b]?=some o/\g'.t b=.n r i/\g'.k b=g.k b :=
 ⟨(c.same b (rl h) (by rw[a];exact d) (λh=>by rw[a]at h;cases h)).trans h,(c.tag (rl h) (by rw[a];intro h;cases h)).trans a,c.rV b (rl h) (by rw[a];exact d) (by rw[a];intro h;cases h)⟩
theorem AskAt.ch(h:AskAt g w (.n r i) b f)(c:Cg B T g w g' w')(hn:Tg.n r i∉T:=by simp):AskAt g' w' (.n r i) b f:=by
 obtain⟨e,j,d,k,m,o⟩:=h;have a:=c.rc m e hn;exact⟨a.2.1,a.2.2.trans j,d,k,a.1,o⟩
theorem Xh.ch{a:Option Nat}(h:Xh g w i f a)(c:Cg B T g w g' w')(hn:Tg.n 5 i∉T:=by simp):Xh g' w' i f a:=by
 cases a with
 | none=>exact h
 | some b=>exact AskAt.ch h c hn
theorem NodeAt.ch{x:NX}{p:Nod}(h:NodeAt g w i nb ob x p)(c:Cg B T g w g' w')(a:Tg.z∉T:=by simp)(hn:∀ r,r<6->Tg.n r i∉T:=by simp):NodeAt g' w' i nb ob x p:=by
 have b:=c.rc h.row h.tag (hn 0 (by omega));obtain⟨k,d,e⟩:=h.br;exact⟨b.1,b.2.1,b.2.2.trans h.ry,h.tape.ch c a,h.ic.ch c a,λj f=>(h.al j f).ch c a,⟨k,d.ch c (hn 1 (by omega)) (by simp),e.ch c a⟩,h.fa.ch c (hn 2 (by omega)) (by simp),h.ae.ch c (hn 3 (by omega)) (by simp),h.au.ch c (hn 4 (by omega)) (by simp),h.bw.ch c (hn 5 (by omega)),h.rF⟩
theorem OutAt.ch{lt d:S3}{b:List Let}{e:List Tol}(h:OutAt g w ob lt d b e)(c:Cg B T g w g' w')(k:Tg.z∉T:=by simp)(hn:∀ r,50<=r->Tg.n r 0∉T:=by simp):OutAt g' w' ob lt d b e:=by
 have a:=c.rc h.row h.tag (hn 50 (by omega));obtain⟨f,i,j⟩:=h.bm;exact⟨a.1,a.2.1,a.2.2.trans h.ry,⟨f,i.ch c (hn 51 (by omega)) (by simp),j.ch c k⟩,h.eb.ch c (hn 52 (by omega)) (by simp)⟩
end
end
section
def TN(i:Nat):List Tg:=[.n 0 i,.n 1 i,.n 2 i,.n 3 i,.n 4 i,.n 5 i,.n 50 0,.n 51 0,.n 52 0,.n 60 0]
theorem Bx(i:Nat):Tg.z∉TN i:=by simp[TN]
def NS(i nb ob:Nat)(g:Gh)(w:World)(p:Nod)(ls:List Let)(ts:List Tol):Prop:=∃ x lt tl,NodeAt g w i nb ob x p/\OutAt g w ob lt tl ls ts/\Ji g w
variable{B i nb ob:Nat}{T:List Tg}{e:TypeId}{g g':Gh}{l:List Pend}{ls:List Let}{p:Nod}{ts:List Tol}{w w':World}{x:S3}{τ:Tg}
theorem nsC{c:Nat}{x:NX}{lt b:S3}{L:List Sh}(d:NodeAt g w i nb ob x p)(e:OutAt g w ob lt b ls ts)(C:Cg B T g w g' w')(K:Kn c g' w' L)(a:Tg.z∉T:=by simp)(f:∀ r,r<6->Tg.n r i∉T:=by simp)(h:∀ r,50<=r->Tg.n r 0∉T:=by simp):NS i nb ob g' w' p ls ts:=⟨x,lt,b,d.ch C a f,e.ch C a h,K.new⟩
def NP(i nb ob:Nat)(g:Gh)(w:World)(v:Value)(p:Nod)(ls:List Let)(ts:List Tol):Ending->World->Prop:=λe w'=>∃ g',e=.returned v/\NS i nb ob g' w' p ls ts/\Cg w.heap.size (TN i) g w g' w'
theorem NS.new(h:NS i nb ob g w p ls ts):Ji g w:=let ⟨_,_,_,_,_,h⟩:=h;h
theorem NS.af(h:NS i nb ob g w p ls ts)(b:Bw w w'):NS i nb ob g w' p ls ts :=
 let ⟨x,lt,tl,h1,h2,h3⟩:=h
 have c:=Cg.ed (B:=0) (T:=[]) (g:=g) b
 ⟨x,lt,tl,h1.ch c,h2.ch c,λk a=>h3 k (mg b.size a)⟩
theorem NS.qM(h:NS i nb ob g w p ls ts)(c:Cg B [] g w g' w')(a:Ji g' w'):NS i nb ob g' w' p ls ts :=
 let ⟨x,lt,tl,h1,h2,_⟩:=h
 ⟨x,lt,tl,h1.ch c,h2.ch c,a⟩
theorem NodeAt.rD{b:Nat}{x:NX}(h:NodeAt g w i nb ob x p)(a:x.bw=some b):AskAt g w (.n 5 i) b p.bw:=by have:=h.bw;rw[a]at this;exact this
theorem Ci(h:∃ vs,OwnS g w (.n 1 i) true 1 1 x vs/\Pends g w nb vs l)(c:Cg B T g w g' w')(b:Tg.z∉T:=by simp)(a:Tg.n 1 i∉T:=by simp):∃ vs,OwnS g' w' (.n 1 i) true 1 1 x vs/\Pends g' w' nb vs l :=
 let ⟨vs,h1,h2⟩:=h
 ⟨vs,h1.ch c a (by simp),h2.ch c b⟩
theorem En{l:List Let}(h:∃ bs:List Nat,OwnS g w (.n 51 0) false 167 1 x (bs.map (pt · 0))/\Lets g w bs l)(c:Cg B T g w g' w')(b:Tg.z∉T:=by simp)(a:Tg.n 51 0∉T:=by simp):∃ bs:List Nat,OwnS g' w' (.n 51 0) false 167 1 x (bs.map (pt · 0))/\Lets g' w' bs l :=
 let ⟨bs,h1,h2⟩:=h
 ⟨bs,h1.ch c a (by simp),h2.ch c b⟩
theorem BA{a:Nat->S3}{f:Nat->Acc}(h:∀ j,j<5->FSv g w (a j) (f j).vs)(c:Cg B T g w g' w')(d:Tg.z∉T:=by simp):∀ j,j<5->FSv g' w' (a j) (f j).vs:=λj b=>(h j b).ch c d
theorem Pends.snoc{d:List Value}{v:Value}{q:Pend}(h:Pends g w nb d l)(f:KX g w nb v q):Pends g w nb (d++[v]) (l++[q]):=by
 refine⟨by simp[h.len],λk c m a b=>?_⟩;by_cases e:k<d.length
 .rw[mt e]at a
  rw[mt (by rw[<- h.len];exact e)]at b
  exact h.at_ k c m a b
 .rw[my (by omega)]at a
  rw[my (by rw[<- h.len];omega),<- h.len]at b
  cases hx:k-d.length with
  | zero=>rw[hx]at a b;simp at a b;subst a b;exact f
  | succ n=>rw[hx]at a;simp at a
theorem OwnS.num{a:Bool}{l:List Cmd}(h:OwnS g w τ a e 5 x (cmL l)):x.n=l.length:=by have:=h.len;rw[BJ]at this;omega
theorem OwnS.rc{l:List Cmd}(h:OwnS g w τ true e 5 x (cmL l)):Rc g w x l:=by
 have a:=h.num;rcases h.ex with⟨h1,h2,h3⟩|⟨b,cur,h1,h2,h3,h4,h5,h6,h7,h8⟩
 .exact⟨a,by omega,λ_=>h3,.inl (Y' (by omega))⟩
 .refine⟨a,h3,λh=>(by rw[h1]at h;cases h),.inr ⟨b,0,h1,rl h2,λj u c=>?_,.inr ?_⟩⟩
  .obtain⟨b',hb',_,hc⟩:=h.cell c;rw[h1]at hb'
   simp only[X',Addr.mk.injEq,and_true]at hb';subst hb';rw[mU];exact hc
  .rw[h8,BJ];simp;omega
end
section
variable{P:Program}{fn:Func}{R:Ending->World->Prop}{B:Nat}{T:List Tg}{g:Gh}{w:World}
section
def SG:List Kt->Bool|.c (.loop _)::_=>true|_=>false
def jO:List Kt->Code|.c (.loop b)::_=>b|_=>.skip
def isJ:List Kt->Bool|.j _::_=>true|_=>false
def jK:List Kt->Act->World->Prop|.j J::_=>J|_=>λ_ _=>False
def ei(s:Xs)(n:Nat)(J:Act->World->Prop)(e:List (Nat × Value))(z:Nat->Value)(L:List Sh):Xs:=⟨.c (jO s.K)::.j J::s.K.tail,⟨n,e,z⟩,L⟩
variable{s:Xs}
theorem Cc(n:Nat)(d:List (Nat × Value))(m:List Bool)(i:List Sh)(a:Nat->Gh->World->List (Nat × Value)->List Sh->Prop)(q:SG s.K=true)(r:s.f.n=n)(D:d.map (λp=>lk s.f.z s.f.e p.1)=d.map (·.2))(A:BM (AI m s.L)=i)(k:Nat)(u:Kn B g w s.L->a k g w d i)(round:∀ k g w e z L,a k g w e L->∀ J:Act->World->Prop,(∀ k' g' w' e' z' L',k'<k->a k' g' w' e' L'->Kn B g' w' L'->J (⟨n,e',z'⟩:Fm).act w')->GG P fn R B T (ei s n J e z L) g w):GG P fn R B T s g w:=by
 refine Af λj=>gFm d D λz=>?_;obtain⟨K,f,L⟩:=s;simp only at r;subst r;have o:BM (AI m L)=i:=A;have C:GG P fn R B T ⟨K,⟨f.n,d,z⟩,BM (AI m L)⟩ g w->GG P fn R B T ⟨K,⟨f.n,d,z⟩,L⟩ g w:=λh=>⟨λj=>h.ex (j.sub (DD m L)).sq⟩;refine C ?_;rw[o];cases K with
 | nil=>cases q
 | cons t K =>
  cases t with
  | c x =>
   cases x with
   | loop b=>exact jA a (λk g w e z L v J y=>round k g w e z L v J y) (u j)
   | _=>cases q
  | _=>cases q
theorem EO(J:Act->World->Prop)(n:Nat)(e:List (Nat × Value))(m:List Bool)(b:List Sh)(i:isJ s.K=true)(c:jK s.K=J)(o:s.f.n=n)(r:e.map (λp=>lk s.f.z s.f.e p.1)=e.map (·.2))(k:BM (AI m s.L)=b)(h:∀ z,Kn B g w s.L->Kn B g w b->J (⟨n,e,z⟩:Fm).act w):GG P fn R B T s g w:=by
 refine Af λa=>gFm e r λz=>⟨λq=>?_⟩;obtain⟨K,f,L⟩:=s;simp only at o c k i a;subst o;have d:Kn B g w b:=by rw[<- k];exact(q.sub (DD m L)).sq
 cases K with
 | nil=>cases i
 | cons t K =>
  cases t with
  | j J'=>simp only[jK]at c;rw[c];exact h z a d
  | _=>cases i
def JN(s:Xs)(i:Nat):Xs:=match s.K with|.x ops (u+1) Ld e L0::K=>⟨.y ops u Ld e L0 i::K,s.f,s.L⟩|_=>s
def eL(s:Xs)(i j:Nat):Bool:=match s.K with|.x ops (_+1) Ld _ _::_=>(match Region.ready .any ops Ld with|[k,l]=>Nat.beq k i&&Nat.beq l j|_=>false)|_=>false
theorem Du(i j:Nat)(a:eL s i j=true)(h:GG P fn R B T (JN s i) g w)(m:GG P fn R B T (JN s j) g w):GG P fn R B T s g w:=by
 refine⟨λd=>?_⟩;obtain⟨K,f,L⟩:=s;have b:=h.ex;have c:=m.ex;unfold JN at b c;unfold eL at a;cases K with
 | nil=>cases a
 | cons t K =>
  cases t with
  | x ops u Ld e L0 =>
   cases u with
   | zero=>cases a
   | succ u =>
    simp only at b c a;have n:Region.ready .any ops Ld=[i,j]:=by
     split at a
     .rename_i k l hk
      simp only[mG]at a;rw[hk,mH a.1,mH a.2]
     .cases a
    exact me n (b d) (c d)
  | _=>cases a
def XM(s:Xs)(J:Act->World->Prop):Xs:=match s.K with|t::K=>⟨t::.j J::K,s.f,s.L⟩|[]=>s
theorem Ey(Q:Exit->Act->World->Prop):Exit.then (Q .normal) Q=Q:=by
 funext e a w
 cases e<;>rfl
theorem Ct(n:Nat)(d:Gh->World->List (Nat × Value)->List Sh->Prop)(u:s.K.isEmpty=false)(k:∀ J:Act->World->Prop,(∀ g' w' e z L,d g' w' e L->Kn B g' w' L->J (⟨n,e,z⟩:Fm).act w')->GG P fn R B T (XM s J) g w)(p:∀ g' w' e z L,d g' w' e L->GG P fn R B T ⟨s.K.tail,⟨n,e,z⟩,L⟩ g' w'):GG P fn R B T s g w:=by
 obtain⟨K,f,L⟩:=s;cases K with
 | nil=>cases u
 | cons t K =>
  have q:=k (Kq P (bodyPost P fn R) K .normal) (λg' w' e z L r h=>(p g' w' e z L r).ex h);refine⟨λh=>?_⟩;have a:=q.ex h;unfold XM at a;simp only at a;cases t with
  | c x=>simp only[Kq,Ey]at a ⊢;exact a
  | b id=>simp only[Kq,Ey]at a ⊢;exact a
  | o ops is=>simp only[Kq,Ey]at a ⊢;exact a
  | x ops m Ld e L0=>simp only[Kq,Ey]at a ⊢;exact a
  | y ops m Ld e L0 i=>simp only[Kq,Ey]at a ⊢;exact a
  | j J=>simp only[Kq,Ey]at a ⊢;exact a
def zL(L:List Sh)(k:Nat):List Sh:=L.set k { L.getD k default with t:=.z,w:=false }
theorem jD(k:Nat)(b:Nat)(A:(BM s.L)[k]?.map (λx=>(x.g,x.t))=some (b,.l))(h:∀ g',Cg B [] g w g' w->GG P fn R B T ⟨s.K,s.f,zL (BM s.L) k⟩ g' w):GG P fn R B T s g w:=by
 refine⟨λF=>?_⟩;have q:=F.sq;generalize O:BM s.L=L at *;have V:∀ x∈L,x.w=false:=λx e=>by rw[<- O]at e;obtain⟨y,_,rfl⟩:=mB.1 e;rfl
 have m:k<L.length:=by
  cases e:L[k]? with
  | none=>rw[e]at A;cases A
  | some x=>exact(V'.1 e).1
 have N:L.getD k default=L[k]:=by rw[mO,H' m];rfl
 rw[H' m]at A
 simp only[m5,X',m6]at A;obtain⟨r,I⟩:=A;have d:=q.row _ (mP m);have G:∀ n (D:n<L.length),n≠k->L[n].g≠b:=λn D o a=>by
  have:=q.two D m o (by rw[r];exact a);rw[I]at this
  cases this.2.1
 let g':Gh:=⟨λc=>if c=b then .z else g.t c,g.k⟩
 have H:g.t b=.l:=by rw[<- r,d.2.1];exact I
 have E:B<=b:=by rw[<- r];exact d.2.2.1 I
 refine(h g' ⟨rfl,rfl,rfl,A' _,λc M=>?_,λ_ _=>A' _,λ_ _ _ _=>rfl,λ_ _ _ _=>rfl,λ_ _ _ _=>rfl⟩).ex ⟨λx e=>?_,?_,λc M=>?_,q.base⟩
 .show(if c=b then _ else _)=_\/(_/\_/\(if c=b then _ else _)=_);by_cases a:c=b
  .subst a;right;exact⟨H,E,if_pos rfl⟩
  .left;exact if_neg a
 .unfold zL at e;simp only at e;rw[N]at e
  obtain⟨n,D,rfl⟩:=oE e;have C:n<L.length:=by simpa using D
  rw[nY];split
  .refine⟨d.1,?_,λh=>(by cases h),λh=>absurd rfl h⟩;show(if L[k].g=b then _ else _)=_;rw[if_pos r]
  .rename_i o
   have p:=q.row _ (mP C);refine⟨p.1,?_,p.2.2⟩;show(if L[n].g=b then _ else _)=_;rw[if_neg (G n C (λh=>o h.symm))];exact p.2.1
 .show(zL L k).Pairwise _;unfold zL;rw[N,m8];intro i j Q U S a;have u:i<L.length:=by simpa using Q
  have v:j<L.length:=by simpa using U
  rw[nY,nY]at a ⊢
  by_cases p:k=i
  .rw[if_pos p]at a ⊢
   rw[if_neg (by omega)]at a ⊢
   exact absurd a.symm (by show L[j].g≠L[k].g;rw[r];exact G j v (by omega))
  .rw[if_neg p]at a ⊢
   by_cases J:k=j
   .rw[if_pos J]at a ⊢
    exact absurd a (by show L[i].g≠L[k].g;rw[r];exact G i u (by omega))
   .rw[if_neg J]at a ⊢
    exact q.two u v (by omega) a
 .have:=q.new c M;show(if c=b then _ else _)=_/\_;refine⟨?_,this.2⟩;split
  .rfl
  .exact this.1
end
end
def gS:Gh:=⟨λ_=>.z,λ_=>0⟩
section
variable{P:Program}{fn:Func}{R:Ending->World->Prop}{B:Nat}{T:List Tg}{g:Gh}{w:World}
def kS(s:Xs)(i j l:Nat):Bool:=match s.K with|.x ops (_+1) Ld _ _::_=>(match Region.ready .any ops Ld with|[a,b,c]=>Nat.beq a i&&(Nat.beq b j&&Nat.beq c l)|_=>false)|_=>false
theorem Yr{s:Xs}(i j l:Nat)(d:kS s i j l=true)(r:GG P fn R B T (JN s i) g w)(v:GG P fn R B T (JN s j) g w)(y:GG P fn R B T (JN s l) g w):GG P fn R B T s g w:=by
 refine⟨λn=>?_⟩;obtain⟨K,f,L⟩:=s;have h:=r.ex;have k:=v.ex;have m:=y.ex;unfold JN at h k m;unfold kS at d;cases K with
 | nil=>cases d
 | cons t K =>
  cases t with
  | x ops u Ld e L0 =>
   cases u with
   | zero=>cases d
   | succ u =>
    simp only at h k m d;have o:Region.ready .any ops Ld=[i,j,l]:=by
     split at d
     .rename_i a b c hk
      simp only[mG]at d;rw[hk,mH d.1,mH d.2.1,mH d.2.2]
     .cases d
    refine⟨λp=>absurd (o▸p) (by simp),o▸(λq z=>?_)⟩;rcases(show q=i\/q=j\/q=l by simpa using z)with rfl|rfl|rfl
    .exact h n
    .exact k n
    .exact m n
  | _=>cases d
def UM:List Sh->List Sh
 | [a,b]=>[b,a]
 | a::l=>a::UM l
 | []=>[]
theorem Ij:∀ L:List Sh,(UM L).Perm L
 | []=>.refl _
 | [a]=>by simp[UM]
 | [a,b]=>.swap _ _ _
 | a::b::c::l=>(Ij (b::c::l)).cons a
theorem NT{s:Xs}(h:GG P fn R B T ⟨s.K,s.f,UM s.L⟩ g w):GG P fn R B T s g w:=by
 refine⟨λa=>h.ex ⟨λx c=>a.row x ((Ij s.L).mem_iff.1 c),?_,a.new,a.base⟩⟩;refine(Ij s.L).symm.pairwise a.rH ?_;intro x y b e;have:=b e.symm;exact⟨this.2,this.1⟩
theorem lG{s:Xs}{r i:Nat}{e:TypeId}{p:Nat}{x:S3}{m:List Value}(c:OwnS g w (.n r i) false e p x m)(q:s.L.all (λy=>y.t.ne (.n r i))=true)(h:∀ g',Cg B [.n r i] g w g' w->OwnS g' w (.n r i) true e p x m->GG P fn R B T s g' w):GG P fn R B T s g w:=by
 refine⟨λa=>?_⟩;rcases c.ex with h1|⟨b,cur,h1,h2,h3,h4,h5,h6,h7,h8⟩
 .exact(h g (Cg.refl _ _ _ _) ⟨c.len,.inl h1⟩).ex a
 .have h80:g.k b=0:=h8;have u:b<w.heap.size:=(U'.1 h2).1;refine(h (j9 g b m.length) ⟨rfl,rfl,rfl,A' _,λ_ _=>.inl rfl,λd f=>?_,λd f j _=>if_neg (λe=>j (by rw[e,h7];exact D'.2 rfl)),λ_ _ _ _=>rfl,λ_ _ _ _=>rfl⟩ ⟨c.len,.inr ⟨b,cur,h1,h2,h3,h4,h5,h6,h7,if_pos rfl⟩⟩).ex ⟨λy o=>?_,a.rH,λd f=>?_,a.base⟩
  .show g.k d<=(if d=b then _ else g.k d);split
   .rename_i e;rw[e,h80];exact mL _
   .exact A' _
  .obtain⟨k1,k2,k3,k4⟩:=a.row y o;refine⟨k1,k2,k3,λv=>?_⟩;show(if y.g=b then _ else g.k y.g)=0;rw[if_neg (λe=>Tg.rX (nD.1 q y o) (by rw[<- k2,e,h7]))];exact k4 v
  .have:=a.new d f;refine⟨this.1,?_⟩;show(if d=b then _ else g.k d)=0;rw[if_neg (by omega)];exact this.2
end
theorem X1{P:Program}{s:Xs}{a:Nat}{S:Sem Value}{v:Value}{W:World}(h:D5 s a=some (S>>=λv=>pure (.value v)))(b:S.run P W=.ok v W):Df P s a W=some (.ok (.value v) W):=by
 unfold Df;unfold D5 at h;cases hx:opN s a with
 | none=>rw[hx]at h;cases h
 | some x =>
  rw[hx]at h
  simp only[m5,X']at h ⊢;rw[h,Sem.run_bind,b,Result.andThen_ok];rfl
section
variable{P:Program}{W:World}
section
theorem km(d:Array TypeId)(t:TypeId)(a b:Int):(Builtin.max_ d t #[iv a,iv b]).run P W=.ok (iv (max a b)) W:=by
 rw[run_max_int2]
 congr 2
 rw[Int.max_def];by_cases h:a<b
 .rw[if_pos h,if_pos (by omega)]
 .rw[if_neg h];by_cases c:a<=b
  .rw[if_pos c];omega
  .rw[if_neg c]
theorem iF(c:Array TypeId)(t:TypeId)(a b:Int):(Builtin.min_ c t #[iv a,iv b]).run P W=.ok (iv (min a b)) W:=by
 rw[run_min_int2]
 congr 2
 rw[Int.min_def];by_cases h:b<a
 .rw[if_pos h,if_neg (by omega)]
 .rw[if_neg h,if_pos (by omega)]
variable{t:TypeId}{x y:Operand}
theorem Mb(a b:Int)(d:P.underlying t=some (.int .i64))(h:-9223372036854775808<=a+b/\a+b<=9223372036854775807):(do Go.eqGuard .add t x y (iv a) (iv b);Go.binOp .add t (iv a) (iv b):Sem Value).run P W=.ok (iv (a+b)) W:=by
 have c:IntKind.i64.wrap (a+b)=a+b:=by rw[IntKind.wrap_i64];omega
 simp[Go.eqGuard,Go.binOp,go_sem,c]
theorem Bj(k:Nat)(a:Int)(b:P.underlying 3=some (.int .i64))(h:-9223372036854775808<=a+1/\a+1<=9223372036854775807):(do Go.eqGuard .add 3 (.tmp k) (.const (iv 1)) (iv a) (iv 1);Go.binOp .add 3 (iv a) (iv 1):Sem Value).run P W=.ok (iv (a+1)) W:=Mb a 1 b h
theorem ZF(a b:Int)(d:P.underlying t=some (.int .i64))(h:-9223372036854775808<=a-b/\a-b<=9223372036854775807):(do Go.eqGuard .sub t x y (iv a) (iv b);Go.binOp .sub t (iv a) (iv b):Sem Value).run P W=.ok (iv (a-b)) W:=by
 have c:IntKind.i64.wrap (a-b)=a-b:=by rw[IntKind.wrap_i64];omega
 simp[Go.eqGuard,Go.binOp,go_sem,c]
end
end
section
theorem Uc(a b:Bal):decide (a.r=b.r/\a.n=b.n)=decide (a=b):=nf.2 (Bal.eq_iff a b)
variable{W:World}{x y:Operand}
theorem lK(a b:Bal):(do Go.eqGuard .eql 104 x y (.agg #[iv a.r,iv a.n]) (.agg #[iv b.r,iv b.n]);Go.binOp .eql 104 (.agg #[iv a.r,iv a.n]) (.agg #[iv b.r,iv b.n]):Sem Value).run prog W=.ok (.bool (decide (a=b))) W:=by
 have c:=cE a.r a.n b.r b.n W;rw[Uc]at c
 have d:(Go.eqGuard .eql 104 x y (.agg #[iv a.r,iv a.n]) (.agg #[iv b.r,iv b.n])).run prog W=.ok () W:=by kernel_rfl
 rw[Sem.run_bind,d,Result.andThen_ok];exact c
theorem il(a b c d:Int):∀ w,(binOp .neq 104 (.agg #[.int .i64 a,.int .i64 b]) (.agg #[.int .i64 c,.int .i64 d])).run prog w=.ok (.bool (!decide (a=c/\b=d))) w:=by
 intro w;rw[run_neq_struct,run_equalIn_agg w 9999 _ _ _ (by kernel_rfl) (by kernel_rfl)];unfold Program.fieldsOf;rw[underlying104];have e:=underlying3;simp[Op.eqFields,go_sem,e]
 repeat' split
 all_goals simp_all
theorem ko(a b:Bal):(do Go.eqGuard .neq 104 x y (.agg #[iv a.r,iv a.n]) (.agg #[iv b.r,iv b.n]);Go.binOp .neq 104 (.agg #[iv a.r,iv a.n]) (.agg #[iv b.r,iv b.n]):Sem Value).run prog W=.ok (.bool (!decide (a=b))) W:=by
 have c:=il a.r a.n b.r b.n W;rw[Uc]at c
 have d:(Go.eqGuard .neq 104 x y (.agg #[iv a.r,iv a.n]) (.agg #[iv b.r,iv b.n])).run prog W=.ok () W:=by kernel_rfl
 rw[Sem.run_bind,d,Result.andThen_ok];exact c
theorem Ug(a b:Cmd):decide (a.k=b.k/\a.c=b.c/\a.s=b.s/\a.n=b.n/\a.v=b.v)=decide (a=b):=nf.2 (Cmd.eq_iff a b)
theorem lL(a b:Cmd):(do Go.eqGuard .eql 24 x y (.agg #[iv a.k,iv a.c,iv a.s,iv a.n,iv a.v]) (.agg #[iv b.k,iv b.c,iv b.s,iv b.n,iv b.v]);Go.binOp .eql 24 (.agg #[iv a.k,iv a.c,iv a.s,iv a.n,iv a.v]) (.agg #[iv b.k,iv b.c,iv b.s,iv b.n,iv b.v]):Sem Value).run prog W=.ok (.bool (decide (a=b))) W:=by
 have d:=Uo a.k a.c a.s a.n a.v b.k b.c b.s b.n b.v W;rw[Ug]at d
 have e:(Go.eqGuard .eql 24 x y (.agg #[iv a.k,iv a.c,iv a.s,iv a.n,iv a.v]) (.agg #[iv b.k,iv b.c,iv b.s,iv b.n,iv b.v])).run prog W=.ok () W:=by kernel_rfl
 rw[Sem.run_bind,e,Result.andThen_ok];exact d
theorem IM(a b:Bal)(h:a≠b):(do Go.eqGuard .neq 104 x y (.agg #[iv a.r,iv a.n]) (.agg #[iv b.r,iv b.n]);Go.binOp .neq 104 (.agg #[iv a.r,iv a.n]) (.agg #[iv b.r,iv b.n]):Sem Value).run prog W=.ok (.bool true) W:=by rw[ko,G' h];rfl
theorem IL(a b:Bal)(h:a=b):(do Go.eqGuard .neq 104 x y (.agg #[iv a.r,iv a.n]) (.agg #[iv b.r,iv b.n]);Go.binOp .neq 104 (.agg #[iv a.r,iv a.n]) (.agg #[iv b.r,iv b.n]):Sem Value).run prog W=.ok (.bool false) W:=by rw[ko,P' h];rfl
theorem qk{j:Nat}(h:j<5):j=0\/j=1\/j=2\/j=3\/j=4:=by omega
theorem GF:∀ ts:List Tol,(ts.flatMap Es).length=ts.length*5
 | []=>rfl
 | t::r=>by rw[om,E',GF r,mJ];show 5+_=_;omega
end
section
variable{P:Program}{fn:Func}{R:Ending->World->Prop}{B:Nat}{T:List Tg}{g:Gh}{w:World}
section
variable{B' i nb ob:Nat}{L:List Sh}{T':List Tg}{g0:Gh}{ls:List Let}{lt tl:S3}{p p0:Nod}{s:Xs}{ts:List Tol}{v:Value}{w0:World}{x x0:NX}
theorem qR(a:List Tg)(m:Nat)(h:List Nat)(c:∀ gs g' w',Cg B a g w g' w'->GG P fn R B T (rn0 P a gs m s h).s g' w')(b:∀ gs,(rn0 P a gs m s h).o.map Ob.l'=(rn0 P a gs m s h).o.map Ob.r':=by intro _;kernel_rfl):GG P fn R B T s g w:=cO a m h b c
theorem qV(i:Nat)(v:Value){S:Sem Value}(c:S.run P w=.ok v w)(b:GG P fn R B T (nxt s i v s.L).s g w)(d:D5 s i=some (S>>=λv=>pure (.value v)):=by kernel_rfl)(a:(nxt s i undef s.L).o.map Ob.l'=(nxt s i undef s.L).o.map Ob.r':=by kernel_rfl):GG P fn R B T s g w:=cP i v (λ_=>X1 d c) a b
theorem qT(i:Nat)(v:Value){S:Sem Value}(c:∀ W,S.run P W=.ok v W)(b:GG P fn R B T (tkN s i v false).s g w)(d:D5 s i=some (S>>=λv=>pure (.value v)):=by kernel_rfl)(a:(tkN s i undef false).o.map Ob.l'=(tkN s i undef false).o.map Ob.r':=by kernel_rfl):GG P fn R B T s g w:=Qw i v false (λW _=>X1 d (c W)) a b
theorem qU(i:Nat)(v:Value){S:Sem Value}(c:∀ W,(true=true->AZ (ZP s) W)->S.run P W=.ok v W)(b:GG P fn R B T (tkN s i v true).s g w)(d:D5 s i=some (S>>=λv=>pure (.value v)):=by kernel_rfl)(a:(tkN s i undef true).o.map Ob.l'=(tkN s i undef true).o.map Ob.r':=by kernel_rfl):GG P fn R B T s g w:=Qw i v true (λW h=>X1 d (c W h)) a b
theorem qI(b t:Bool)(a:b=t)(h:GG P fn R B T (Ln s t) g w)(c:Qe s=.bool b:=by kernel_rfl):GG P fn R B T s g w:=gIf b t a c h
theorem qC(i:Nat){f:FuncId}{a:Array Value}{C:Ending->World->Prop}(c:Calls P f a w C)(h:∀ e w',C e w'->∃ v,e=.returned v/\Bw w w'/\GG P fn R B T (nxt s i v s.L).s g w')(j:∀ W,Df P s i W=some (.ok (.enter f a) W):=by intro _;kernel_rfl)(d:Kz s i=true:=by kernel_rfl)(b:(nxt s i undef s.L).o.map Ob.l'=(nxt s i undef s.L).o.map Ob.r':=by kernel_rfl):GG P fn R B T s g w:=gM i f a j d b c h
theorem qG(i:Nat)(a:List Tg)(m:List Bool){f:FuncId}{c:Array Value}{C:Ending->World->Prop}(j:Calls P f c w C)(q:∀ e w',C e w'->∃ v g',e=.returned v/\Cg w.heap.size a g w g' w'/\(∀ b,w'.heap.size<=b->g'.t b=.z/\g'.k b=0)/\GG P fn R B T (nxt s i v (AI m s.L)).s g' w')(r:∀ W,Df P s i W=some (.ok (.enter f c) W):=by intro _;kernel_rfl)(p:Kz s i=true:=by kernel_rfl)(d:(nxt s i undef (AI m s.L)).o.map Ob.l'=(nxt s i undef (AI m s.L)).o.map Ob.r':=by kernel_rfl)(h:(AI m s.L).all (λx=>a.all λt=>x.t.ne t)=true:=by kernel_rfl):GG P fn R B T s g w:=S1 i f c a m r p d h j q
theorem qE(v:Value)(h:Kn B g w s.L->R (.returned v) w)(a:Kn B g w s.L->(results fn s.f.act.tmps).run P w=.ok v w:=by intro _;kernel_rfl)(b:MZ s.K=true:=by kernel_rfl):GG P fn R B T s g w:=VA v b a h
theorem qB{J:Act->World->Prop}{n:Nat}{e:List (Nat × Value)}(m:List Bool){a:List Sh}(h:∀ z,Kn B g w s.L->Kn B g w a->J (⟨n,e,z⟩:Fm).act w)(i:isJ s.K=true:=by kernel_rfl)(b:jK s.K=J:=by kernel_rfl)(j:s.f.n=n:=by kernel_rfl)(d:e.map (λp=>lk s.f.z s.f.e p.1)=e.map (·.2):=by kernel_rfl)(c:BM (AI m s.L)=a:=by kernel_rfl):GG P fn R B T s g w:=EO J n e m a i b j d c h
theorem Kn.sm(h:Kn B g w L){i b:Nat}{d:Array Value}(a:(L[i]?).map (λx=>(x.g,CY x.o,EC x.o))=some (b,d,true)):∃ e,w.heap[b]?=some (.cells d e (0,0)):=by
 cases hi:L[i]? with
 | none=>rw[hi]at a;cases a
 | some x =>
  rw[hi]at a
  have f:=(h.row x (mD hi)).1;obtain⟨j,k,m,p⟩:=x;simp only[m5,X',m6]at a f;obtain⟨rfl,rfl,c⟩:=a;rw[f];unfold EC at c;split at c
  .exact⟨_,rfl⟩
  .cases c
theorem If{a:TypeId}(h:GA P a=true):∃ d,P.underlying a=some d/\d.isRow=true:=by
 unfold GA at h;split at h
 .rename_i d hd
  exact⟨d,hd,h⟩
 .cases h
theorem qE1(p:Tmp)(c:TypeId)(i b:Nat)(a:Array Value)(h:Kn B g w s.L->R (.returned (.agg a)) w)(t:(s.L[i]?).map (λx=>(x.g,CY x.o,EC x.o))=some (b,a,true):=by kernel_rfl)(j:fn.results=#[.cell p c]:=by kernel_rfl)(m:s.f.act.tmps.getD p undef=pt b 0:=by kernel_rfl)(r:GA P c=true:=by kernel_rfl)(k:(P.info? c).map (·.size)=some a.size:=by kernel_rfl)(q:MZ s.K=true:=by kernel_rfl):GG P fn R B T s g w :=
 VA _ q (λK=>let ⟨e,he⟩:=K.sm t;let ⟨d,h1,h2⟩:=If r;aI j _ _ b e a (0,0) d m he h1 (by cases d<;>first|rfl|cases h2) k) h
theorem qE2(p u:Tmp)(c:TypeId)(i b:Nat)(a:Array Value)(v:Value)(h:Kn B g w s.L->R (.returned (.tuple #[.agg a,v])) w)(y:(s.L[i]?).map (λx=>(x.g,CY x.o,EC x.o))=some (b,a,true):=by kernel_rfl)(j:fn.results=#[.cell p c,.tmp u]:=by kernel_rfl)(m:s.f.act.tmps.getD p undef=pt b 0:=by kernel_rfl)(t:s.f.act.tmps.getD u undef=v:=by kernel_rfl)(r:GA P c=true:=by kernel_rfl)(k:(P.info? c).map (·.size)=some a.size:=by kernel_rfl)(q:MZ s.K=true:=by kernel_rfl):GG P fn R B T s g w :=
 VA _ q (λK=>let ⟨e,he⟩:=K.sm y;let ⟨d,h1,h2⟩:=If r;by rw[<- t];exact UN j _ _ b e a (0,0) d m he h1 (by cases d<;>first|rfl|cases h2) k) h
theorem qE3(p u k:Tmp)(j:TypeId)(i b:Nat)(a:Array Value)(v m:Value)(h:Kn B g w s.L->R (.returned (.tuple #[.agg a,v,m])) w)(D:(s.L[i]?).map (λx=>(x.g,CY x.o,EC x.o))=some (b,a,true):=by kernel_rfl)(q:fn.results=#[.cell p j,.tmp u,.tmp k]:=by kernel_rfl)(t:s.f.act.tmps.getD p undef=pt b 0:=by kernel_rfl)(C:s.f.act.tmps.getD u undef=v:=by kernel_rfl)(c:s.f.act.tmps.getD k undef=m:=by kernel_rfl)(A:GA P j=true:=by kernel_rfl)(r:(P.info? j).map (·.size)=some a.size:=by kernel_rfl)(y:MZ s.K=true:=by kernel_rfl):GG P fn R B T s g w :=
 VA _ y (λK=>let ⟨e,he⟩:=K.sm D;let ⟨d,h1,h2⟩:=If A;by rw[<- C,<- c];exact jX q _ _ b e a (0,0) d t he h1 (by cases d<;>first|rfl|cases h2) r) h
theorem qE4(p y:Tmp)(v c:TypeId)(i b j m:Nat)(k a:Array Value)(h:Kn B g w s.L->R (.returned (.tuple #[.agg k,.agg a])) w)(G:(s.L[i]?).map (λx=>(x.g,CY x.o,EC x.o))=some (b,k,true):=by kernel_rfl)(u:(s.L[j]?).map (λx=>(x.g,CY x.o,EC x.o))=some (m,a,true):=by kernel_rfl)(A:fn.results=#[.cell p v,.cell y c]:=by kernel_rfl)(D:s.f.act.tmps.getD p undef=pt b 0:=by kernel_rfl)(r:s.f.act.tmps.getD y undef=pt m 0:=by kernel_rfl)(F:GA P v=true:=by kernel_rfl)(t:GA P c=true:=by kernel_rfl)(C:(P.info? v).map (·.size)=some k.size:=by kernel_rfl)(q:(P.info? c).map (·.size)=some a.size:=by kernel_rfl)(E:MZ s.K=true:=by kernel_rfl):GG P fn R B T s g w :=
 VA _ E (λK=>let ⟨e,he⟩:=K.sm G;let ⟨e',he'⟩:=K.sm u;let ⟨d,h1,h2⟩:=If F;let ⟨d',h3,h4⟩:=If t;j1 A _ _ b m e e' k a (0,0) (0,0) d d' D he h1 (by cases d<;>first|rfl|cases h2) C r he' h3 (by cases d'<;>first|rfl|cases h4) q) h
theorem qE5(p C u:Tmp)(A c:TypeId)(i b j m:Nat)(k a:Array Value)(v:Value)(h:Kn B g w s.L->R (.returned (.tuple #[.agg k,.agg a,v])) w)(J:(s.L[i]?).map (λx=>(x.g,CY x.o,EC x.o))=some (b,k,true):=by kernel_rfl)(y:(s.L[j]?).map (λx=>(x.g,CY x.o,EC x.o))=some (m,a,true):=by kernel_rfl)(D:fn.results=#[.cell p A,.cell C c,.tmp u]:=by kernel_rfl)(F:s.f.act.tmps.getD p undef=pt b 0:=by kernel_rfl)(r:s.f.act.tmps.getD C undef=pt m 0:=by kernel_rfl)(I:s.f.act.tmps.getD u undef=v:=by kernel_rfl)(H:GA P A=true:=by kernel_rfl)(t:GA P c=true:=by kernel_rfl)(E:(P.info? A).map (·.size)=some k.size:=by kernel_rfl)(q:(P.info? c).map (·.size)=some a.size:=by kernel_rfl)(G:MZ s.K=true:=by kernel_rfl):GG P fn R B T s g w :=
 VA _ G (λK=>let ⟨e,he⟩:=K.sm J;let ⟨e',he'⟩:=K.sm y;let ⟨d,h1,h2⟩:=If H;let ⟨d',h3,h4⟩:=If t;by rw[<- I];exact j2 D _ _ b m e e' k a (0,0) (0,0) d d' F he h1 (by cases d<;>first|rfl|cases h2) E r he' h3 (by cases d'<;>first|rfl|cases h4) q) h
theorem qN(h:NodeAt g w i nb ob x p)(b:GG P fn R B T ⟨s.K,s.f,BM s.L++[⟨nb,.cells (AF i ob p x) 123,.n 0 i,false⟩]⟩ g w)(a:s.L.all (λy=>(Tg.n 0 i).ne y.t)=true:=by kernel_rfl):GG P fn R B T s g w:=I2 nb _ 0 i h.row h.tag h.ry a b
theorem qO(h:OutAt g w ob lt tl ls ts)(b:GG P fn R B T ⟨s.K,s.f,BM s.L++[⟨ob,.cells #[lt.v,tl.v] 96,.n 50 0,false⟩]⟩ g w)(a:s.L.all (λy=>(Tg.n 50 0).ne y.t)=true:=by kernel_rfl):GG P fn R B T s g w:=I2 ob _ 50 0 h.row h.tag h.ry a b
theorem qS0(n:Nat)(m:List Bool){f:FuncId}{j:Array Value}{i nb a:Nat}{v:Value}{p:Nod}{k:List Let}{q:List Tol}(u:Calls P f j w (NP i nb a g w v p k q))(C:∀ g' w' x lt tl,NodeAt g' w' i nb a x p->OutAt g' w' a lt tl k q->Cg B (TN i) g w g' w'->GG P fn R B T ⟨(nxt s n v (AI m s.L)).s.K,(nxt s n v (AI m s.L)).s.f,BM (BM (nxt s n v (AI m s.L)).s.L++[⟨nb,.cells (AF i a p x) 123,.n 0 i,false⟩])++[⟨a,.cells #[lt.v,tl.v] 96,.n 50 0,false⟩]⟩ g' w')(D:∀ W,Df P s n W=some (.ok (.enter f j) W):=by intro _;kernel_rfl)(A:Kz s n=true:=by kernel_rfl)(h:(nxt s n undef (AI m s.L)).o.map Ob.l'=(nxt s n undef (AI m s.L)).o.map Ob.r':=by kernel_rfl)(r:(AI m s.L).all (λx=>(TN i).all λt=>x.t.ne t)=true:=by kernel_rfl)(b:(nxt s n v (AI m s.L)).s.L.all (λy=>(Tg.n 0 i).ne y.t)=true:=by kernel_rfl)(d:∀ x:NX,(BM (nxt s n v (AI m s.L)).s.L++[(⟨nb,.cells (AF i a p x) 123,.n 0 i,false⟩:Sh)]).all (λy=>(Tg.n 50 0).ne y.t)=true:=by intro _;kernel_rfl):GG P fn R B T s g w :=
 qG n (TN i) m u (λ_ w' ⟨g',e,M,c⟩=>⟨v,g',e,c,M.new,let ⟨x,lt,tl,hN,hO,_⟩:=M;qN hN (qO hO (C g' w' x lt tl hN hO c.ret) (d x)) b⟩) D A h r
theorem qS(n:Nat)(m:List Bool){f:FuncId}{D:Array Value}{i nb a H:Nat}{d:List Tg}{e:Gh}{A:World}{Y:NX}{q u:S3}{v:Value}{F p:Nod}{b E:List Let}{c G:List Tol}(I:NodeAt e A i nb a Y F)(J:OutAt e A a q u b c)(C:Cg H d e A g w)(N:NS i nb a g w F b c->Calls P f D w (NP i nb a g w v p E G))(Q:∀ g' w' x lt tl,NodeAt g' w' i nb a x p->OutAt g' w' a lt tl E G->Cg B (TN i) g w g' w'->GG P fn R B T ⟨(nxt s n v (AI m s.L)).s.K,(nxt s n v (AI m s.L)).s.f,BM (BM (nxt s n v (AI m s.L)).s.L++[⟨nb,.cells (AF i a p x) 123,.n 0 i,false⟩])++[⟨a,.cells #[lt.v,tl.v] 96,.n 50 0,false⟩]⟩ g' w')(X:Tg.z∉d:=by simp)(S:∀ r,r<6->Tg.n r i∉d:=by simp)(U:∀ r,50<=r->Tg.n r 0∉d:=by simp)(V:∀ W,Df P s n W=some (.ok (.enter f D) W):=by intro _;kernel_rfl)(O:Kz s n=true:=by kernel_rfl)(k:(nxt s n undef (AI m s.L)).o.map Ob.l'=(nxt s n undef (AI m s.L)).o.map Ob.r':=by kernel_rfl)(M:(AI m s.L).all (λx=>(TN i).all λt=>x.t.ne t)=true:=by kernel_rfl)(h:(nxt s n v (AI m s.L)).s.L.all (λy=>(Tg.n 0 i).ne y.t)=true:=by kernel_rfl)(j:∀ x:NX,(BM (nxt s n v (AI m s.L)).s.L++[(⟨nb,.cells (AF i a p x) 123,.n 0 i,false⟩:Sh)]).all (λy=>(Tg.n 50 0).ne y.t)=true:=by intro _;kernel_rfl):GG P fn R B T s g w :=
 Af λK=>qS0 n m (N (nsC I J C K X S U)) Q V O k M h j
theorem qF{a:Gh}{b:World}(d:NodeAt a b i nb ob x p)(e:OutAt a b ob lt tl ls ts)(c:Cg B' T' a b g w)(C:Cg w0.heap.size (TN i) g0 w0 g w)(o:Tg.z∉T':=by simp)(h:∀ r,r<6->Tg.n r i∉T':=by simp)(j:∀ r,50<=r->Tg.n r 0∉T':=by simp)(k:Kn w0.heap.size g w s.L->(results fn s.f.act.tmps).run P w=.ok v w:=by intro _;kernel_rfl)(m:MZ s.K=true:=by kernel_rfl):GG P fn (NP i nb ob g0 w0 v p ls ts) w0.heap.size T s g w :=
 qE v (λK=>⟨_,rfl,nsC d e c K o h j,C⟩) k m
theorem Kn.nd(h:Kn B g w L)(k:Nat)(a:FSl g w x.tape p.d)(c:FSv g w x.ic p.vo.vs)(e:∀ j,j<5->FSv g w (x.hv j) (p.av.al j).vs)(f:∃ vs,OwnS g w (.n 1 i) true 1 1 x.synced vs/\Pends g w nb vs p.br)(m:OwnS g w (.n 2 i) false 24 5 x.fa (cmL p.av.fa))(o:OwnS g w (.n 3 i) true 24 5 x.ae (cmL p.ae))(r:OwnS g w (.n 4 i) false 24 5 x.au (cmL p.au))(s:Xh g w i p.bw x.bw)(t:p.up=true->∃ b,x.bw=some b)(u:L[k]?=some ⟨nb,.cells (AF i ob p x) 123,.n 0 i,false⟩:=by kernel_rfl):NodeAt g w i nb ob x p :=
 have q:=h.rm k nb _ 0 i u
 ⟨q.1,q.2.1,q.2.2,a,c,e,f,m,o,r,s,t⟩
theorem Kn.sr{C:Nat}{f:List Tg}(h:Kn B g w L)(k:Nat)(a:NodeAt g0 w0 i nb ob x0 p0)(c:Cg C f g0 w0 g w)(I:L[k]?=some ⟨nb,.cells (AF i ob p x) 123,.n 0 i,false⟩:=by kernel_rfl)(e:Tg.z∉f:=by simp)(b:∀ r,1<=r->r<6->Tg.n r i∉f:=by simp;try omega)(o:x=x0:=by rfl)(s:p.d=p0.d:=by rfl)(t:p.vo.vs=p0.vo.vs:=by rfl)(u:p.av.al=p0.av.al:=by rfl)(v:p.br=p0.br:=by rfl)(y:p.av.fa=p0.av.fa:=by rfl)(A:p.ae=p0.ae:=by rfl)(D:p.au=p0.au:=by rfl)(E:p.bw=p0.bw:=by rfl)(m:p.up=p0.up:=by rfl):NodeAt g w i nb ob x p:=by
 have q:=h.rm k nb _ 0 i I;subst o;obtain⟨vs,F,G⟩:=a.br;exact⟨q.1,q.2.1,q.2.2,by rw[s];exact a.tape.ch c e,by rw[t];exact a.ic.ch c e,by rw[u];exact λj H=>(a.al j H).ch c e,by rw[v];exact⟨vs,F.ch c (b 1 (by omega) (by omega)) (by simp),G.ch c e⟩,by rw[y];exact a.fa.ch c (b 2 (by omega) (by omega)) (by simp),by rw[A];exact a.ae.ch c (b 3 (by omega) (by omega)) (by simp),by rw[D];exact a.au.ch c (b 4 (by omega) (by omega)) (by simp),by rw[E];exact a.bw.ch c (b 5 (by omega) (by omega)),by rw[m];exact a.rF⟩
theorem Kn.od(h:Kn B g w L)(k:Nat)(a:∃ bs:List Nat,OwnS g w (.n 51 0) false 167 1 lt (bs.map (pt · 0))/\Lets g w bs ls)(b:OwnS g w (.n 52 0) false 48 5 tl (ts.flatMap Es))(c:L[k]?=some ⟨ob,.cells #[lt.v,tl.v] 96,.n 50 0,false⟩:=by kernel_rfl):OutAt g w ob lt tl ls ts :=
 have q:=h.rm k ob _ 50 0 c
 ⟨q.1,q.2.1,q.2.2,a,b⟩
end
end
section
structure RdC(w:World)(x:S3)(l:List Cmd):Prop where
 len:x.n=l.length
 cap:x.n<=x.c
 rQ:x.a=none->x.c=0
 ex:l=[]\/∃ b off,x.a=some ⟨b,off,none⟩/\b<w.heap.size/\∀ j u,(cmL l)[j]?=some u->w.cell? ⟨b,off+j,none⟩=some u
variable{g:Gh}{l:List Cmd}{w:World}{x:S3}
theorem OwnS.rd{τ:Tg}{i:Bool}{e:TypeId}(h:OwnS g w τ i e 5 x (cmL l)):RdC w x l:=by
 have c:=h.num;rcases h.ex with⟨h1,h2,h3⟩|⟨b,cur,h1,h2,h3,h4,h5,h6,h7,h8⟩
 .exact⟨c,by omega,λ_=>h3,.inl (Y' (by omega))⟩
 .refine⟨c,h3,λh=>(by rw[h1]at h;cases h),.inr ⟨b,0,h1,rl h2,λj u f=>?_⟩⟩;obtain⟨k,a,_,d⟩:=h.cell f;rw[h1]at a
  simp only[X',Addr.mk.injEq,and_true]at a;subst a;rw[mU];exact d
theorem RdC.af{d:World}(h:RdC w x l)(b:Bw w d):RdC d x l :=
 ⟨h.len,h.cap,h.rQ,h.ex.imp id λ⟨k,a,e,c,f⟩=>⟨k,a,e,Z' c b.size,λj u g=>(b.cell (p:=⟨k,a+j,none⟩) c).trans (f j u g)⟩⟩
def S3.cut(x:S3)(l h:Nat):S3:=⟨if x.c=l then x.a else x.a.map (·.add (l*5)),h-l,x.c-l⟩
theorem Rc.drop(h:Rc g w x l){k:Nat}(i:k<=l.length):Rc g w (x.cut k x.n) (l.drop k):=by
 have e:=h.len;have f:=h.cap;refine⟨by simp[S3.cut,e],by simp only[S3.cut];omega,λc=>?_,?_⟩
 .simp only[S3.cut]at c ⊢;split at c
  .omega
  .cases ha:x.a with
   | none=>have:=h.rQ ha;omega
   | some a=>rw[ha]at c;cases c
 .rcases h.ex with rfl|⟨b,off,h1,h2,h3,h4⟩
  .exact .inl (by simp)
  .by_cases he:k=l.length
   .exact .inl (by rw[he];simp)
   .refine .inr ⟨b,off+k*5,?_,h2,λj u d=>?_,?_⟩
    .simp only[S3.cut];rw[if_neg (by omega),h1];simp only[m5,X'];unfold Addr.add;split
     .rename_i h0;rw[show k=0 by omega];simp
     .simp
    .rw[<- Ll,ng]at d
     have:=h3 _ u d;rw[show off+k*5+j=off+(5*k+j)by omega];exact this
    .rcases h4 with h4|h4
     .exact .inl h4
     .right;rw[mo];omega
theorem Rc.addr(h:Rc g w x l){k:Nat}(c:k<l.length):∃ b off,x.a=some ⟨b,off,none⟩:=by
 rcases h.ex with rfl|⟨b,off,h2,_⟩
 .simp at c
 .exact⟨b,off,h2⟩
theorem Rc.cellAt(h:Rc g w x l){b d j q:Nat}{c:Cmd}{u:Value}(f:x.a=some ⟨b,d,none⟩)(e:l[j]?=some c)(i:(cmV c)[q]?=some u):w.cell? ⟨b,d+5*j+q,none⟩=some u:=by
 rcases h.ex with rfl|⟨b',off',h1,h2,h3,_⟩
 .cases e
 .rw[f]at h1
  simp only[X',Addr.mk.injEq,and_true]at h1;obtain⟨rfl,rfl⟩:=h1;rw[nc];exact h3 _ u (OS e i)
theorem RdC.cellAt(h:RdC w x l){b d j q:Nat}{c:Cmd}{u:Value}(f:x.a=some ⟨b,d,none⟩)(e:l[j]?=some c)(g:(cmV c)[q]?=some u):w.cell? ⟨b,d+5*j+q,none⟩=some u:=by
 rcases h.ex with rfl|⟨b',off',h1,h2,h3⟩
 .cases e
 .rw[f]at h1
  simp only[X',Addr.mk.injEq,and_true]at h1;obtain⟨rfl,rfl⟩:=h1;rw[nc];exact h3 _ u (OS e g)
theorem RdC.addr(h:RdC w x l){k:Nat}(c:k<l.length):∃ b off,x.a=some ⟨b,off,none⟩:=by
 rcases h.ex with rfl|⟨b,off,h2,_⟩
 .simp at c
 .exact⟨b,off,h2⟩
theorem XE(l:List Cmd)(k:Nat){j:Nat}{u:Value}(h:(cmL (l.take k))[j]?=some u):(cmL l)[j]?=some u:=by
 have a:cmL l=cmL (l.take k)++cmL (l.drop k):=by rw[<- Cw,nv]
 rw[a,mt (V'.1 h).1];exact h
theorem RdC.take(h:RdC w x l){k:Nat}(g:k<=l.length):RdC w (x.cut 0 k) (l.take k):=by
 have i:=h.len;have f:=h.cap;have c:(x.cut 0 k).a=x.a:=by
  simp only[S3.cut];split
  .rfl
  .cases x.a with
   | none=>rfl
   | some a=>simp[Addr.add]
 refine⟨by simp[S3.cut];omega,by simp only[S3.cut];omega,λd=>?_,?_⟩
 .rw[c]at d
  have:=h.rQ d;simp only[S3.cut];omega
 .rcases h.ex with rfl|⟨b,off,h1,h2,h3⟩
  .exact .inl (by simp)
  .exact .inr ⟨b,off,by rw[c];exact h1,h2,λj u e=>h3 j u (XE l k e)⟩
end
section
variable{W:World}
section
theorem sz5:(Go.sizeOf (prog.elem 49)).run prog W=.ok 5 W:=by kernel_rfl
theorem unC:prog.underlying 49=some (.slice (prog.elem 49)):=by kernel_rfl
theorem iH(x:S3)(k:Nat)(a:k<=x.n):(Instr.sliceAt 49 x.v (some (iv (k:Int))) none none).run prog W=.ok (S3.v (x.cut k x.n)) W:=by
 rw[run_sliceAt_slice _ _ _ _ _ _ unC,run_slice_l (P:=prog) (w:=W) _ _ _ _ unC .i64 k (by omega) (by omega),sz5];simp[Result.andThen,sliced,S3.cut]
theorem ky(x:S3)(k:Nat)(a:k<=x.c):(Instr.sliceAt 49 x.v none (some (iv (k:Int))) none).run prog W=.ok (S3.v (x.cut 0 k)) W:=by
 rw[run_sliceAt_slice _ _ _ _ _ _ unC,run_slice_h (P:=prog) (w:=W) _ _ _ _ unC .i64 k (by omega) (by omega),sz5];simp[Result.andThen,sliced,S3.cut]
variable{b k off:Nat}{x:S3}{y:Operand}
theorem kv(d:x.a=some ⟨b,off,none⟩)(k:Nat)(f:k<x.n)(e:x.n<=x.c):(Instr.sliceAt 49 x.v (some (iv (k:Int))) none none).run prog W=.ok (.slice (some ⟨b,off+5*k,none⟩) (x.n-k) (x.c-k)) W:=by
 rw[iH x k (by omega)];unfold S3.v S3.cut;simp only;rw[if_neg (by omega),d];simp only[m5,Addr.add];split
 .rename_i h0;rw[show k=0 by omega];rfl
 .simp only[oY]
theorem k9{P:Program}{x:Operand}(a b:Nat)(c:P.underlying 3=some (.int .i64))(h:b<=a)(d:a<4611686018427387904):(do Go.eqGuard .sub 3 x y (iv (a:Int)) (iv (b:Int));Go.binOp .sub 3 (iv (a:Int)) (iv (b:Int)):Sem Value).run P W=.ok (iv ((a-b:Nat):Int)) W:=by
 rw[ZF _ _ c (by omega)]
 congr 3
 omega
theorem jS{g:Gh}{l:List Cmd}(e:x.a=some ⟨b,off,none⟩)(h:Rc g W x l)(k:Nat)(f:k<l.length):∀ j u,(cmL (l.drop k))[j]?=some u->W.cell? ((⟨b,off+5*k,none⟩:Addr).add j)=some u:=by
 intro j u d;rcases h.ex with rfl|⟨b',off',h1,h2,h3,h4⟩
 .simp at f
 .rw[e]at h1
  simp only[X',Addr.mk.injEq,and_true]at h1;obtain⟨rfl,rfl⟩:=h1;rw[<- Ll,ng]at d
  have:=h3 _ u d;have c:(⟨b,off+5*k,none⟩:Addr).add j=⟨b,off+5*k+j,none⟩:=by unfold Addr.add;split<;>simp_all
  rw[c,show off+5*k+j=off+(5*k+j)by omega];exact this
theorem Rb(c:x.a=some ⟨b,off,none⟩)(j:Nat)(d:j<x.n):(Instr.indexAt 49 x.v (iv (j:Int))).run prog W=.ok (pt b (off+5*j)) W:=by
 unfold S3.v;rw[c];exact Nn (P:=prog) (e:=24) (z:=5) underlying49 (by kernel_rfl) (by kernel_rfl) d _ rfl
theorem ZD(c:Cmd)(h:∀ j u,(cmV c)[j]?=some u->W.cell? ⟨b,k+j,none⟩=some u):(Instr.loadAt 24 (pt b k)).run prog W=.ok (.agg #[iv c.k,iv c.c,iv c.s,iv c.n,iv c.v]) W:=by
 have a:=run_loadVar_mid (P:=prog) W b k 24 (cmV c) _ (λj u d=>h j u d) underlying24 rfl (by kernel_rfl);simp only[Instr.loadAt,Instr.sureAddr,Sem.run_bind,Sem.run_pure,Result.andThen_ok];exact a
theorem UH(c:x.a=some ⟨b,off,none⟩)(j:Nat)(d:j<x.n):(Instr.indexAt 105 x.v (iv (j:Int))).run prog W=.ok (pt b (off+8*j)) W:=by
 unfold S3.v;rw[c];exact Nn (P:=prog) (e:=164) (z:=8) underlying105 (by kernel_rfl) (by kernel_rfl) d _ rfl
theorem dX(v:Vt)(h:W.rangeAt b k (vtC v)):(Instr.loadAt 164 (pt b k)).run prog W=.ok (.agg #[iv v.bn,iv v.b.r,iv v.b.n,iv v.w.k,iv v.w.c,iv v.w.s,iv v.w.n,iv v.w.v]) W:=by
 have a:=run_loadVar_mid (P:=prog) W b k 164 (vtC v) _ h underlying164 rfl (by kernel_rfl);simp only[Instr.loadAt,Instr.sureAddr,Sem.run_bind,Sem.run_pure,Result.andThen_ok];exact a
theorem ji(u v:Vt):decide (u.bn=v.bn/\u.b.r=v.b.r/\u.b.n=v.b.n/\u.w.k=v.w.k/\u.w.c=v.w.c/\u.w.s=v.w.s/\u.w.n=v.w.n/\u.w.v=v.w.v)=decide (u=v):=by
 apply nf.2;constructor
 .rintro⟨a1,a2,a3,a4,a5,a6,a7,a8⟩;exact(Vt.eq_iff u v).1 ⟨a1,(Bal.eq_iff _ _).1 ⟨a2,a3⟩,(Cmd.eq_iff _ _).1 ⟨a4,a5,a6,a7,a8⟩⟩
 .rintro rfl;exact⟨rfl,rfl,rfl,rfl,rfl,rfl,rfl,rfl⟩
theorem kg{x:Operand}(a b:Vt):(do Go.eqGuard .eql 164 x y (.agg #[iv a.bn,iv a.b.r,iv a.b.n,iv a.w.k,iv a.w.c,iv a.w.s,iv a.w.n,iv a.w.v]) (.agg #[iv b.bn,iv b.b.r,iv b.b.n,iv b.w.k,iv b.w.c,iv b.w.s,iv b.w.n,iv b.w.v]);Go.binOp .eql 164 (.agg #[iv a.bn,iv a.b.r,iv a.b.n,iv a.w.k,iv a.w.c,iv a.w.s,iv a.w.n,iv a.w.v]) (.agg #[iv b.bn,iv b.b.r,iv b.b.n,iv b.w.k,iv b.w.c,iv b.w.s,iv b.w.n,iv b.w.v]):Sem Value).run prog W=.ok (.bool (decide (a=b))) W:=by
 have d:=Yf a.bn a.b.r a.b.n a.w.k a.w.c a.w.s a.w.n a.w.v b.bn b.b.r b.b.n b.w.k b.w.c b.w.s b.w.n b.w.v W;rw[ji]at d
 have e:(Go.eqGuard .eql 164 x y (.agg #[iv a.bn,iv a.b.r,iv a.b.n,iv a.w.k,iv a.w.c,iv a.w.s,iv a.w.n,iv a.w.v]) (.agg #[iv b.bn,iv b.b.r,iv b.b.n,iv b.w.k,iv b.w.c,iv b.w.s,iv b.w.n,iv b.w.v])).run prog W=.ok () W:=by kernel_rfl
 rw[Sem.run_bind,e,Result.andThen_ok];exact d
end
end
theorem BT{W:World}{ty:TypeId}{c:TypeDesc}{b k:Nat}{v:Value}(g:prog.underlying ty=some c)(d:c.isRow=false)(e:W.cell? ⟨b,k,none⟩=some v):(Instr.loadAt ty (pt b k)).run prog W=.ok v W:=by
 have a:(isAgg ty).run prog W=.ok false W:=by
  unfold isAgg;rw[Sem.run_bind,run_underlying g W];cases c<;>first|rfl|(simp only[TypeDesc.isRow]at d;cases d)
 have f:(loadVar ty ⟨b,k,none⟩).run prog W=.ok v W:=by simp[loadVar,a,e,go_sem]
 simp only[Instr.loadAt,Instr.sureAddr,Sem.run_bind,Sem.run_pure,Result.andThen_ok,f]
end
end Go.Proofs.YtdjfdfpkkenjbacGreatDoor
