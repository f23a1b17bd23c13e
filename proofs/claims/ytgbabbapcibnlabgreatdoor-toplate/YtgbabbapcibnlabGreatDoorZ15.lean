/- Part 15 of the walk. -/
import Derived.Test.YtgbabbapcibnlabGreatDoorZ14
set_option maxRecDepth 100000
set_option maxHeartbeats 4000000
open Go.Proofs.Tryz
set_option linter.unusedVariables false
namespace Go.Proofs.YtgbabbapcibnlabGreatDoor
section
def alk:List Cmd->List Cmd->Bool
 | c::a,d::b=>decide (c=d)&&alk a b
 | _,_=>true
theorem TB(a:List Cmd):alk a []=true:=by cases a<;>rfl
theorem TA{a b:List Cmd}{i:Nat}(h:¬ (i<a.length/\i<b.length)):alk (a.drop i) (b.drop i)=true:=by
 by_cases c:i<a.length
 .rw[show b.drop i=[]from mP (by omega),TB]
 .rw[show a.drop i=[]from mP (by omega)];rfl
theorem Xa{a b:List Cmd}{i:Nat}{c d:Cmd}(g:a[i]?=some c)(h:b[i]?=some d):alk (a.drop i) (b.drop i)=(decide (c=d)&&alk (a.drop (i+1)) (b.drop (i+1))):=by
 obtain⟨e,rfl⟩:=V'.1 g;obtain⟨f,rfl⟩:=V'.1 h;rw[mQ e,mQ f,alk]
end
section
open Go.RowKit
section
theorem lE(a b c d e f g h i j:Int):∀ w,(binOp .neq 49 (.agg #[.int .i64 a,.int .i64 b,.int .i64 c,.int .i64 d,.int .i64 e]) (.agg #[.int .i64 f,.int .i64 g,.int .i64 h,.int .i64 i,.int .i64 j])).run prog w=.ok (.bool (!decide (a=f/\b=g/\c=h/\d=i/\e=j))) w:=by
 intro w;rw[run_neq_struct,run_equalIn_agg w 9999 _ _ _ (by kernel_rfl) (by kernel_rfl)];unfold Program.fieldsOf;rw[underlying49];have k:=underlying3;simp[Op.eqFields,go_sem,k]
 repeat' split
 all_goals simp_all
variable{W w:World}{n:Nat}
theorem ke{x y:Operand}(a b:Cmd):(do Go.eqGuard .neq 49 x y (.agg #[iv a.k,iv a.c,iv a.s,iv a.n,iv a.v]) (.agg #[iv b.k,iv b.c,iv b.s,iv b.n,iv b.v]);Go.binOp .neq 49 (.agg #[iv a.k,iv a.c,iv a.s,iv a.n,iv a.v]) (.agg #[iv b.k,iv b.c,iv b.s,iv b.n,iv b.v]):Sem Value).run prog W=.ok (.bool (!decide (a=b))) W:=by
 have d:=lE a.k a.c a.s a.n a.v b.k b.c b.s b.n b.v W;rw[O8]at d
 have e:(Go.eqGuard .neq 49 x y (.agg #[iv a.k,iv a.c,iv a.s,iv a.n,iv a.v]) (.agg #[iv b.k,iv b.c,iv b.s,iv b.n,iv b.v])).run prog W=.ok () W:=by kernel_rfl
 rw[Sem.run_bind,e,Result.andThen_ok];exact d
theorem WZ{x y:S3}{a b:List Cmd}(h:RdV w x 5 (cmL a))(k:RdV w y 5 (cmL b))(hb:a.length<1000000){r:Bool}(P:alk a b=r) :
  Calls prog 9 #[x.v,y.v] w λe w'=>e=.returned (.bool r)/\Bw w w':=by
 have hx:=R7 h;have hy:=R7 k;refine tIn [Fa.zv x 5 (cmL a),Fa.zv y 5 (cmL b)] func9 ⟨h.fz,k.fz,trivial⟩ (tR 10 [] λT _ _=>Dx 27 [(0,S3.v x),(1,S3.v y),(5,iv 0)] [] [] [Fa.zv x 5 (cmL a),Fa.zv y 5 (cmL b)] (λQ A z f=>∃ (i:Nat),Q=a.length-i/\A=[(0,S3.v x),(1,S3.v y),(5,iv (i:Int))]/\z=[]/\f=[Fa.zv x 5 (cmL a),Fa.zv y 5 (cmL b)]/\i<=a.length/\alk (a.drop i) (b.drop i)=r) (a.length) ⟨0,rfl,rfl,rfl,rfl,by omega,P⟩ (λF=>F) ?_);rintro k _ _ _ ⟨i,rfl,rfl,rfl,rfl,hi,g⟩ _ _ _ J q;refine tR 6 [] λU _ _=>?_;by_cases Y:i<a.length
 .refine tV 3 (.bool true) (λF C=>(rLt (t:=3) (m:=(i:Int)) (n:=(x.n:Int)) (x:=(.tmp 6)) (y:=(.tmp 8)) (O' (by omega)))) (tR 7 [] λV _ _=>?_);by_cases Z:i<b.length
  .refine tI ((decide ((i:Int)<(y.n:Int)))) true (O' (by omega)) ?_;obtain⟨c,D⟩:∃ c,a[i]?=some c:=⟨_,G' (by omega)⟩;obtain⟨d,E⟩:∃ d,b[i]?=some d:=⟨_,G' (by omega)⟩;rw[Xa D E]at g
   refine tF λF _=>?_;obtain⟨bx,R,l⟩:=F.1.rd.rc.addr (k:=i) (by omega);obtain⟨rW,S,o⟩:=F.2.1.rd.rc.addr (k:=i) (by omega);refine tR 7 [9,0,2] λW _ _=>tT 2 (pt bx (R+5*i)) (λ_=>(LM l i (by omega))) (tR 2 [8,10] λX _ _=>tT 6 (pt rW (S+5*i)) (λ_=>(LM o i (by omega))) (IG 27 (λA z f=>∃ (_:Unit),A=[(0,S3.v x),(1,S3.v y),(5,iv (i:Int)),(26,.bool (!decide (c=d)))]/\z=[]/\f=[Fa.zv x 5 (cmL a),Fa.zv y 5 (cmL b)]) (λJ q=>?_) ?_))
   .refine IH 3 7 ?_ ?_
    .refine tV 3 (.agg #[iv c.k,iv c.c,iv c.s,iv c.n,iv c.v]) (λF C=>(OY c λG u j=>F.1.rd.rc.cellAt l D j)) (tV 7 (.agg #[iv d.k,iv d.c,iv d.s,iv d.n,iv d.v]) (λF C=>(OY d λG u j=>F.2.1.rd.rc.cellAt o E j)) (tT 8 (.bool (!decide (c=d))) (λ_=>(ke (x:=(.tmp 21)) (y:=(.tmp 25)) c d)) (tR 1 [] λH _ _=>tD q [] ⟨(),rfl,rfl,rfl⟩ (λF=>F))))
    .refine tV 7 (.agg #[iv d.k,iv d.c,iv d.s,iv d.n,iv d.v]) (λF C=>(OY d λG u j=>F.2.1.rd.rc.cellAt o E j)) (tV 3 (.agg #[iv c.k,iv c.c,iv c.s,iv c.n,iv c.v]) (λF C=>(OY c λG u j=>F.1.rd.rc.cellAt l D j)) (tT 8 (.bool (!decide (c=d))) (λ_=>(ke (x:=(.tmp 21)) (y:=(.tmp 25)) c d)) (tR 1 [] λI _ _=>tD q [] ⟨(),rfl,rfl,rfl⟩ (λF=>F))))
   rintro _ _ _ ⟨_,rfl,rfl,rfl⟩ _ _ _;by_cases p:¬ c=d
   .refine tI ((!decide (c=d))) true (by simpa using p) (tR 4 [] λK _ _=>?_);rw[E' p]at g
    subst g;exact tE (.bool false) λ_ B=>⟨rfl,B⟩
   .refine tI ((!decide (c=d))) false (by simpa using p) ?_;rw[O' (mg.1 p),Bool.true_and]at g
    refine tR 4 [] λL _ _=>tV 1 (iv ((i:Int)+1)) (λF C=>(AK 16 (i:Int) underlying3 (by omega))) (tR 2 [] λM _ _=>tB q (a.length-(i+1)) (by omega) [] ⟨i+1,rfl,rfl,rfl,rfl,by omega,g⟩ (λF=>F))
  .refine tI ((decide ((i:Int)<(y.n:Int)))) false (E' (by omega)) (tR 5 [] λN _ _=>?_);rw[TA (by omega)]at g
   subst g;exact tE (.bool true) λ_ B=>⟨rfl,B⟩
 .refine tV 3 (.bool false) (λF C=>(rLt (t:=3) (m:=(i:Int)) (n:=(x.n:Int)) (x:=(.tmp 6)) (y:=(.tmp 8)) (E' (by omega)))) (tR 13 [] λO _ _=>?_);rw[TA (by omega)]at g
  subst g;exact tE (.bool true) λ_ B=>⟨rfl,B⟩
theorem kw{B:Nat}{g:Gh}{L:List Sh}(h:Kn B g w L)(k b:Nat)(news:List Value)(e:TypeId)(t:Tg)(v:Bool)(d:L[k]?=some ⟨b,.cells news.toArray e,t,v⟩){j:Nat}{u:Value}(c:news[j]?=some u):w.cell? ⟨b,j,none⟩=some u:=by
 have:=BR h k b news e t v d j u c;have a:(⟨b,0,none⟩:Addr).add j=⟨b,j,none⟩:=by unfold Addr.add;split<;>simp_all
 rwa [a]at this
theorem Zq{b k:Nat}(a:n<5):(Instr.indexAt 29 (pt b k) (iv (n:Int))).run prog W=.ok (pt b (k+n)) W:=by
 rcases qq a with rfl|rfl|rfl|rfl|rfl<;>kernel_rfl
theorem fs{M:Meet}{c tv:S3}(a:n<5){u:Bool}(b:(M.ab n).up=u):(Hy M c tv).toList[1+n]?=some (.bool u):=by
 subst b;rcases qq a with rfl|rfl|rfl|rfl|rfl<;>rfl
end
end
section
structure Alw where
 ca:Bool
 ld:Bool
 cr:Bool
 st:Bool
structure NInv(A:Alw)(i:Nat)(D:List Int->Prop)(Q:Let->Prop)(P:Nod->Prop):Prop where
 take:A.ca=true->∀ p l,P p->Q l->l.dst=i->p.up=true->P (p.take l)
 one:∀ p c,P p->p.up=true->p.ae[p.done]?=some c->doE p.lr c=0->P (Nod.gC { p with lr:=doS p.lr c,done:=p.done+1 } c)
 ask:∀ p,P p->p.up=true->P (p.hZ i).1/\∀ l∈(p.hZ i).2,Q l
 prop:∀ p,P p->p.up=true->P p.cn
 qA:∀ p,P p->p.up=true->P p.qA
 run:∀ p q l,P p->p.up=true->p.bu=q::l->¬ p.sy<(p.d.length:Int)->P { p.ln i q with bu:=l }/\∀ m∈p.qt i q,Q m
 qx:∀ p,P p->p.up=true->p.leads=true->P (Eu p i 5)/\∀ l∈Dl p i 5,Q l
 lead:A.ld=true->∀ p,P p->p.up=true->P (p.lead i)
 sub:∀ p d ts,P p->D d->p.up=true->P (p.qM i d ts).1
 kc:A.cr=true->∀ p k,P p->0<=k->p.up=true->P (p.kc k)
 start:A.st=true->∀ p,P p->p.up=false->P p.start
theorem Oc(p:Nod)(i:Nat)(q:Pend)(x:List Pend):({ p with bu:=x }:Nod).ln i q={ p.ln i q with bu:=x }:=by
 cases q with
 | began b vs=>unfold Nod.ln;simp only;split<;>rfl
 | prop v =>
  unfold Nod.ln Nod.count;simp only;split
  .rfl
  .split<;>rfl
 | _=>rfl
theorem D4(p:Nod)(i:Nat)(q:Pend):(p.ln i q).bu=p.bu/\(p.ln i q).up=p.up/\(p.ln i q).d=p.d/\(p.ln i q).sy=p.sy:=by
 cases q with
 | began b vs=>unfold Nod.ln;simp only;split<;>exact⟨rfl,rfl,rfl,rfl⟩
 | prop v =>
  unfold Nod.ln Nod.count;simp only;split
  .exact⟨rfl,rfl,rfl,rfl⟩
  .split<;>exact⟨rfl,rfl,rfl,rfl⟩
 | _=>exact⟨rfl,rfl,rfl,rfl⟩
theorem LX(p:Nod)(i:Nat)(q:Pend)(x:List Pend):({ p with bu:=x }:Nod).qt i q=p.qt i q:=by cases q<;>rfl
theorem DL(p:Nod)(c:Cmd):(p.gC c).up=p.up/\(p.gC c).ae=p.ae/\(p.gC c).done=p.done/\(p.gC c).lr=p.lr:=by unfold Nod.gC;split<;>exact⟨rfl,rfl,rfl,rfl⟩
theorem RR(p:Nod)(l:List Cmd):(p.dT l).up=p.up:=by unfold Nod.dT;split<;>rfl
theorem Ii(p:Nod)(i:Nat):(p.hZ i).1.up=p.up:=by
 unfold Nod.hZ;split
 .rfl
 .split
  .exact RR _ _
  .rfl
theorem eO(p:Nod)(v:Vt):(p.cl v).1.up=p.up:=by
 unfold Nod.cl;split
 .rfl
 .split
  .rfl
  .split<;>rfl
theorem Ep(p:Nod):p.cn.up=p.up:=by
 unfold Nod.cn;split
 .rfl
 .split
  .rfl
  .split
   .rfl
   .exact eO p _
theorem iS(p:Nod):p.qA.up=p.up:=by unfold Nod.qA;split<;>rfl
section
variable{A:Alw}{i:Nat}{D:List Int->Prop}{Q:Let->Prop}{P:Nod->Prop}
theorem NInv.qD(h:NInv A i D Q P)(l:List Cmd)(p:Nod)(e:List Tol)(d:P p)(a:p.up=true)(f:p.ae.drop p.done=l):P (qD i l p e).1/\(Go.Proofs.YtgbabbapcibnlabGreatDoor.qD i l p e).1.up=true:=by
 induction l generalizing p e with
 | nil=>exact⟨d,a⟩
 | cons c l ih =>
  rw[Go.Proofs.YtgbabbapcibnlabGreatDoor.qD];split
  .exact⟨d,a⟩
  .rename_i he
   have g:p.ae[p.done]?=some c:=by
    have:=congrArg (·[0]?) f;simpa using this
   have b:=DL { p with lr:=doS p.lr c,done:=p.done+1 } c;refine ih _ _ (h.one p c d a g (mg.1 he)) (b.1.trans a) ?_;rw[b.2.1,b.2.2.1];show p.ae.drop (p.done+1)=l;rw[<- oD,f];rfl
theorem NInv.nn(h:NInv A i D Q P)(l:List Pend)(p:Nod)(ls:List Let)(b:P { p with bu:=l })(c:p.up=true)(k:p.bu=[])(j:¬ p.sy<(p.d.length:Int))(g:∀ m∈ls,Q m):P (nn i l p ls).1/\(∀ m∈(Go.Proofs.YtgbabbapcibnlabGreatDoor.nn i l p ls).2,Q m)/\(Go.Proofs.YtgbabbapcibnlabGreatDoor.nn i l p ls).1.up=true:=by
 induction l generalizing p ls with
 | nil =>
  refine⟨?_,g,c⟩;have:({ p with bu:=[] }:Nod)=p:=by cases p;simp_all
  rw[this]at b;exact b
 | cons q l ih =>
  have a:=D4 p i q;obtain⟨e,f⟩:=h.run { p with bu:=q::l } q l b c rfl j;rw[Oc]at e
  rw[LX]at f
  exact ih (p.ln i q) (ls++p.qt i q) e (a.2.1.trans c) (a.1.trans k) (by rw[a.2.2.1,a.2.2.2];exact j) λm n=>(P'.1 n).elim (g m) (f m)
theorem NInv.piece(h:NInv A i D Q P)(p:Nod)(ls:List Let)(ts:List Tol)(y:P p)(z:p.up=true)(x:∀ m∈ls,Q m):P (p.piece i ls ts).1/\∀ m∈(p.piece i ls ts).2.1,Q m:=by
 obtain⟨s,n⟩:=h.qD _ p ts y z rfl;unfold Nod.piece;simp only;obtain⟨t,u⟩:=h.ask _ s n;have o:=(Ii (Go.Proofs.YtgbabbapcibnlabGreatDoor.qD i (p.ae.drop p.done) p ts).1 i).trans n;have f:=h.prop _ t o;have c:=(Ep ((Go.Proofs.YtgbabbapcibnlabGreatDoor.qD i (p.ae.drop p.done) p ts).1.hZ i).1).trans o;have a:∀ m∈ls++((Go.Proofs.YtgbabbapcibnlabGreatDoor.qD i (p.ae.drop p.done) p ts).1.hZ i).2,Q m:=λm g=>(P'.1 g).elim (x m) (u m);generalize ls++((Go.Proofs.YtgbabbapcibnlabGreatDoor.qD i (p.ae.drop p.done) p ts).1.hZ i).2=k at a ⊢;generalize ((Go.Proofs.YtgbabbapcibnlabGreatDoor.qD i (p.ae.drop p.done) p ts).1.hZ i).1.cn=r at f c ⊢;have b:P (r.ni i k).1/\(∀ m∈(r.ni i k).2,Q m)/\(r.ni i k).1.up=true:=by
  unfold Nod.ni;split
  .exact⟨f,a,c⟩
  .rename_i hn
   have j:=h.qA r f c;have l:r.qA.bu=r.bu:=by unfold Nod.qA;split<;>rfl
   refine h.nn r.bu { r.qA with bu:=[] } k (by rw[<- l];exact j) ((iS r).trans c) rfl ?_ a;show ¬ r.qA.sy<(r.qA.d.length:Int);unfold Nod.qA;split
   .rename_i h1
    have:CY r.d r.sy=0:=mg.1 λe=>hn ⟨h1,e⟩;have q:AP r.d r.sy:=by
     unfold CY at this;split at this
     .assumption
     .cases this
    show ¬ Ic r.d r.sy<((GY r.d r.sy).length:Int);unfold Ic GY;rw[if_pos q,if_pos q];exact pV _
   .rename_i h1;exact h1
 unfold Nod.bw;split
 .rename_i hL
  obtain⟨v,w⟩:=h.qx _ b.1 b.2.2 hL;exact⟨v,λm g=>(P'.1 g).elim (b.2.1 m) (w m)⟩
 .exact⟨b.1,b.2.1⟩
end
section
structure GInv(Q:Let->Prop)(P:Nat->Nod->Prop)(M:Meet):Prop where
 ab:∀ i,i<5->P i (M.ab i)
 br:∀ l∈M.br,Q l
variable{A:Alw}{D:Nat->List Int->Prop}{M:Meet}{P:Nat->Nod->Prop}{Q:Let->Prop}{R:List Tol->Prop}{i:Nat}{k:Int}{p:Nod}{x:Lac}
theorem GInv.set(h:GInv Q P M){i:Nat}{p:Nod}{ls:List Let}{ts:List Tol}(c:P i p)(b:∀ l∈ls,Q l):GInv Q P (M.set i p ls ts) :=
 ⟨λj a=>by
  show P j (upN M.ab i p j);unfold upN;split
  .rename_i e;rw[e];exact c
  .exact h.ab j a,b⟩
theorem GInv.mv(b:∀ i,i<5->NInv A i (D i) Q (P i))(c:A.ca=true){M:Meet}(h:GInv Q P M){l:Let}(d:Q l)(a:l.dst<5):GInv Q P (M.mv l):=by
 unfold Meet.mv;split
 .rename_i hu
  exact h.set (ls:=M.br) (ts:=M.eo) ((b _ a).take c _ l (h.ab _ a) d rfl hu) h.br
 .exact h
theorem GInv.comes(b:∀ i,i<5->NInv A i (D i) Q (P i))(c:A.ca=true)(l:List Let){M:Meet}(h:GInv Q P M)(a:∀ m∈l,Q m/\m.dst<5):GInv Q P (l.foldl (λM l=>M.mv l) M):=by
 induction l generalizing M with
 | nil=>exact h
 | cons x l ih=>exact ih (h.mv b c (a x M').1 (a x M').2) λm d=>a m (I' _ d)
structure Alw.Ok(A:Alw)(x:Lac):Prop where
 ca:x.k=4\/x.k=6\/x.k=7->A.ca=true
 ld:x.k=2->A.ld=true
 cr:x.k=8->A.cr=true
 st:x.k=9->A.st=true
theorem GInv.act(g:∀ i,i<5->NInv A i (D i) Q (P i)){n:Nat}{M:Meet}(h:GInv Q P M)(B:MOk n M){x:Lac}(C:LacOk x)(q:A.Ok x)(F:x.k=1->D x.n.toNat x.d):GInv Q P (M.act x):=by
 have b:∀ {k:Int},x.k=k->FP k=true->x.n.toNat<5:=λ{k} e E=>by have:=C.n (by rw[e];exact E);omega
 unfold Meet.act;simp only;by_cases r:x.k=1
 .rw[if_pos r];have c:=b r rfl;refine h.set ?_ h.br;unfold Nod.qM;by_cases f:(M.ab x.n.toNat).up=true
  .exact(g _ c).sub _ x.d M.eo (h.ab _ c) (F r) f
  .unfold Nod.qP;rw[if_pos (by simpa using f)];exact h.ab _ c
 .rw[if_neg r];by_cases s:x.k=2
  .rw[if_pos s];have c:=b s rfl;refine h.set ?_ h.br;split
   .rename_i f;exact(g _ c).lead (q.ld s) _ (h.ab _ c) f
   .exact h.ab _ c
  .rw[if_neg s];by_cases u:x.k=3
   .rw[if_pos u];have c:=b u rfl;by_cases f:(M.ab x.n.toNat).up=true
    .have:=(g _ c).piece _ M.br M.eo (h.ab _ c) f h.br;rw[if_pos f,if_pos f,if_pos f];exact h.set this.1 this.2
    .rw[if_neg f,if_neg f,if_neg f];exact h.set (h.ab _ c) h.br
   .rw[if_neg u];by_cases w:x.k=4\/x.k=5\/x.k=6
    .rw[if_pos w];unfold Meet.move;split
     .exact h
     .rename_i l v
      have j:=mG v;have z:GInv Q P (if x.k≠6 then{ M with br:=M.br.eraseIdx (x.a.toNat%M.br.length) }else M):=by
       split
       .exact⟨h.ab,λm j=>h.br m (oU j)⟩
       .exact h
      simp only;split
      .rename_i h5
       exact z.mv g (q.ca (by omega)) (h.br l j) (B.br l j).dst
      .exact z
    .rw[if_neg w];by_cases y:x.k=7
     .rw[if_pos y];unfold Meet.qz;exact GInv.comes g (q.ca (by omega)) _ ⟨h.ab,λl v=>by cases v⟩ λm j=>⟨h.br m j,(B.br m j).dst⟩
     .rw[if_neg y];by_cases o:x.k=8
      .rw[if_pos o];have c:=b o rfl;refine h.set ?_ h.br;split
       .rename_i f;exact(g _ c).kc (q.cr o) _ x.p (h.ab _ c) (C.p (by rw[o];rfl)).1 f
       .exact h.ab _ c
      .rw[if_neg o];by_cases t:x.k=9
       .rw[if_pos t];have c:=b t rfl;refine h.set ?_ h.br;split
        .exact h.ab _ c
        .rename_i f;exact(g _ c).start (q.st t) _ (h.ab _ c) (by simpa using f)
       .rw[if_neg t];exact h
structure TInv(i:Nat)(D:List Int->Prop)(P:Nod->Prop)(R:List Tol->Prop):Prop where
 one:∀ p c ts,P p->p.up=true->p.ae[p.done]?=some c->doE p.lr c=0->(p.bN c).isSome=true->R ts->R (ts++[⟨i,c.c,c.s,doC p.lr c,doA p.lr c⟩])
 sub:∀ p d ts,P p->D d->p.up=true->opE d (p.done:Int)=0->GW d (p.done:Int)∈p.ae.take p.done->R ts->R (ts++[⟨i,(GW d (p.done:Int)).c,(GW d (p.done:Int)).s,doC p.lr (GW d (p.done:Int)),doA p.lr (GW d (p.done:Int))⟩])
theorem TInv.qD{D:List Int->Prop}{P:Nod->Prop}(h:NInv A i D Q P)(t:TInv i D P R)(l:List Cmd)(p:Nod)(b:List Tol)(j:P p)(e:p.up=true)(g:p.ae.drop p.done=l)(a:R b):R (qD i l p b).2:=by
 induction l generalizing p b with
 | nil=>exact a
 | cons c l ih =>
  rw[Go.Proofs.YtgbabbapcibnlabGreatDoor.qD];split
  .exact a
  .rename_i he
   have f:p.ae[p.done]?=some c:=by
    have:=congrArg (·[0]?) g;simpa using this
   have d:=DL { p with lr:=doS p.lr c,done:=p.done+1 } c;refine ih _ _ (h.one p c j e f (mg.1 he)) (d.1.trans e) ?_ ?_
   .rw[d.2.1,d.2.2.1];show p.ae.drop (p.done+1)=l;rw[<- oD,g];rfl
   .split
    .rename_i ha;exact t.one p c b j e f (mg.1 he) ha a
    .exact a
theorem Np(M:Meet)(l:Let):(M.mv l).eo=M.eo:=by unfold Meet.mv;split<;>rfl
theorem RB(l:List Let)(M:Meet):(l.foldl (λM l=>M.mv l) M).eo=M.eo:=by
 induction l generalizing M with
 | nil=>rfl
 | cons x l ih=>exact(ih _).trans (Np M x)
theorem VE(M:Meet)(k:Int)(a:Nat):(M.move k a).eo=M.eo:=by
 unfold Meet.move;split
 .rfl
 .simp only;split
  .rw[Np];split<;>rfl
  .split<;>rfl
theorem WV(M:Meet){x:Lac}(a:x.k≠1)(b:x.k≠3):(M.act x).eo=M.eo:=by
 unfold Meet.act;simp only;rw[if_neg a];split
 .rfl
 .split
  .exact VE _ _ _
  .split
   .exact RB _ _
   .split
    .rfl
    .split<;>rfl
theorem GInv.eo(g:∀ i,i<5->NInv A i (D i) Q (P i))(c:∀ i,i<5->TInv i (D i) (P i) R){M:Meet}(h:GInv Q P M)(a:R M.eo){x:Lac}(e:LacOk x)(f:x.k=1->D x.n.toNat x.d):R (M.act x).eo:=by
 by_cases b:x.k=1
 .have hi:x.n.toNat<5:=by have:=e.n (by rw[b];rfl);omega
  unfold Meet.act;simp only;rw[if_pos b];show R (Nod.qM _ _ _ _).2;unfold Nod.qM Nod.qP;split
  .exact a
  .rename_i hu
   split
   .exact a
   .rename_i he
    split
    .rename_i hm
     exact(c _ hi).sub _ _ _ (h.ab _ hi) (f b) (by simpa using hu) (mg.1 he) hm a
    .exact a
 .by_cases h3:x.k=3
  .have hi:x.n.toNat<5:=by have:=e.n (by rw[h3];rfl);omega
   unfold Meet.act;simp only;rw[if_neg b,if_neg (by omega),if_pos h3];show R (if _ then _ else _);split
   .rename_i hu
    exact TInv.qD (g _ hi) (c _ hi) _ _ _ (h.ab _ hi) hu rfl a
   .exact a
  .rw[WV M b h3];exact a
theorem GInv.dc(c:∀ i,i<5->NInv A i (D i) Q (P i))(g:∀ i,i<5->TInv i (D i) (P i) R)(L:List Lac){n:Nat}{M:Meet}(b:MOk n M)(j:n+L.length<=1000000)(h:GInv Q P M)(e:R M.eo)(f:∀ x∈L,LacOk x/\A.Ok x/\(x.k=1->D x.n.toNat x.d)):GInv Q P (M.dc L)/\R (M.dc L).eo/\MOk (n+L.length) (M.dc L):=by
 induction L generalizing n M with
 | nil=>exact⟨h,e,b⟩
 | cons x L ih =>
  have a:=f x M';rw[mE]at j
  have:=ih (b.act (by omega) a.1) (by omega) (h.act c b a.1 a.2.1 a.2.2) (h.eo c g e a.1 a.2.2) λy l=>f y (I' _ l);rw[mE,show n+(L.length+1)=n+1+L.length by omega];exact this
theorem TInv.all(i:Nat)(D:List Int->Prop)(P:Nod->Prop):TInv i D P λ_=>True:=⟨λ_ _ _ _ _ _ _ _ _=>trivial,λ_ _ _ _ _ _ _ _ _=>trivial⟩
def Nod.ub(p:Nod):Bool × Nat:=(p.up,p.bad)
theorem LI(p:Nod)(b:Bal):(p.au b).1.ub=p.ub:=by
 unfold Nod.au;split
 .rfl
 .split
  .rfl
  .split<;>rfl
theorem UE(p:Nod)(v:Vt):(p.cl v).1.ub=p.ub:=by
 unfold Nod.cl;split
 .rfl
 .split
  .rfl
  .split<;>rfl
theorem KZ(p:Nod)(j:Nat)(v:Vt):(p.count j v).ub=p.ub:=by
 unfold Nod.count;split
 .rfl
 .split<;>rfl
theorem NW(p:Nod)(to:Nat)(e:Int):(p.ed to e).ub=p.ub:=by unfold Nod.ed;split<;>rfl
theorem Le(p:Nod)(l:List Cmd):(p.dT l).ub=p.ub:=by unfold Nod.dT;split<;>rfl
theorem Po(p:Nod)(l:Let):(p.take l).ub=p.ub:=by
 unfold Nod.take;split
 .split
  .exact NW _ _ _
  .exact LI p l.fv
 .simp only;split<;>rfl
 .rfl
 .split
  .exact NW _ _ _
  .exact UE p l.cl
 .exact KZ p _ _
 .split<;>rfl
 .simp only;split<;>exact Le p l.fa
 .rfl
theorem dV(p:Nod)(i:Nat)(q:Pend):(p.ln i q).ub=p.ub:=by
 cases q with
 | began b vs=>unfold Nod.ln;simp only;split<;>rfl
 | prop v=>exact KZ p i v
 | _=>rfl
theorem XL(i:Nat)(l:List Pend)(p:Nod)(a:List Let):(nn i l p a).1.ub=p.ub:=by
 induction l generalizing p a with
 | nil=>rfl
 | cons q l ih=>exact(ih _ _).trans (dV p i q)
theorem WH(p:Nod)(c:Cmd):(p.gC c).ub=p.ub:=by unfold Nod.gC;split<;>rfl
theorem gv(i:Nat)(l:List Cmd)(p:Nod)(a:List Tol):(qD i l p a).1.ub=p.ub:=by
 induction l generalizing p a with
 | nil=>rfl
 | cons c l ih =>
  rw[qD];split
  .rfl
  .exact(ih _ _).trans (WH _ _)
theorem bD(p:Nod)(i:Nat):(p.hZ i).1.ub=p.ub:=by
 unfold Nod.hZ;split
 .rfl
 .split
  .exact Le _ _
  .rfl
theorem Td(p:Nod):p.cn.ub=p.ub:=by
 unfold Nod.cn;split
 .rfl
 .split
  .rfl
  .split
   .rfl
   .exact UE p _
theorem az(p:Nod)(i:Nat)(a:List Let):(p.ni i a).1.ub=p.ub:=by
 unfold Nod.ni;split
 .rfl
 .rw[XL];unfold Nod.qA;split<;>rfl
theorem WC(p:Nod)(i:Nat)(a:List Let):(p.bw i a).1.ub=p.ub:=by unfold Nod.bw;split<;>rfl
theorem Zi(p:Nod)(i:Nat)(a:List Let)(b:List Tol):(p.piece i a b).1.ub=p.ub:=by
 unfold Nod.piece;simp only;rw[WC,az,Td,bD,gv]
theorem Ue(p:Nod)(i:Nat):(p.lead i).ub=p.ub:=by
 unfold Nod.lead;simp only;split
 .rfl
 .exact LI p _
theorem TJ(M:Meet)(l:Let)(j:Nat):((M.mv l).ab j).ub=(M.ab j).ub:=by
 unfold Meet.mv;split
 .show(upN M.ab l.dst _ j).ub=_;unfold upN;split
  .rename_i h;rw[h];exact Po _ _
  .rfl
 .rfl
theorem X3(l:List Let)(M:Meet)(j:Nat):((l.foldl (λM l=>M.mv l) M).ab j).ub=(M.ab j).ub:=by
 induction l generalizing M with
 | nil=>rfl
 | cons x l ih=>exact(ih _).trans (TJ M x j)
theorem di(M:Meet)(k:Int)(a:Nat)(j:Nat):((M.move k a).ab j).ub=(M.ab j).ub:=by
 unfold Meet.move;split
 .rfl
 .simp only;split
  .rw[TJ];split<;>rfl
  .split<;>rfl
theorem ID(M:Meet)(i:Nat)(p:Nod)(a:List Let)(b:List Tol)(j:Nat):(M.set i p a b).ab j=if j=i then p else M.ab j:=rfl
theorem fQ(M:Meet){x:Lac}(f:x.k≠1)(g:x.k≠8)(h:x.k≠9)(j:Nat):((M.act x).ab j).ub=(M.ab j).ub:=by
 unfold Meet.act;simp only;rw[if_neg f];by_cases a:x.k=2
 .rw[if_pos a,ID];split
  .rename_i e
   rw[e];split
   .exact Ue _ _
   .rfl
  .rfl
 .rw[if_neg a];by_cases b:x.k=3
  .rw[if_pos b,ID];split
   .rename_i e
    rw[e];split
    .exact Zi _ _ _ _
    .rfl
   .rfl
  .rw[if_neg b];by_cases c:x.k=4\/x.k=5\/x.k=6
   .rw[if_pos c];exact di _ _ _ _
   .rw[if_neg c];by_cases d:x.k=7
    .rw[if_pos d];exact X3 _ _ _
    .rw[if_neg d,if_neg g,if_neg h]
theorem iP(M:Meet){x:Lac}(h:x.k=1)(j:Nat):((M.act x).ab j).ub=if j=x.n.toNat/\(M.ab j).up=true/\opE x.d ((M.ab j).done:Int)≠0 then((M.ab j).up,(M.ab j).bad+1)else(M.ab j).ub:=by
 unfold Meet.act;simp only;rw[if_pos h,ID];by_cases f:j=x.n.toNat
 .subst f;rw[if_pos rfl];unfold Nod.qM Nod.qP;by_cases b:(M.ab x.n.toNat).up=false
  .rw[if_pos b,if_neg (by rw[b];simp)]
  .rw[if_neg b];have g:(M.ab x.n.toNat).up=true:=by simpa using b
   by_cases a:opE x.d ((M.ab x.n.toNat).done:Int)≠0
   .rw[if_pos a,if_pos ⟨rfl,g,a⟩];rfl
   .rw[if_neg a,if_neg (c:=_/\_) (λe=>a e.2.2)];split
    .rfl
    .show(Nod.want _ _).ub=_;unfold Nod.want;split<;>rfl
 .rw[if_neg f,if_neg (λe=>f e.1)]
theorem AB(M:Meet)(L:List Lac)(x:Lac):M.dc (L++[x])=(M.dc L).act x:=by unfold Meet.dc;rw[oM];rfl
theorem UO{L:List Lac}(h:L[i]?=some x):M.dc (L.take (i+1))=(M.dc (L.take i)).act x:=by rw[oh,h];exact AB M (L.take i) x
theorem Ih(L:List Lac)(h:∀ x∈L,LacOk x)(d:L.length<=100000):MOk L.length (Ao.dc L):=by
 suffices ∀ i,i<=L.length->MOk i (Ao.dc (L.take i))by have a:=this L.length (A' _);rwa [nD]at a
 intro i;induction i with
 | zero=>intro _;exact MOk.zero
 | succ i ih =>
  intro c;have b:L[i]?=some L[i]:=G' (by omega);rw[UO b];exact(ih (by omega)).act (by omega) (h _ (mM _))
theorem cC(g:Gr)(b:Bool):LacOk (MI g b):=by
 have d:=Be g.a 5 (by omega);have e:=Be g.c 20 (by omega);have f:=Be g.c 90 (by omega);have h:(pkB g).length<=63:=by
  have:(pkP g).length=63:=LC (Zj g);unfold pkB;split
  .rw[X'];omega
  .omega
 rw[<- Dp];unfold MI acN
 repeat' split
 all_goals simp[Y1,FP,Ha,Hb];try omega
theorem QM{P:Lac->Prop}(b:P (acN 7 0)){a:Bool}(c:∀ g,P (MI g a))(s:Nat)(l:List Gr):∀ x∈LV a s l,P x:=by
 induction l generalizing s with
 | nil=>intro x hx;cases hx
 | cons g l ih =>
  intro x hx;rcases mn.1 hx with rfl|hx
  .unfold Wj;split
   .exact b
   .exact c g
  .exact ih _ x hx
theorem iI(l:List Gr)(m:Nat)(a:Bool):∀ x∈scr l m a,LacOk x:=QM (by rw[<- Dp];decide) (λg=>cC g a) _ _
theorem ZF(a:Bool)(s:Nat)(l:List Gr):(LV a s l).length=l.length:=by
 induction l generalizing s with
 | nil=>rfl
 | cons g l ih=>rw[LV,mE,ih,mE]
theorem ec(l:List Gr)(m:Nat)(a:Bool):(scr l m a).length<=m:=by unfold scr;rw[ZF,X'];omega
theorem ZG(l:List Gr)(m:Nat):∀ x∈scr l m false,x.k≠8/\x.k≠9:=QM (P:=λx=>x.k≠8/\x.k≠9) (by decide) (λg=>by
 unfold MI acN
 repeat' split
 all_goals simp_all) _ _
def Nod.tp(p:Nod):Prop:=AP p.d p.sy
theorem UK{d:List Int}{s:Int}{may:Prop}[Decidable may]{b:List Int}(h:CD d s may b=0):AP (FQ d s may b) (GB d s may b):=by
 obtain⟨a,c,_⟩:=J8 h;unfold FQ GB;rw[if_pos h,if_pos h];unfold AP at *;rw[H',Bg];omega
theorem LH(h:p.tp)(b:Bal):(p.au b).1.tp:=by
 unfold Nod.au;split
 .exact h
 .split
  .exact h
  .split
   .exact h
   .rename_i hw;exact UK (mg.1 hw)
theorem Pv(h:p.tp)(v:Vt):(p.cl v).1.tp:=by
 unfold Nod.cl;split
 .exact h
 .split
  .exact h
  .split
   .exact h
   .rename_i hw;exact UK (mg.1 hw)
theorem NV(h:p.tp)(to:Nat)(e:Int):(p.ed to e).tp:=by unfold Nod.ed;split<;>exact h
theorem X4(h:p.tp)(j:Nat)(v:Vt):(p.count j v).tp:=by
 unfold Nod.count;split
 .exact h
 .split<;>exact h
theorem RQ(h:p.tp)(l:List Cmd):(p.dT l).tp:=by unfold Nod.dT;split<;>exact h
theorem EW(h:p.tp){k:Int}(c:0<=k):(p.kc k).tp/\(p.kc k).up=false/\(p.kc k).done=0/\(p.kc k).ae=[]:=by
 have a:Gd p.d p.sy k=0:=by unfold Gd;rw[if_neg (λe=>e h),if_neg (by omega)]
 unfold Nod.kc;rw[if_neg (λe=>e a)];refine⟨?_,rfl,rfl,rfl⟩;show AP (Kf p.d p.sy k) (Kg p.d p.sy k);unfold Kf Kg;rw[if_pos a,if_pos a];unfold Nod.tp AP at h;have b:0<=Ge p.d p.sy k/\Ge p.d p.sy k<=(p.d.length:Int):=by unfold Ge;split<;>omega
 unfold AP;rw[X'];omega
theorem Fj(h:p.tp):p.start.tp/\p.start.up=true/\p.start.done=0/\p.start.ae=[]:=by
 have b:CY p.d p.sy=0:=if_pos h;have c:=Yu p.d p.d.length;unfold Nod.start;rw[if_neg (λe=>e b)];split
 .refine⟨?_,rfl,rfl,rfl⟩;show AP (Jq p.d p.sy) (LR p.d p.sy);unfold Jq LR;have a:AP p.d p.sy:=h;rw[if_pos a,if_pos a];unfold Nod.tp AP at h;unfold AP;rw[X'];unfold DY;split<;>omega
 .exact⟨h,rfl,rfl,rfl⟩
theorem iW(A:Alw)(i:Nat):NInv A i (λ_=>True) (λ_=>True) Nod.tp where
 take:=λ_ p l h _ _ _=>by
  unfold Nod.take;split
  .split
   .exact NV h _ _
   .exact LH h l.fv
  .simp only;split<;>exact h
  .exact h
  .split
   .exact NV h _ _
   .exact Pv h l.cl
  .exact X4 h _ _
  .split<;>exact h
  .simp only;split<;>exact RQ h l.fa
  .exact h
 one:=λp c h _ _ _=>by unfold Nod.gC;split<;>exact h
 ask:=λp h _=>⟨by
  unfold Nod.hZ;split
  .exact h
  .split
   .unfold Nod.dT;split<;>exact h
   .exact h,λ_ _=>trivial⟩
 prop:=λp h _=>by
  unfold Nod.cn;split
  .exact h
  .split
   .exact h
   .split
    .exact h
    .exact Pv h _
 qA:=λp h _=>by
  unfold Nod.qA;split
  .show AP (GY p.d p.sy) (Ic p.d p.sy);unfold GY Ic;have b:AP p.d p.sy:=h;rw[if_pos b,if_pos b];unfold Nod.tp AP at h;unfold AP;omega
  .exact h
 run:=λp q l h _ _ _=>⟨by
  have a:=D4 p i q;show AP (p.ln i q).d (p.ln i q).sy;rw[a.2.2.1,a.2.2.2];exact h,λ_ _=>trivial⟩
 qx:=λp h _ _=>⟨h,λ_ _=>trivial⟩
 lead:=λ_ p h _=>by
  unfold Nod.lead;simp only;split
  .exact h
  .exact LH h _
 sub:=λp d e h _ _=>by
  unfold Nod.qM Nod.qP;split
  .exact h
  .split
   .exact h
   .split
    .exact h
    .show(Nod.want _ _).tp;unfold Nod.want;split<;>exact h
 kc:=λ_ p k h a _=>(EW h a).1
 start:=λ_ p h _=>(Fj h).1
def jl:Alw:=⟨true,true,true,true⟩
theorem bv(x:Lac):jl.Ok x:=⟨λ_=>rfl,λ_=>rfl,λ_=>rfl,λ_=>rfl⟩
theorem Oz(L:List Lac)(h:∀ x∈L,LacOk x)(c:L.length<=100000){i:Nat}(a:i<5):((Ao.dc L).ab i).tp :=
 (GInv.dc (R:=λ_=>True) (D:=λ_ _=>True) (Q:=λ_=>True) (P:=λ_=>Nod.tp) (λi _=>iW jl i) (λi _=>TInv.all i _ _) L MOk.zero (by omega) ⟨λ_ _=>(by show AP [] 0;decide),λ_ _=>trivial⟩ trivial λx b=>⟨h x b,bv x,λ_=>trivial⟩).1.ab i a
theorem UM(M:Meet){i:Nat}(b:i<5)(a:(M.ab i).tp)(j:Nat):((M.act (acN 9 (i:Int))).ab j).up=if j=i then true else(M.ab j).up:=by
 show(upN M.ab (i:Int).toNat _ j).up=_;unfold upN;rw[mW];split
 .split
  .assumption
  .exact(Fj a).2.1
 .rfl
theorem WW(M:Meet){x:Lac}(c:x.k≠8){j:Nat}(a:(M.ab j).up=true):((M.act x).ab j).up=true:=by
 by_cases b:x.k=1
 .have:=congrArg Prod.fst (iP M b j);split at this
  .exact this.trans a
  .exact this.trans a
 .by_cases h9:x.k=9
  .unfold Meet.act;simp only;rw[if_neg b,if_neg (by omega),if_neg (by omega),if_neg (by omega),if_neg (by omega),if_neg (by omega),if_pos h9,ID];split
   .rename_i e;rw[<- e,if_pos a];exact a
   .exact a
  .exact(congrArg Prod.fst (fQ M b c h9 j)).trans a
theorem bj(L:List Lac)(a:∀ x∈L,x.k≠8)(M:Meet){j:Nat}(b:(M.ab j).up=true):((M.dc L).ab j).up=true:=by
 induction L generalizing M with
 | nil=>exact b
 | cons x L ih=>exact ih (λy c=>a y (I' _ c)) _ (WW M (a x M') b)
theorem AC(M:Meet)(L K:List Lac):M.dc (L++K)=(M.dc L).dc K:=oM
theorem Ef{n:Int}(h:(k=2\/k=3\/k=9)/\0<=n/\n<=4):LacOk (acN k n):=by
 rw[<- Dp];rcases h with⟨rfl|rfl|rfl,h1,h2⟩<;>simp[Y1,acN,FP,Ha,Hb]<;>omega
theorem Lw{P:Lac->Prop}(h:∀ n:Nat,n<5->P (acN k (n:Int))){j:Nat}(c:j<=5):∀ x∈Aw k j,P x:=by
 intro x b;obtain⟨n,a,rfl⟩:=mA.1 b;exact h n (by have:=nW.1 a;omega)
theorem Lg{P:Lac->Prop}(b:∀ n:Nat,n<5->P (acN 3 (n:Int)))(c:P (acN 7 0))(m:Nat):∀ x∈Af m,P x:=by
 induction m with
 | zero=>intro x a;cases a
 | succ m ih =>
  intro x a;rcases P'.1 a with h|h
  .exact ih x h
  .rcases P'.1 h with h|h
   .exact Lw b (A' _) x h
   .rw[D'.1 h];exact c
theorem LU{P:Lac->Prop}(c:∀ n:Nat,n<5->P (acN 9 (n:Int)))(a:∀ n:Nat,n<5->P (acN 3 (n:Int)))(b:P (acN 7 0))(m:Nat):∀ x∈Dk m,P x:=by
 intro x d;rcases P'.1 d with h|h
 .exact Lw c (A' _) x h
 .exact Lg a b m x h
theorem KE(m:Nat):∀ x∈Dk m,LacOk x:=LU (λn a=>Ef ⟨.inr (.inr rfl),by omega,by omega⟩) (λn a=>Ef ⟨.inr (.inl rfl),by omega,by omega⟩) (by rw[<- Dp];decide) m
theorem iE(L:List Lac)(h:∀ x∈L,LacOk x)(m:Nat)(o:L.length+6*m+5<=100000){j:Nat}(b:j<5):((Ao.dc (L++Dk m)).ab j).up=true:=by
 unfold Dk;rw[<- mf,AC];refine bj _ (Lg (λ_ _=>by show(3:Int)≠8;decide) (by decide) m) _ ?_;have d:∀ k,k<=5->j<k->((Ao.dc (L++Aw 9 k)).ab j).up=true:=by
  intro k;induction k with
  | zero=>intro _ h;omega
  | succ k ih =>
   intro l c;have a:∀ x∈L++Aw 9 k,LacOk x:=λx g=>(P'.1 g).elim (h x) λe=>Lw (λn p=>Ef ⟨.inr (.inr rfl),by omega,by omega⟩) (by omega) x e;have f:=Oz (L++Aw 9 k) a (by rw[H',Y0];omega) (i:=k) (by omega);rw[BE,<- mf,AB,UM _ (by omega) f];split
   .rfl
   .exact ih (by omega) (by omega)
 exact d 5 (A' _) b
theorem QN{P:Lac->Prop}(c:∀ n:Nat,n<5->P (acN 9 (n:Int)))(a:∀ n:Nat,n<5->P (acN 3 (n:Int)))(b:P (acN 7 0)){i:Int}(e:P (acN 2 i))(l:List Lac):∀ x∈GX l i,P x:=by
 have d:∀ m,∀ x∈Ct m i,P x:=λm x hx=>by
  rcases P'.1 hx with hx|hx
  .rcases P'.1 hx with hx|hx
   .exact LU c a b 0 x hx
   .rw[D'.1 hx];exact e
  .exact LU c a b m x hx
 intro x hx;exact(P'.1 hx).elim (d _ x) (d _ x)
theorem ZN(l:List Lac)(i:Int):(GX l i).length<=1222+240*l.length:=by
 have b:(l.filter hvy).length<=l.length:=oK _ _;have a:∀ m,(Dk m).length=5+6*m:=λm=>by unfold Dk;rw[H',F5];rfl
 unfold GX Ct Fb;simp only[H',a,m5];omega
structure Wh where
 d:Nat->List Int->Prop
 ld:Prop
 cr:Prop
 dr:Prop
 tk:Prop
 st:Prop
def Wh.may(D:Wh)(x:Lac):Prop:=(x.k=1->D.d x.n.toNat x.d)/\(x.k=2->D.ld)/\(x.k=8->D.cr)/\(x.k=4\/x.k=5\/x.k=6\/x.k=7->D.dr/\D.tk)/\(x.k=9->D.st)
inductive Stp (D:Wh):Nat->Meet->Meet->Prop
 | take (M:Meet) (l:Let) (hl:l∈M.br) (hd:l.src<5/\l.dst<5) (hu:(M.ab l.dst).up=true) (ht:D.tk):Stp D 0 M (M.set l.dst ((M.ab l.dst).take l) M.br M.eo)
 | br (M:Meet) (ls:List Let) (h:∀ l∈ls,l∈M.br) (hd:D.dr):Stp D 0 M { M with br:=ls }
 | one (M:Meet) (i:Nat) (c:Cmd) (hi:i<5) (hu:(M.ab i).up=true) (hc:(M.ab i).ae[(M.ab i).done]?=some c) (he:doE (M.ab i).lr c=0) :
   Stp D 0 M (M.set i (Nod.gC { M.ab i with lr:=doS (M.ab i).lr c,done:=(M.ab i).done+1 } c) M.br (if((M.ab i).bN c).isSome=true then M.eo++[⟨i,c.c,c.s,doC (M.ab i).lr c,doA (M.ab i).lr c⟩]else M.eo))
 | ask (M:Meet) (i:Nat) (hi:i<5) (hu:(M.ab i).up=true):Stp D 0 M (M.set i ((M.ab i).hZ i).1 (M.br++((M.ab i).hZ i).2) M.eo)
 | prop (M:Meet) (i:Nat) (hi:i<5) (hu:(M.ab i).up=true):Stp D 1 M (M.set i (M.ab i).cn M.br M.eo)
 | qA (M:Meet) (i:Nat) (hi:i<5) (hu:(M.ab i).up=true) (h:(M.ab i).sy<((M.ab i).d.length:Int)) (hT:AP (M.ab i).d (M.ab i).sy):Stp D 0 M (M.set i { M.ab i with sy:=((M.ab i).d.length:Int) } M.br M.eo)
 | run (M:Meet) (i:Nat) (hi:i<5) (hu:(M.ab i).up=true) (q:Pend) (l:List Pend) (hp:(M.ab i).bu=q::l) (hs:¬ (M.ab i).sy<((M.ab i).d.length:Int)):Stp D 0 M (M.set i { (M.ab i).ln i q with bu:=l } (M.br++(M.ab i).qt i q) M.eo)
 | qx (M:Meet) (i:Nat) (hi:i<5) (hu:(M.ab i).up=true) (hL:(M.ab i).leads=true):Stp D 0 M (M.set i (Eu (M.ab i) i 5) (M.br++Dl (M.ab i) i 5) M.eo)
 | lead (M:Meet) (i:Nat) (hi:i<5) (hu:(M.ab i).up=true) (hL:D.ld):Stp D 0 M (M.set i ((M.ab i).lead i) M.br M.eo)
 | sub (M:Meet) (i:Nat) (d:List Int) (hi:i<5) (hu:(M.ab i).up=true) (hD:D.d i d):Stp D 0 M (M.set i ((M.ab i).qM i d M.eo).1 M.br ((M.ab i).qM i d M.eo).2)
 | kc (M:Meet) (i:Nat) (k:Int) (hi:i<5) (hu:(M.ab i).up=true) (hk:0<=k) (hC:D.cr):Stp D 0 M (M.set i ((M.ab i).kc k) M.br M.eo)
 | start (M:Meet) (i:Nat) (hi:i<5) (hu:(M.ab i).up=false) (hs:D.st):Stp D 0 M (M.set i (M.ab i).start M.br M.eo)
inductive Sts (D:Wh):Nat->Meet->Meet->Prop
 | nil (n:Nat) (M:Meet):Sts D n M M
 | snoc {n c m:Nat} {M N K:Meet} (h:Sts D n M N) (s:Stp D c N K) (hm:n+c<=m):Sts D m M K
end
section
variable{D:Wh}
section
variable{K M N:Meet}{i m n:Nat}{α:Type}
theorem Sts.mono(h:Sts D n M N)(a:n<=m):Sts D m M N:=by
 cases h with
 | nil=>exact .nil m M
 | snoc h s hm=>exact .snoc h s (by omega)
theorem Sts.trans(h:Sts D n M N)(k:Sts D m N K):Sts D (n+m) M K:=by
 induction k with
 | nil=>exact h.mono (by omega)
 | snoc _ s hm ih=>exact(ih h).snoc s (by omega)
theorem Sts.s0(h:Sts D n M N)(s:Stp D 0 N K):Sts D n M K:=h.snoc s (A' _)
theorem Stp.s(h:Stp D 0 M N):Sts D n M N:=(Sts.nil n M).s0 h
theorem Sts.inv{I:Meet->Prop}(b:∀ c M N,Stp D c M N->I M->I N){n:Nat}{M N:Meet}(h:Sts D n M N)(a:I M):I N:=by
 induction h with
 | nil=>exact a
 | snoc _ s _ ih=>exact b _ _ _ s (ih a)
theorem Mo(f:Nat->α)(i:Nat):upN f i (f i)=f:=by funext j;unfold upN;split<;>simp_all
theorem U9(f:Nat->α)(i:Nat)(x y:α):upN (upN f i x) i y=upN f i y:=by funext j;unfold upN;split<;>rfl
theorem Cc(M:Meet)(i:Nat)(p q:Nod)(c a:List Let)(d b:List Tol):(M.set i p c d).set i q a b=M.set i q a b:=by unfold Meet.set;simp only[U9]
theorem Bu(M:Meet)(i:Nat)(p:Nod)(a:List Let)(b:List Tol):(M.set i p a b).ab i=p:=Da M.ab i p
theorem DZ(M:Meet)(l:Let):(M.mv l).br=M.br:=by unfold Meet.mv;split<;>rfl
theorem Nq(M:Meet)(l:Let)(a:List Let):({ M with br:=a }:Meet).mv l={ M.mv l with br:=a }:=by
 unfold Meet.mv;show(if(M.ab l.dst).up=true then _ else _)=_;split<;>rfl
theorem Hq(l:List Let)(M:Meet)(a:List Let):l.foldl (λM l=>M.mv l) ({ M with br:=a }:Meet)={ l.foldl (λM l=>M.mv l) M with br:=a }:=by
 induction l generalizing M with
 | nil=>rfl
 | cons x l ih=>rw[qi,Nq,ih];rfl
theorem Sts.mv(c:D.tk){n:Nat}{M N:Meet}(h:Sts D n M N){l:Let}(b:l∈N.br)(a:l.src<5/\l.dst<5):Sts D n M (N.mv l):=by
 unfold Meet.mv;split
 .rename_i hu;exact h.s0 (.take N l b a hu c)
 .exact h
theorem Sts.comes(c:D.tk)(l:List Let){n:Nat}{M N:Meet}(h:Sts D n M N)(a:∀ m∈l,m∈N.br/\m.src<5/\m.dst<5):Sts D n M (l.foldl (λM l=>M.mv l) N):=by
 induction l generalizing N with
 | nil=>exact h
 | cons x l ih=>exact ih (h.mv c (a x M').1 (a x M').2) λm b=>by rw[DZ];exact a m (I' _ b)
theorem Sts.qD(k:i<5)(l:List Cmd)(p:Nod){M:Meet}{d:List Let}{a:List Tol}(h:Sts D n M (M.set i p d a))(b:p.up=true)(g:p.ae.drop p.done=l) :
  Sts D n M (M.set i (qD i l p a).1 d (Go.Proofs.YtgbabbapcibnlabGreatDoor.qD i l p a).2)/\(Go.Proofs.YtgbabbapcibnlabGreatDoor.qD i l p a).1.up=true:=by
 induction l generalizing p a with
 | nil=>exact⟨h,b⟩
 | cons c l ih =>
  rw[Go.Proofs.YtgbabbapcibnlabGreatDoor.qD];split
  .exact⟨h,b⟩
  .rename_i he
   have j:p.ae[p.done]?=some c:=by have:=congrArg (·[0]?) g;simpa using this
   have f:=DL { p with lr:=doS p.lr c,done:=p.done+1 } c;have e:=Bu M i p d a;have s:=Stp.one (D:=D) (M.set i p d a) i c k (by rw[e];exact b) (by rw[e];exact j) (by rw[e];exact mg.1 he);rw[e,Cc]at s
   refine ih _ (h.s0 s) (f.1.trans b) ?_;rw[f.2.1,f.2.2.1];show p.ae.drop (p.done+1)=l;rw[<- oD,g];rfl
theorem Sts.nn(g:i<5)(l:List Pend)(p:Nod){M:Meet}{ls:List Let}{ts:List Tol}(h:Sts D n M (M.set i { p with bu:=l } ls ts))(b:p.up=true)(f:p.bu=[])(c:¬ p.sy<(p.d.length:Int)) :
  Sts D n M (M.set i (nn i l p ls).1 (Go.Proofs.YtgbabbapcibnlabGreatDoor.nn i l p ls).2 ts)/\(Go.Proofs.YtgbabbapcibnlabGreatDoor.nn i l p ls).1.up=true:=by
 induction l generalizing p ls with
 | nil =>
  have:({ p with bu:=[] }:Nod)=p:=by cases p;simp_all
  rw[this]at h;exact⟨h,b⟩
 | cons q l ih =>
  have a:=D4 p i q;have e:=Bu M i { p with bu:=q::l } ls ts;have s:=Stp.run (D:=D) (M.set i { p with bu:=q::l } ls ts) i g (by rw[e];exact b) q l (by rw[e]) (by rw[e];exact c);rw[e,Cc,Oc,LX]at s
  exact ih (p.ln i q) (h.s0 s) (a.2.1.trans b) (a.1.trans f) (by rw[a.2.2.1,a.2.2.2];exact c)
theorem Sts.piece(c:i<5)(M:Meet)(x:(M.ab i).up=true):Sts D 1 M (M.set i ((M.ab i).piece i M.br M.eo).1 ((M.ab i).piece i M.br M.eo).2.1 ((M.ab i).piece i M.br M.eo).2.2):=by
 have w:Sts D 0 M (M.set i (M.ab i) M.br M.eo):=by rw[show M.set i (M.ab i) M.br M.eo=M by unfold Meet.set;rw[Mo]];exact .nil 0 M
 obtain⟨q,l⟩:=Sts.qD c _ (M.ab i) w x rfl;unfold Nod.piece;simp only;generalize Go.Proofs.YtgbabbapcibnlabGreatDoor.qD i ((M.ab i).ae.drop (M.ab i).done) (M.ab i) M.eo=a at q l ⊢;have e:=Bu M i a.1 M.br a.2;have s:=Stp.ask (D:=D) (M.set i a.1 M.br a.2) i c (by rw[e];exact l);rw[e,Cc]at s
 have t:=q.s0 s;have n:=(Ii a.1 i).trans l;clear e s q;generalize (a.1.hZ i)=b at t n ⊢;have e:=Bu M i b.1 (M.br++b.2) a.2;have s:=Stp.prop (D:=D) (M.set i b.1 (M.br++b.2) a.2) i c (by rw[e];exact n);rw[e,Cc]at s
 have g:=t.snoc s (m:=1) (by omega);have h:=(Ep b.1).trans n;clear e s t;change Sts D 1 M (M.set i b.1.cn (M.br++b.2) a.2)at g;generalize b.1.cn=r at g h ⊢;generalize M.br++b.2=k at g ⊢;have j:Sts D 1 M (M.set i (r.ni i k).1 (r.ni i k).2 a.2)/\(r.ni i k).1.up=true:=by
  unfold Nod.ni;split
  .exact⟨g,h⟩
  .rename_i hn
   have e:=Bu M i r k a.2;unfold Nod.qA;split
   .rename_i h1
    have o:CY r.d r.sy=0:=mg.1 λe=>hn ⟨h1,e⟩;have p:AP r.d r.sy:=by
     unfold CY at o;split at o
     .assumption
     .cases o
    have s:=Stp.qA (D:=D) (M.set i r k a.2) i c (by rw[e];exact h) (by rw[e];exact h1) (by rw[e];exact p);rw[e,Cc]at s
    have u:GY r.d r.sy=r.d:=if_pos p;have v:Ic r.d r.sy=(r.d.length:Int):=if_pos p;rw[u,v];exact Sts.nn c r.bu { r with sy:=(r.d.length:Int),bu:=[] } (g.s0 s) h rfl (pV _)
   .rename_i h1
    exact Sts.nn c r.bu { r with bu:=[] } g h rfl h1
 generalize r.ni i k=f at j ⊢;unfold Nod.bw;split
 .rename_i hL
  have e:=Bu M i f.1 f.2 a.2;have s:=Stp.qx (D:=D) (M.set i f.1 f.2 a.2) i c (by rw[e];exact j.2) (by rw[e];exact hL);rw[e,Cc]at s
  exact j.1.s0 s
 .exact j.1
theorem EC(M:Meet)(i:Nat):M.set i (M.ab i) M.br M.eo=M:=by unfold Meet.set;rw[Mo]
theorem Oy(g:MOk n M){x:Lac}(v:LacOk x)(j:D.may x):Sts D 1 M (M.act x):=by
 obtain⟨j,y,z,i,A⟩:=j;have b:∀ {k:Int},x.k=k->FP k=true->x.n.toNat<5:=λ{k} e w=>by have:=v.n (by rw[e];exact w);omega
 unfold Meet.act;simp only;split
 .rename_i h1
  by_cases c:(M.ab x.n.toNat).up=true
  .exact(Stp.sub M _ x.d (b h1 rfl) c (j h1)).s
  .unfold Nod.qM Nod.qP;rw[if_pos (by simpa using c)];rw[EC];exact .nil 1 M
 .split
  .rename_i hk
   split
   .rename_i c;exact(Stp.lead M _ (b hk rfl) c (y hk)).s
   .rw[EC];exact .nil 1 M
  .split
   .rename_i h3
    by_cases c:(M.ab x.n.toNat).up=true
    .rw[if_pos c,if_pos c,if_pos c];exact Sts.piece (b h3 rfl) M c
    .rw[if_neg c,if_neg c,if_neg c,EC];exact .nil 1 M
   .split
    .rename_i hk4
     obtain⟨o,r⟩:=i (by omega);unfold Meet.move;split
     .exact .nil 1 M
     .rename_i l q
      have f:=mG q;have B:=And.intro (g.br l f).src (g.br l f).dst;have u:∀ N:Meet,Sts D 1 M N->N.br=M.br->Sts D 1 M (if x.k≠6 then{ N with br:=M.br.eraseIdx (x.a.toNat%M.br.length) }else N):=λN h e=>by
       split
       .exact h.s0 (.br N _ (λm f=>by rw[e];exact oU f) o)
       .exact h
      simp only;split
      .have:=u (M.mv l) ((Sts.nil 1 M).mv r f B) (DZ M l);by_cases t:x.k≠6
       .rw[if_pos t]at this ⊢;rw[Nq];exact this
       .rw[if_neg t]at this ⊢;exact this
      .exact u M (.nil 1 M) rfl
    .split
     .rename_i hk7
      unfold Meet.qz;rw[Hq];exact(Sts.comes (i (by omega)).2 M.br (.nil 1 M) λm f=>⟨f,(g.br m f).src,(g.br m f).dst⟩).s0 (.br _ [] (λl q=>by cases q) (i (by omega)).1)
     .split
      .rename_i hk
       split
       .rename_i c;exact(Stp.kc M _ x.p (b hk rfl) c (v.p (by rw[hk];rfl)).1 (z hk)).s
       .rw[EC];exact .nil 1 M
      .split
       .rename_i h9
        split
        .rw[EC];exact .nil 1 M
        .rename_i c;exact(Stp.start M _ (b h9 rfl) (by simpa using c) (A h9)).s
       .exact .nil 1 M
theorem ES(L:List Lac){n:Nat}{M:Meet}(b:MOk n M)(d:n+L.length<=1000000)(c:∀ x∈L,LacOk x/\D.may x):Sts D L.length M (M.dc L):=by
 induction L generalizing n M with
 | nil=>exact .nil _ M
 | cons x L ih =>
  have a:=c x M';rw[mE]at d
  rw[mE,Nat.add_comm];exact(Oy b a.1 a.2).trans (ih (b.act (by omega) a.1) (by omega) λy e=>c y (I' _ e))
end
end
section
def whT:Wh:=⟨λ_ _=>True,True,True,True,True,True⟩
theorem IQ(x:Lac):whT.may x:=⟨λ_=>trivial,λ_=>trivial,λ_=>trivial,λ_=>⟨trivial,trivial⟩,λ_=>trivial⟩
inductive Rk where
 | pr (b:Bal)
 | vt (v:Vt)
def Rk.body:Rk->List Int
 | .pr b=>Br b
 | .vt v=>Bi v
def Rk.ap(a:Acc):Rk->Acc
 | .pr b=>⟨b,a.vs⟩
 | .vt v=>⟨v.b,Bn a.vs v⟩
def Rk.err(a:Acc):Rk->Int
 | .pr b=>Ce a b
 | .vt v=>AX a v
def Rk.ok(a:Acc):Rk->Prop
 | .pr b=>Ce a b=0/\a.p≠b
 | .vt v=>AX a v=0/\v∉a.vs
variable{D:Wh}{K R:Int}{M N:Meet}{a:Acc}{b:Bal}{dr qs rs rs':List Rk}{i j n:Nat}{l:List Cmd}{p:Nod}{q:Pend}{r:Rk}{v:Vt}{vs:List Vt}
theorem Rk.ok.err(h:Rk.ok a r):Rk.err a r=0:=by cases r<;>exact h.1
def B1(rs:List Rk):Acc:=rs.foldl Rk.ap a0
theorem BS(a:List Rk)(r:Rk):B1 (a++[r])=Rk.ap (B1 a) r:=by unfold B1;rw[oM];rfl
def AO(rs:List Rk):Prop:=∀ i r,rs[i]?=some r->Rk.ok (B1 (rs.take i)) r
theorem AO.nil:AO []:=λi r h=>by simp at h
theorem AO.left(h:AO (rs++qs)):AO rs:=λi r e=>by
 have a:=(V'.1 e).1;have:=h i r (by rw[mt a];exact e)
 rwa [mK (by omega)]at this
theorem AO.pre(h:AO qs)(a:rs <+: qs):AO rs:=by obtain⟨x,rfl⟩:=a;exact h.left
theorem AO.snoc(h:AO rs)(a:Rk.ok (B1 rs) r):AO (rs++[r]):=λi q e=>by
 rcases mY i rs.length with hi|hi
 .rw[mt hi]at e
  rw[mK (by omega)];exact h i q e
 .have:=(V'.1 e).1;rw[H',m5]at this
  obtain rfl:i=rs.length:=by omega
  rw[mx (A' _)]at e
  simp at e;subst e;rw[mK (A' _),nD];exact a
theorem AO.last(h:AO (rs++[r])):Rk.ok (B1 rs) r:=by
 have:=h rs.length r (by simp)
 rwa [mK (A' _),nD]at this
theorem AO.ind{P:List Rk->Prop}(b:P [])(c:∀ a r,AO a->Rk.ok (B1 a) r->P a->P (a++[r])){a:List Rk}(h:AO a):P a:=by
 have:∀ k,k<=a.length->P (a.take k):=by
  intro k;induction k with
  | zero=>intro _;exact b
  | succ k ih =>
   intro d;have e:a.take (k+1)=a.take k++[a[k]]:=by rw[my (by omega)]
   rw[e];exact c _ _ (h.pre (oB _ _)) (h k _ (G' (by omega))) (ih (by omega))
 have:=this a.length (A' _)
 rwa [nD]at this
theorem Ah.sX(h:Ah a)(c:Ab b)(i:¬ b.lt a.p):Ah ⟨b,a.vs⟩:=by
 refine⟨.inl c,λv d=>⟨(h.2.1 v d).1,λg=>?_⟩,h.2.2⟩;have e:=(h.2.1 v d).1.2.1;have f:=(h.2.1 v d).2;rw[EN c.pr e.pr]at g
 rw[EN h.1 e.pr]at f
 rw[EN c.pr h.1]at i
 omega
theorem Ah.ss(h:Ah a)(d:Ai v)(e:¬ v.b.lt a.p):Ah ⟨v.b,Bn a.vs v⟩:=by
 refine⟨.inl d.2.1,λu c=>?_,Jg v h.2.2⟩;rcases(BB h.2.2).1 c with rfl|⟨c,_⟩
 .refine⟨d,λg=>?_⟩;change u.b.lt u.b at g;unfold Bal.lt at g;omega
 .exact(h.sX d.2.1 e).2.1 u c
theorem K5:Ah a0:=⟨.inr ⟨rfl,rfl⟩,λv a=>(Q' a).elim,trivial⟩
theorem Rk.may(h:Ah a){r:Rk}(c:Rk.err a r=0):Ah (Rk.ap a r):=by
 cases r with
 | pr b=>have:=Ci c;exact h.sX this.2.1 this.2.2
 | vt v=>have:=Aq c;exact h.ss this.2.1 this.2.2
theorem AO.acc(h:AO rs):Ah (B1 rs):=h.ind (P:=λrs=>Ah (B1 rs)) K5 λrs r _ a b=>by rw[BS];exact Rk.may b a.err
theorem Bo{a:Bal}(c:Ap a)(d:Ap b)(h:¬ a.lt b):b.key<=a.key:=by rw[EN c d]at h;omega
theorem Rk.rK(h:Ah a){r:Rk}(c:Rk.err a r=0):a.p.key<=(Rk.ap a r).p.key:=by
 cases r with
 | pr b=>have:=Ci c;exact Bo this.2.1.pr h.1 this.2.2
 | vt v=>have:=Aq c;exact Bo this.2.1.2.1.pr h.1 this.2.2
theorem IB(h:AO rs):∀ v∈(B1 rs).vs,Rk.vt v∈rs:=h.ind (P:=λrs=>∀ v∈(B1 rs).vs,Rk.vt v∈rs) (λv a=>by cases a) λrs r d e c v a=>by
 rw[BS]at a
 cases r with
 | pr b=>exact mi _ (c v a)
 | vt u =>
  rcases(BB d.acc.2.2).1 a with rfl|⟨a,_⟩
  .exact mh _ M'
  .exact mi _ (c v a)
theorem Ah.le(h:Ah a){v:Vt}(c:v∈a.vs):v.b.key<=a.p.key:=Bo h.1 (h.2.1 v c).1.2.1.pr (h.2.1 v c).2
theorem Lv(h:Ah a){v:Vt}(f:AX a v=0){u:Vt}(c:u∈a.vs):∃ x∈Bn a.vs v,x.bt=u.bt/\u.b.key<=x.b.key:=by
 have d:=Aq f;by_cases e:u.bt=v.bt
 .exact⟨v,(BB h.2.2).2 (.inl rfl),e.symm,mC (h.le c) (Bo d.2.1.2.1.pr h.1 d.2.2)⟩
 .exact⟨u,(BB h.2.2).2 (.inr ⟨c,e⟩),rfl,mc _⟩
theorem QI(h:AO rs):∀ v,Rk.vt v∈rs->v.b.key<=(B1 rs).p.key/\∃ u∈(B1 rs).vs,u.bt=v.bt/\v.b.key<=u.b.key:=h.ind (P:=λrs=>∀ v,Rk.vt v∈rs->v.b.key<=(B1 rs).p.key/\∃ u∈(B1 rs).vs,u.bt=v.bt/\v.b.key<=u.b.key) (λv hv=>by cases hv) λrs r c a e v hv=>by
 have d:=Rk.rK c.acc a.err;rw[BS];rcases P'.1 hv with hv|hv
 .obtain⟨h1,u,h2,h3,h4⟩:=e v hv;refine⟨mC h1 d,?_⟩;cases r with
  | pr b=>exact⟨u,h2,h3,h4⟩
  | vt w =>
   obtain⟨x,f,g,i⟩:=Lv c.acc a.err h2;exact⟨x,f,g.trans h3,mC h4 i⟩
 .rw[<- D'.1 hv]at a ⊢
  exact⟨mc _,v,(BB c.acc.2.2).2 (.inl rfl),rfl,mc _⟩
theorem D3(h:AO (rs++qs)):(B1 rs).p.key<=(B1 (rs++qs)).p.key/\∀ v,Rk.vt v∈qs->(B1 rs).p.key<=v.b.key:=by
 have:∀ k,k<=qs.length->(B1 rs).p.key<=(B1 (rs++qs.take k)).p.key/\∀ v,Rk.vt v∈qs.take k->(B1 rs).p.key<=v.b.key:=by
  intro k;induction k with
  | zero=>intro _;rw[nw,mz];exact⟨mc _,λv hv=>by cases hv⟩
  | succ k ih =>
   intro i;obtain⟨c,g⟩:=ih (by omega);have e:qs.take (k+1)=qs.take k++[qs[k]]:=by rw[my (by omega)]
   have a:AO (rs++qs.take k++[qs[k]]):=h.pre (by rw[mf,<- e];exact List.prefix_append_right_inj rs |>.2 (oB _ _));have d:=Rk.rK a.left.acc a.last.err;rw[<- BS]at d
   rw[e,<- mf];refine⟨mC c d,λv hv=>?_⟩;rcases P'.1 hv with hv|hv
   .exact g v hv
   .have hl:=a.last;rw[<- D'.1 hv]at hl
    have f:=Aq hl.err;exact mC c (Bo f.2.1.2.1.pr a.left.acc.1 f.2.2)
 have:=this qs.length (A' _)
 rwa [nD]at this
def fl(rs:List Rk):List Int:=AG (rs.map Rk.body)
theorem cB(a:List Rk)(r:Rk):fl (a++[r])=fl a++AM r.body:=by unfold fl;rw[mB,C1];simp[AG]
theorem RW(b a:List Rk):fl (b++a)=fl b++fl a:=by unfold fl;rw[mB,C1]
theorem XZ(h:rs <+: qs):(fl rs).length<=(fl qs).length:=by obtain⟨x,rfl⟩:=h;rw[RW,H'];omega
theorem jy(h:rs <+: qs)(a:(fl qs).length<=(fl rs).length):rs=qs:=by
 obtain⟨x,rfl⟩:=h;rw[RW,H']at a
 have:=PV (x.map Rk.body);rw[mw]at this
 unfold fl at a;obtain rfl:x=[]:=Z' (by omega);rw[mz]
theorem AO.sZ(h:AO rs):Chn ((List.range (rs.length+1)).map λj=>B1 (rs.take j)) (rs.map Rk.body):=by
 refine⟨by simp,by simp[B1],λi b a c g f l=>?_⟩;simp only[mV,nE]at g f l;obtain⟨r,e,rfl⟩:=g;obtain⟨j,n,rfl⟩:=f;obtain⟨k,o,rfl⟩:=l;have m:=(V'.1 e).1;rw[nP (by omega)]at n o
 cases n;cases o;have d:=(h i r e).err;have p:rs[i]=r:=by rw[G' m]at e;exact mS e
 rw[my m,BS,p];generalize B1 (rs.take i)=a at d ⊢;cases r with
 | pr b=>show DG a (Br b)=_;rw[XN a (Ci d).2.1];exact if_pos d
 | vt v=>show DG a (Bi v)=_;rw[XO a (Aq d).2.1];exact if_pos d
structure TpU(p:Nod)(dr rs:List Rk):Prop where
 ok:AO rs
 pre:dr <+: rs
 d:p.d=fl rs
 sy:p.sy=((fl dr).length:Int)
 vo:p.vo=B1 rs
 len:p.d.length<=100000
structure TpD(p:Nod)(dr:List Rk):Prop where
 ok:AO dr
 rZ:DY p.d=((fl dr).length,B1 dr)
 tk:p.d.take (fl dr).length=fl dr
 sy:p.sy=(p.d.length:Int)
 len:p.d.length<=100000
theorem TpU.rC(h:TpU p dr rs):AP p.d p.sy:=by
 have:=XZ h.pre;have:=h.d;refine⟨h.len,by rw[h.sy];omega,?_⟩;rw[h.sy,h.d];omega
theorem TpU.zero:TpU CW [] []:=⟨AO.nil,ml _,rfl,rfl,rfl,by decide⟩
theorem TpU.all(h:TpU p dr rs)(a:¬ p.sy<(p.d.length:Int)):dr=rs:=jy h.pre (by rw[h.sy,h.d]at a;omega)
theorem TpU.kc(h:TpU p dr rs){k:Int}(u:0<=k):∃ dr',dr <+: dr'/\dr' <+: rs/\TpD (p.kc k) dr':=by
 have o:=h.rC;have b:Gd p.d p.sy k=0:=by unfold Gd;rw[if_neg (λe=>e o),if_neg (by omega)]
 have f:=o;unfold AP at f;have t:p.sy<=Ge p.d p.sy k/\Ge p.d p.sy k<=(p.d.length:Int):=by unfold Ge;split<;>omega
 obtain⟨j,a,r,l,m,n,h5⟩:=h.ok.sZ.sR (Ge p.d p.sy k).toNat;rw[mw]at r h5
 rw[mV,nP (by omega)]at l
 obtain rfl:B1 (rs.take j)=a:=by simpa using l
 have i:AG ((rs.map Rk.body).take j)=fl (rs.take j):=by unfold fl;rw[pE]
 rw[i]at m n
 have c:(p.kc k).d=(fl rs).take (Ge p.d p.sy k).toNat:=by
  unfold Nod.kc;rw[if_neg (λe=>e b)];show Kf p.d p.sy k=_;unfold Kf;rw[if_pos b,h.d]
 have s:(p.kc k).sy=Ge p.d p.sy k:=by
  unfold Nod.kc;rw[if_neg (λe=>e b)];show Kg p.d p.sy k=_;unfold Kg;rw[if_pos b]
 have q:((fl rs).take (Ge p.d p.sy k).toNat).length=(Ge p.d p.sy k).toNat:=by rw[X',<- h.d];omega
 refine⟨rs.take j,?_,oB _ _,h.ok.pre (oB _ _),by rw[c];exact m,?_,?_,?_⟩
 .obtain⟨x,hx⟩:=h.pre;rcases mY j dr.length with g|g
  .exfalso;rcases h5 with h5|h5
   .rw[<- hx,H']at h5;omega
   .have hp:rs.take (j+1) <+: dr:=by rw[<- hx,mK (by omega)];exact oB _ _
    have:=XZ hp;rw[show AG ((rs.map Rk.body).take (j+1))=fl (rs.take (j+1))by unfold fl;rw[pE]]at h5
    have:=h.sy;omega
  .rw[<- hx,List.take_append];rw[mq g];exact nv _ _
 .rw[c,oE,nm n];have e:fl rs=fl (rs.take j)++fl (rs.drop j):=by rw[<- RW,np]
  rw[show(fl rs).take (fl (rs.take j)).length=(fl (rs.take j)++fl (rs.drop j)).take (fl (rs.take j)).length by rw[<- e],mK (A' _),nD]
 .rw[s,c,q];omega
 .rw[c,q];have:=h.len;omega
theorem TpD.start(h:TpD p dr):TpU p.start dr dr:=by
 have c:AP p.d p.sy:=⟨h.len,by rw[h.sy];omega,by rw[h.sy];omega⟩;have g:CY p.d p.sy=0:=if_pos c;have i:MW p.d p.sy=((fl dr).length:Int):=by unfold MW;rw[if_pos c,h.rZ]
 have j:Gt p.d p.sy=B1 dr:=by unfold Gt;rw[if_pos c,h.rZ]
 have a:=Us p.d;rw[h.rZ]at a
 have a:(fl dr).length<=p.d.length:=a;have f:=h.len;unfold Nod.start;rw[if_neg (λe=>e g),i,j];split
 .rename_i hlt
  have b:Jq p.d p.sy=fl dr:=by unfold Jq;rw[if_pos c,h.rZ];exact h.tk
  have k:LR p.d p.sy=((fl dr).length:Int):=by unfold LR;rw[if_pos c,h.rZ];exact if_pos (by rw[h.sy];exact hlt)
  exact⟨h.ok,ml _,b,k,rfl,by show(Jq p.d p.sy).length<=_;rw[b];omega⟩
 .rename_i hge
  have b:p.d=fl dr:=by have:=h.tk;rwa [mq (by omega)]at this
  exact⟨h.ok,ml _,b,by show p.sy=_;rw[h.sy,<- b],rfl,f⟩
theorem TpU.qA(h:TpU p dr rs):TpU { p with sy:=(p.d.length:Int) } rs rs:=⟨h.ok,ml _,h.d,by show(p.d.length:Int)=_;rw[h.d],h.vo,h.len⟩
def Nod.tv(p:Nod)(d:List Int)(s:Int)(a:Acc):Nod:={ p with d:=d,sy:=s,vo:=a }
theorem TpU.write(h:TpU p dr rs){r:Rk}(a:Rk.ok p.vo r)(b:p.d.length+(r.body.length+5)<=100000):TpU (p.tv (p.d++AM r.body) p.sy (Rk.ap p.vo r)) dr (rs++[r]):=by
 rw[h.vo]at a
 refine⟨h.ok.snoc a,h.pre.trans (nv _ _),?_,h.sy,?_,?_⟩
 .show p.d++_=_;rw[h.d,cB]
 .show Rk.ap p.vo r=_;rw[h.vo,BS]
 .show(p.d++AM r.body).length<=_;rw[H',Bg];omega
theorem TpU.au(h:TpU p dr rs)(b:Bal):((p.au b).2.2≠0/\(p.au b).1=p) \/
  ((p.au b).2.2=0/\Ce p.vo b=0/\(p.au b).2.1=p.vo.vs/\∃ rs',rs <+: rs'/\TpU (p.au b).1 dr rs'/\(∀ v,Rk.vt v∈rs'↔Rk.vt v∈rs)/\(B1 rs').p=b/\(B1 rs').vs=p.vo.vs/\∃ d a,(p.au b).1=p.tv d p.sy a):=by
 unfold Nod.au;split
 .rename_i c;exact .inl ⟨c,rfl⟩
 .rename_i c
  have c:=mg.1 c;split
  .rename_i h2
   refine .inr ⟨rfl,c,rfl,rs,ml _,?_,λ_=>Iff.rfl,?_,?_,p.d,p.vo,?_⟩
   .rw[h2];exact h
   .rw[<- h.vo];exact h2.symm
   .rw[<- h.vo]
   .rw[h2];rfl
  .rename_i h2
   split
   .rename_i f;exact .inl ⟨f,rfl⟩
   .rename_i f
    have f:=mg.1 f;have j:=J8 f;have g:FQ p.d p.sy (Ab b) (Br b)=p.d++AM (Br b):=if_pos f;have i:GB p.d p.sy (Ab b) (Br b)=p.sy:=if_pos f;rw[g,i];refine .inr ⟨rfl,c,rfl,rs++[Rk.pr b],nv _ _,(h.write (r:=.pr b) ⟨c,λe=>h2 e.symm⟩ j.2.1),λv=>by simp,?_,?_,_,_,rfl⟩
    .rw[BS];rfl
    .rw[BS,h.vo];rfl
theorem Vz{l:List Vt}(h:BL l){v:Vt}(hv:v∈l):Bn l v=l:=by
 induction l with
 | nil=>cases hv
 | cons u us ih =>
  rw[Bn];rcases mn.1 hv with rfl|hv
  .rw[if_neg (pV _),if_pos rfl]
  .rw[if_pos (h.1 v hv),ih h.2 hv]
theorem TpU.cl(h:TpU p dr rs)(v:Vt):((p.cl v).2≠0/\(p.cl v).1=p) \/
  ((p.cl v).2=0/\AX p.vo v=0/\∃ rs',rs <+: rs'/\TpU (p.cl v).1 dr rs'/\(∀ u,Rk.vt u∈rs'↔u=v\/Rk.vt u∈rs)/\(B1 rs').p=v.b/\∃ d a,(p.cl v).1=p.tv d p.sy a):=by
 unfold Nod.cl;split
 .rename_i c;exact .inl ⟨c,rfl⟩
 .rename_i c
  have c:=mg.1 c;have i:=Aq c;split
  .rename_i h2
   have m:=i.1.le h2;have l:=Bo i.2.1.2.1.pr i.1.1 i.2.2;have e:v.b=p.vo.p:=D9 i.2.1.2.1.pr i.1.1 (by omega);have j:(⟨v.b,Bn p.vo.vs v⟩:Acc)=p.vo:=by rw[Vz i.1.2.2 h2,e]
   rw[j];refine .inr ⟨rfl,c,rs,ml _,h,λu=>⟨.inr,λhu=>?_⟩,by rw[<- h.vo];exact e.symm,p.d,p.vo,rfl⟩;rcases hu with rfl|hu
   .exact IB h.ok u (by rw[<- h.vo];exact h2)
   .exact hu
  .rename_i h2
   split
   .rename_i f;exact .inl ⟨f,rfl⟩
   .rename_i f
    have f:=mg.1 f;have n:=J8 f;have k:FQ p.d p.sy (Ai v) (Bi v)=p.d++AM (Bi v):=if_pos f;have j:GB p.d p.sy (Ai v) (Bi v)=p.sy:=if_pos f;rw[k,j];refine .inr ⟨rfl,c,rs++[Rk.vt v],nv _ _,h.write (r:=.vt v) ⟨c,h2⟩ n.2.1,λu=>?_,by rw[BS];rfl,_,_,rfl⟩;rw[P',D'];exact⟨λg=>g.elim .inr λe=>.inl (Rk.vt.inj e),λg=>g.elim (λe=>.inr (by rw[e])) .inl⟩
structure Gs where
 dr:Nat->List Rk
 W:Bal->Nat->Cmd->Prop
def Gs.held(σ:Gs)(n:Nat)(v:Vt):Prop:=Rk.vt v∈σ.dr n
def Gs.H(σ:Gs)(n s:Nat)(b:Int)(c:Cmd):Prop:=∃ v,σ.held n v/\v.bt=(s:Int)/\v.b.key=b/\v.w=c
def Gs.P(σ:Gs)(n:Nat):Int:=(B1 (σ.dr n)).p.key
def Gs.qZ(σ:Gs)(v:Vt):Prop:=Ai v/\σ.W v.b v.bt.toNat v.w
def Gs.rO(σ:Gs)(s:Nat)(c:Cmd):Prop:=∃ b,Ch σ.H s b c
structure GsI(σ:Gs):Prop where
 ok:∀ n,AO (σ.dr n)
 rU:PInv σ.H σ.P
 w1:∀ b s c c',σ.W b s c->σ.W b s c'->c=c'
 w2:∀ b s c,σ.W b s c->Ab b/\Ee σ.H σ.P s b.key c
 w3:∀ b s c,σ.W b s c->b.key<=σ.P b.n.toNat
 hv:∀ n v,σ.held n v->σ.qZ v
structure Gs.le(σ τ:Gs):Prop where
 pre:∀ n,σ.dr n <+: τ.dr n
 W:∀ b s c,σ.W b s c->τ.W b s c
theorem Gs.le.refl(σ:Gs):σ.le σ:=⟨λ_=>ml _,λ_ _ _ h=>h⟩
variable{σ τ:Gs}
theorem Gs.le.trans{υ:Gs}(h:σ.le τ)(k:τ.le υ):σ.le υ:=⟨λn=>(h.pre n).trans (k.pre n),λb s c g=>k.W b s c (h.W b s c g)⟩
theorem Gs.le.held(h:σ.le τ){n:Nat}{v:Vt}(g:σ.held n v):τ.held n v:=(h.pre n).subset g
theorem Gs.le.H(h:σ.le τ){n s:Nat}{b:Int}{c:Cmd}(g:σ.H n s b c):τ.H n s b c:=by obtain⟨v,a,d⟩:=g;exact⟨v,h.held a,d⟩
theorem Gs.le.qZ(h:σ.le τ){v:Vt}(g:σ.qZ v):τ.qZ v:=⟨g.1,h.W _ _ _ g.2⟩
theorem Gs.le.rO(h:σ.le τ){s:Nat}{c:Cmd}(g:σ.rO s c):τ.rO s c:=by obtain⟨b,Q,a,d⟩:=g;exact⟨b,Q,a,λq f e=>h.H (d q f e)⟩
theorem Gs.le.P(h:σ.le τ)(a:GsI τ)(n:Nat):σ.P n<=τ.P n:=by
 obtain⟨x,b⟩:=h.pre n;have:=a.ok n;unfold Gs.P;rw[<- b]at this ⊢
 exact(D3 this).1
structure Gs.rW(i:Nat)(σ τ:Gs):Prop where
 le:σ.le τ
 new:∀ b s c,τ.W b s c->σ.W b s c\/b.n=(i:Int)
 tf:∀ n,n≠i->τ.dr n=σ.dr n
theorem Gs.rW.refl(i:Nat)(σ:Gs):Gs.rW i σ σ:=⟨.refl σ,λ_ _ _ h=>.inl h,λ_ _=>rfl⟩
def Gs.ext(σ:Gs)(i:Nat)(qs:List Rk):Gs:=⟨upN σ.dr i (σ.dr i++qs),σ.W⟩
theorem Ht(σ:Gs)(i:Nat)(a:List Rk):(σ.ext i a).dr i=σ.dr i++a:=Da _ _ _
theorem Lf(σ:Gs){i n:Nat}(a:List Rk)(h:n≠i):(σ.ext i a).dr n=σ.dr n:=Ds _ _ h
theorem OD(σ:Gs)(i:Nat)(a:List Rk):Gs.rW i σ (σ.ext i a):=⟨⟨λn=>by
 by_cases e:n=i
 .subst e;rw[Ht];exact nv _ _
 .rw[Lf σ a e];exact ml _,λ_ _ _ h=>h⟩,λ_ _ _ h=>.inl h,λn h=>Lf σ a h⟩
theorem PS(σ:Gs)(i:Nat)(r:Rk):(σ.ext i [r]).P=upP σ.P i (Rk.ap (B1 (σ.dr i)) r).p.key:=by
 funext n
 unfold Gs.P upP;split
 .rename_i e;subst e;rw[Ht,BS]
 .rename_i e;rw[Lf σ _ e]
theorem It:(σ.ext i qs).held n v↔σ.held n v\/(n=i/\Rk.vt v∈qs):=by
 unfold Gs.held;by_cases e:n=i
 .subst e;rw[Ht,P'];simp
 .rw[Lf σ qs e];simp[e]
theorem GsI.sQ(h:GsI σ){i:Nat}{r:Rk}(D:Rk.ok (B1 (σ.dr i)) r)(F:∀ v,r=.vt v->σ.qZ v):GsI (σ.ext i [r]):=by
 have l:=(h.ok i).acc;have t:=Rk.rK l D.err;have f:=(OD σ i [r]).le;have q:∀ n,AO ((σ.ext i [r]).dr n):=λn=>by
  by_cases e:n=i
  .subst e;rw[Ht];exact(h.ok n).snoc D
  .rw[Lf σ _ e];exact h.ok n
 have d:σ.P i<=(Rk.ap (B1 (σ.dr i)) r).p.key:=t;have B:∀ n,σ.P n<=(σ.ext i [r]).P n:=λn=>by rw[PS];exact Mp d n
 have o:∀ n v,(σ.ext i [r]).held n v->(σ.ext i [r]).qZ v:=λn v g=>by
  rcases It.1 g with g|⟨_,g⟩
  .exact f.qZ (h.hv n v g)
  .exact f.qZ (F v (D'.1 g).symm)
 cases r with
 | pr b =>
  have j:(σ.ext i [.pr b]).H=σ.H:=by
   funext n s a c
   exact propext ⟨λ⟨v,g,k⟩=>⟨v,(It.1 g).resolve_right λe=>by simp at e,k⟩,λ⟨v,g,k⟩=>⟨v,f.held g,k⟩⟩
  refine⟨q,?_,h.w1,λa s c g=>⟨(h.w2 a s c g).1,?_⟩,λa s c g=>mC (h.w3 a s c g) (B _),o⟩
  .rw[j,PS];exact h.rU.au d
  .rw[j,PS];exact(h.w2 a s c g).2.up d
 | vt v =>
  obtain⟨z,C⟩:=F v rfl;have I:v.bt=(v.bt.toNat:Int):=by have:=z.1;omega
  have j:(σ.ext i [.vt v]).H=fS σ.H i v.bt.toNat v.b.key v.w:=by
   funext n s a c
   refine propext ⟨λ⟨u,g,G,x,y⟩=>?_,λg=>?_⟩
   .rcases It.1 g with g|⟨g1,g2⟩
    .exact .inl ⟨u,g,G,x,y⟩
    .have e:u=v:=Rk.vt.inj (D'.1 g2);subst e;exact .inr ⟨g1,by omega,x.symm,y.symm⟩
   .rcases g with⟨u,g,k⟩|⟨rfl,rfl,rfl,rfl⟩
    .exact⟨u,f.held g,k⟩
    .exact⟨v,It.2 (.inr ⟨rfl,D'.2 rfl⟩),I,rfl,rfl⟩
  refine⟨q,?_,h.w1,λa s c g=>⟨(h.w2 a s c g).1,?_⟩,λa s c g=>mC (h.w3 a s c g) (B _),o⟩
  .rw[j,PS];refine h.rU.cl d (by have:=z.2.1.pos;show 0<v.b.key;omega) (h.w2 _ _ _ C).2 λm J ⟨u,g,G,x,y⟩=>?_;have E:=h.hv m u g;have e:u.b=v.b:=D9 E.1.2.1.pr z.2.1.pr x;have A:=E.2;rw[e,show u.bt.toNat=v.bt.toNat by omega,y]at A
   exact h.w1 _ _ _ _ A C
  .rw[j,PS];exact(h.w2 a s c g).2.cl d
theorem ce(σ:Gs)(i:Nat)(r:Rk)(a:List Rk):(σ.ext i [r]).ext i a=σ.ext i (r::a):=by unfold Gs.ext;simp only[Da,U9,mf,List.singleton_append]
theorem GsI.ext(h:GsI σ){i:Nat}(a:List Rk)(b:AO (σ.dr i++a))(c:∀ v,Rk.vt v∈a->σ.qZ v):GsI (σ.ext i a):=by
 induction a generalizing σ with
 | nil =>
  have:σ.ext i []=σ:=by unfold Gs.ext;rw[mz,Mo]
  rw[this];exact h
 | cons r a ih =>
  rw[<- ce];have d:AO (σ.dr i++[r]):=b.pre ⟨a,by simp⟩;refine ih (h.sQ d.last λv e=>c v (by rw[e];exact M')) ?_ λv g=>(OD σ i [r]).le.qZ (c v (I' _ g));rw[Ht,mf];exact b
structure PrmOk(dr:List Rk)(b:Bal)(vs:List Vt):Prop where
 le:b.key<=(B1 dr).p.key
 sub:∀ v∈vs,Rk.vt v∈dr/\v.b.key<=b.key
 sU:∀ v,Rk.vt v∈dr->v.b.key<b.key->∃ u∈vs,u.bt=v.bt/\v.b.key<=u.b.key
 acc:Ah ⟨b,vs⟩
theorem PrmOk.mono(h:PrmOk dr b vs)(e:dr <+: rs)(d:AO rs):PrmOk rs b vs:=by
 obtain⟨x,rfl⟩:=e;have c:=D3 d;refine⟨mC h.le c.1,λv hv=>⟨mi _ (h.sub v hv).1,(h.sub v hv).2⟩,λv hv a=>?_,h.acc⟩;rcases P'.1 hv with hv|hv
 .exact h.sU v hv a
 .have:=c.2 v hv;have:=h.le;omega
theorem PrmOk.of(c:AO rs){b:Bal}{d:List Vt}(e:(B1 rs).p=b)(a:(B1 rs).vs=d):PrmOk rs b d:=by
 subst e a;exact⟨mc _,λv a=>⟨IB c v a,c.acc.le a⟩,λv a _=>(QI c v a).2,c.acc⟩
structure RdI(σ:Gs)(i:Nat)(r:Rnd):Prop where
 fv:r.fv=Bb\/(Ab r.fv/\r.fv.n=(i:Int))
 next:∀ s c,σ.W r.fv s c->s<r.next
 own:∀ j,j<5->r.qm j=true->r.fv.key<=σ.P i
 an:∀ j,j<5->∀ v∈(r.an j).vs,σ.held j v/\v.b.key<=r.fv.key/\(r.qm j=false->v.b=r.fv)
 prom:∀ j,j<5->r.qm j=true->r.fv.key<=σ.P j/\∀ v,σ.held j v->v.b.key<r.fv.key->∃ u∈(r.an j).vs,u.bt=v.bt/\v.b.key<=u.b.key
 acc:∀ j,j<5->Ah (r.an j)/\(r.qm j=true->(r.an j).p=r.fv)
def PnI(σ:Gs)(rs:List Rk)(r:Rnd):Pend->Prop
 | .began b vs=>PrmOk rs b vs/\b.key<=r.fv.key
 | .prom _ b vs=>PrmOk rs b vs/\b.key<=σ.P b.n.toNat
 | .voted _ v=>Rk.vt v∈rs
 | .prop v=>Rk.vt v∈rs
 | .ed _ b=>Ap b/\b.key<=(B1 rs).p.key
 | _=>True
structure UpI(σ:Gs)(i:Nat)(p:Nod)(rs:List Rk):Prop where
 tp:TpU p (σ.dr i) rs
 qZ:∀ v,Rk.vt v∈rs->σ.qZ v
 rd:RdI σ i p.av
 bp:p.av.fv.key<=p.vo.p.key
 pe:∀ q∈p.bu,PnI σ rs p.av q
def AgL(σ:Gs)(l:List Cmd)(k:Nat):Prop:=∀ s c,l[s]?=some c->σ.rO (k+s) c
structure NdI(σ:Gs)(i:Nat)(p:Nod):Prop where
 up:p.up=true->∃ rs,UpI σ i p rs
 dn:p.up=false->TpD p (σ.dr i)
 ag:AgL σ p.ae 0
structure LtI(σ:Gs)(l:Let):Prop where
 k0:l.kind=0->l.fv.key<=σ.P l.fv.n.toNat
 k1:l.kind=1->PrmOk (σ.dr l.src) l.fv l.lp/\l.fv.key<=σ.P l.fv.n.toNat/\AgL σ l.fa 0
 k2:l.kind=2->Ap l.fv/\l.fv.key<=σ.P l.src
 k3:l.kind=3->σ.qZ l.cl
 k4:l.kind=4->σ.held l.src l.cl
 k5:l.kind=5->AgL σ l.fa l.bt
structure AgI(σ:Gs)(M:Meet):Prop where
 gs:GsI σ
 nd:∀ i,i<5->NdI σ i (M.ab i)
 lt:∀ l∈M.br,LtI σ l
theorem AgL.mono(h:σ.le τ){l:List Cmd}{k:Nat}(g:AgL σ l k):AgL τ l k:=λs c e=>h.rO (g s c e)
theorem RdI.mono(h:σ.le τ)(f:GsI τ){i:Nat}{r:Rnd}(g:RdI σ i r)(m:∀ s c,τ.W r.fv s c->s<r.next):RdI τ i r:=by
 refine⟨g.fv,m,λj a d=>mC (g.own j a d) (h.P f i),λj a v e=>⟨h.held (g.an j a v e).1,(g.an j a v e).2⟩,λj a d=>⟨mC (g.prom j a d).1 (h.P f j),λv e k=>?_⟩,g.acc⟩;obtain⟨x,n⟩:=h.pre j;have l:=f.ok j;have hv':Rk.vt v∈τ.dr j:=e;rw[<- n]at l hv'
 rcases P'.1 hv' with hv'|hv'
 .exact(g.prom j a d).2 v hv' k
 .have h1:=(D3 l).2 v hv';have o:=(g.prom j a d).1;have p:σ.P j<=v.b.key:=h1;omega
theorem PnI.mono(h:σ.le τ)(f:GsI τ){e a:List Rk}(c:e <+: a)(d:AO a){r r':Rnd}(i:r.fv.key<=r'.fv.key){q:Pend}(g:PnI σ e r q):PnI τ a r' q:=by
 cases q with
 | began b vs=>exact⟨g.1.mono c d,mC g.2 i⟩
 | prom to b vs=>exact⟨g.1.mono c d,mC g.2 (h.P f _)⟩
 | voted to v=>exact c.subset g
 | prop v=>exact c.subset g
 | ed to b=>obtain⟨x,rfl⟩:=c;exact⟨g.1,mC g.2 (D3 d).1⟩
 | _=>trivial
theorem NdI.mono(h:Gs.rW i σ τ)(a:GsI τ)(n:GsI σ)(d:j≠i){p:Nod}(g:NdI σ j p):NdI τ j p:=by
 have e:=h.tf j d;refine⟨λl=>?_,λb=>by rw[e];exact g.dn b,g.ag.mono h.le⟩;obtain⟨o,k⟩:=g.up l;refine⟨o,by rw[e];exact k.tp,λv m=>h.le.qZ (k.qZ v m),k.rd.mono h.le a λs c hW=>?_,k.bp,λq f=>(k.pe q f).mono h.le a (ml _) k.tp.ok (mc _)⟩;rcases h.new _ _ _ hW with hW|hW
 .exact k.rd.next s c hW
 .rcases k.rd.fv with hb|⟨_,hb⟩
  .have:=(a.w2 _ _ _ ‹_›).1;rw[hb]at this
   exact absurd this (by decide)
  .rw[hb]at hW;omega
theorem LtI.mono(h:σ.le τ)(a:GsI τ){l:Let}(g:LtI σ l):LtI τ l :=
 ⟨λe=>mC (g.k0 e) (h.P a _),λe=>⟨(g.k1 e).1.mono (h.pre _) (a.ok _),mC (g.k1 e).2.1 (h.P a _),(g.k1 e).2.2.mono h⟩,λe=>⟨(g.k2 e).1,mC (g.k2 e).2 (h.P a _)⟩,λe=>h.qZ (g.k3 e),λe=>h.held (g.k4 e),λe=>(g.k5 e).mono h⟩
theorem AgI.set(h:AgI σ M){i:Nat}(b:Gs.rW i σ τ)(a:GsI τ){p:Nod}(g:NdI τ i p){ls:List Let}(d:∀ l∈ls,l∈M.br\/LtI τ l)(ts:List Tol):AgI τ (M.set i p ls ts) :=
 ⟨a,λj c=>by
  show NdI τ j (upN M.ab i p j);unfold upN;split
  .rename_i e;rw[e];exact g
  .rename_i e;exact(h.nd j c).mono b a h.gs e,λl f=>(d l f).elim (λk=>(h.lt l k).mono b.le a) id⟩
theorem T9{r:Rnd}(h:∀ j,j<5->∀ v∈(r.an j).vs,σ.held j v){s:Nat}(a:CV r.hU (s:Int)=0):σ.rO s (CM r.hU (s:Int)):=by
 have k:CM r.hU (s:Int)=((GS (Dv r.hU (s:Int)) r.hU.length).map (·.w)).getD ⟨0,0,0,0,0⟩:=if_pos a;unfold CV at a;split at a
 .cases a
 .split at a
  .cases a
  .rename_i d
   have d:=mg.1 d;split at a
   .rename_i hO
    obtain⟨v,g⟩:=nh.1 hO;rw[k,g];have m:=List.find?_some g;have i:5<2*BK (Dv r.hU (s:Int)) v:=mI m;have e:Dv r.hU (s:Int)=Ae (r.an 0).vs (s:Int)++(Ae (r.an 1).vs (s:Int)++(Ae (r.an 2).vs (s:Int)++(Ae (r.an 3).vs (s:Int)++Ae (r.an 4).vs (s:Int)))):=by
     unfold Dv Rnd.hU Ae;simp[List.filter_append]
    rw[e,Cu,Cu,Cu,Cu]at i
    have c:∀ j,j<5->BL (r.an j).vs:=λj l=>(d (r.an j) (by unfold Rnd.hU;rcases qq l with rfl|rfl|rfl|rfl|rfl<;>simp)).2.2;have o:=I4 (c 0 (by omega)) (s:Int) v;have p:=I4 (c 1 (by omega)) (s:Int) v;have t:=I4 (c 2 (by omega)) (s:Int) v;have u:=I4 (c 3 (by omega)) (s:Int) v;have x:=I4 (c 4 (by omega)) (s:Int) v;refine⟨v.b.key,λq=>decide (v∈(r.an q).vs/\v.bt=(s:Int)),?_,λq n f=>?_⟩
    .show 3<=(decide (v∈(r.an 0).vs/\v.bt=(s:Int))).toNat+(decide (v∈(r.an 1).vs/\v.bt=(s:Int))).toNat+(decide (v∈(r.an 2).vs/\v.bt=(s:Int))).toNat+(decide (v∈(r.an 3).vs/\v.bt=(s:Int))).toNat+(decide (v∈(r.an 4).vs/\v.bt=(s:Int))).toNat;omega
    .obtain⟨h1,h2⟩:=mI f;exact⟨v,h q n v h1,h2,rfl,rfl⟩
   .cases a
theorem AgL.snoc(h:AgL σ l 0){c:Cmd}(a:σ.rO l.length c):AgL σ (l++[c]) 0:=λs d e=>by
 rcases mY s l.length with g|g
 .rw[mt g]at e;exact h s d e
 .have:=(V'.1 e).1;rw[H',m5]at this
  obtain rfl:s=l.length:=by omega
  rw[mx (A' _)]at e
  simp at e;subst e;rw[mT];exact a
theorem Uh{r:Rnd}(h:∀ j,j<5->∀ v∈(r.an j).vs,σ.held j v)(k:Nat){l:List Cmd}(a:AgL σ l 0):AgL σ (F8 k r l) 0:=by
 induction k generalizing l with
 | zero=>exact a
 | succ k ih =>
  rw[F8];split
  .rename_i he;exact ih (a.snoc (T9 h he))
  .exact a
theorem Qh{b:List Cmd}{a:Nat}(d:AgL σ l 0)(f:AgL σ b a)(h:a<=l.length):AgL σ (l++b.drop (l.length-a)) 0:=λs c e=>by
 rcases mY s l.length with g|g
 .rw[mt g]at e;exact d s c e
 .rw[mx g,nc]at e
  have:=f _ c e
  rwa [show a+(l.length-a+(s-l.length))=0+s by omega]at this
theorem Vx(a:Acc)(l:List Vt):∀ v∈(Dd a l).vs,v∈a.vs\/v∈l:=by
 induction l generalizing a with
 | nil=>exact λv b=>.inl b
 | cons u l ih =>
  intro v b;rw[Dd]at b
  rcases ih _ v b with h|h
  .by_cases he:AX a u=0
   .rw[if_pos he]at h
    have h:v∈Bq a u:=h;rw[(D8 he).2]at h
    rcases(BB (Aq he).1.2.2).1 h with rfl|⟨h,_⟩
    .exact .inr M'
    .exact .inl h
   .rw[if_neg he]at h;exact .inl h
  .exact .inr (I' _ h)
theorem Vw(a:Acc)(l:List Vt):∀ u∈a.vs,∃ x∈(Dd a l).vs,x.bt=u.bt/\u.b.key<=x.b.key:=by
 induction l generalizing a with
 | nil=>exact λu d=>⟨u,d,rfl,mc _⟩
 | cons w l ih =>
  intro u d;rw[Dd];by_cases c:AX a w=0
  .rw[if_pos c];obtain⟨x,e,f,g⟩:=Lv (Aq c).1 c d;obtain⟨y,h,i,j⟩:=ih ⟨BH a w,Bq a w⟩ x (by show x∈Bq a w;rw[(D8 c).2];exact e);exact⟨y,h,i.trans f,mC g j⟩
  .rw[if_neg c];exact ih a u d
theorem Vv(a:Acc)(l:List Vt)(c:Ah a)(g:a.p=b)(h:∀ v∈l,v.b.key<=b.key):Ah (Dd a l)/\(Dd a l).p=b:=by
 induction l generalizing a with
 | nil=>exact⟨c,g⟩
 | cons u l ih =>
  rw[Dd];by_cases d:AX a u=0
  .rw[if_pos d];have f:=Aq d;have e:u.b=b:=by
    have k:=Bo f.2.1.2.1.pr c.1 f.2.2;have m:=h u M';rw[g]at k
    exact D9 f.2.1.2.1.pr (g▸c.1) (by omega)
   have j:(⟨BH a u,Bq a u⟩:Acc)=⟨u.b,Bn a.vs u⟩:=by rw[(D8 d).1,(D8 d).2]
   rw[j];exact ih _ (c.ss f.2.1 f.2.2) e λv i=>h v (I' _ i)
  .rw[if_neg d];exact ih a c g λv i=>h v (I' _ i)
theorem RdI.qJ{r:Rnd}(h:RdI σ i r){j:Nat}{vs:List Vt}(f:PrmOk (σ.dr j) r.fv vs)(s:r.fv.key<=σ.P i):RdI σ i (r.qJ j vs):=by
 refine⟨h.fv,h.next,λ_ _ _=>s,λk c v a=>?_,λk c n=>?_,λk c=>?_⟩
 rotate_right
 .show Ah (upN r.an j (Dd ⟨r.fv,vs⟩ (r.an j).vs) k)/\(upN r.qm j true k=true->(upN r.an j (Dd ⟨r.fv,vs⟩ (r.an j).vs) k).p=r.fv);unfold upN;split
  .rename_i e;subst e
   have:=Vv (b:=r.fv) ⟨r.fv,vs⟩ (r.an k).vs f.acc rfl λv a=>(h.an k c v a).2.1;exact⟨this.1,λ_=>this.2⟩
  .exact h.acc k c
 .have a:v∈(upN r.an j (Dd ⟨r.fv,vs⟩ (r.an j).vs) k).vs:=a;by_cases e:k=j
  .subst e;rw[Da]at a
   rcases Vx _ _ v a with g|g
   .exact⟨(f.sub v g).1,(f.sub v g).2,λe=>by rw[show(r.qJ k vs).qm k=true from Da _ _ _]at e;cases e⟩
   .have:=h.an k c v g;exact⟨this.1,this.2.1,λe=>by rw[show(r.qJ k vs).qm k=true from Da _ _ _]at e;cases e⟩
  .rw[Ds _ _ e]at a
   have:=h.an k c v a;exact⟨this.1,this.2.1,λo=>this.2.2 (by rwa [show(r.qJ j vs).qm k=r.qm k from Ds _ _ e]at o)⟩
 .by_cases e:k=j
  .subst e;refine⟨f.le,λv a d=>?_⟩;obtain⟨u,l,m,q⟩:=f.sU v a d;obtain⟨x,t,w,y⟩:=Vw ⟨r.fv,vs⟩ (r.an k).vs u l;exact⟨x,by show x∈(upN r.an k _ k).vs;rw[Da];exact t,w.trans m,mC q y⟩
  .rw[show(r.qJ j vs).qm k=r.qm k from Ds _ _ e]at n
   have:=h.prom k c n;exact⟨this.1,λv a d=>by
    obtain⟨u,l,m⟩:=this.2 v a d;exact⟨u,by show u∈(upN r.an j _ k).vs;rw[Ds _ _ e];exact l,m⟩⟩
theorem RdI.count{r:Rnd}(h:RdI σ i r){j:Nat}{v:Vt}(l:v.b=r.fv)(f:AX (r.an j) v=0)(o:σ.held j v):RdI σ i { r with an:=upN r.an j ⟨BH (r.an j) v,Bq (r.an j) v⟩ }:=by
 have d:=Aq f;have g:Bq (r.an j) v=Bn (r.an j).vs v:=(D8 f).2;refine⟨h.fv,h.next,h.own,λk c u a=>?_,λk c n=>⟨(h.prom k c n).1,λu a m=>?_⟩,λk c=>?_⟩
 rotate_right
 .show Ah (upN r.an j ⟨BH (r.an j) v,Bq (r.an j) v⟩ k)/\(r.qm k=true->(upN r.an j ⟨BH (r.an j) v,Bq (r.an j) v⟩ k).p=r.fv);unfold upN;split
  .rw[(D8 f).1,g];exact⟨d.1.ss d.2.1 d.2.2,λ_=>l⟩
  .exact h.acc k c
 .have a:u∈(upN r.an j ⟨BH (r.an j) v,Bq (r.an j) v⟩ k).vs:=a;by_cases e:k=j
  .subst e;rw[Da]at a
   have a:u∈Bq (r.an k) v:=a;rw[g]at a
   rcases(BB d.1.2.2).1 a with rfl|⟨a,_⟩
   .exact⟨o,by rw[l];exact mc _,λ_=>l⟩
   .exact h.an k c u a
  .rw[Ds _ _ e]at a;exact h.an k c u a
 .obtain⟨x,h1,h2,h3⟩:=(h.prom k c n).2 u a m;by_cases e:k=j
  .subst e;obtain⟨y,q,s,t⟩:=Lv d.1 f h1;exact⟨y,by show y∈(upN r.an k _ k).vs;rw[Da];show y∈Bq (r.an k) v;rw[g];exact q,s.trans h2,mC h3 t⟩
  .exact⟨x,by show x∈(upN r.an j _ k).vs;rw[Ds _ _ e];exact h1,h2,h3⟩
theorem UpI.ov{q:Nod}(h:UpI σ i p rs)(b:q.d=p.d)(j:q.sy=p.sy)(c:q.vo=p.vo)(f:RdI σ i q.av)(a:q.av.fv=p.av.fv)(e:∀ x∈q.bu,x∈p.bu\/PnI σ rs q.av x):UpI σ i q rs :=
 ⟨⟨h.tp.ok,h.tp.pre,b.trans h.tp.d,j.trans h.tp.sy,c.trans h.tp.vo,by rw[b];exact h.tp.len⟩,h.qZ,f,by rw[a,c];exact h.bp,λx k=>(e x k).elim (λg=>by
  have:=h.pe x g;cases x<;>first|exact this|exact trivial|(refine⟨this.1,?_⟩;first|exact this.2|(rw[a];exact this.2))) id⟩
theorem UpI.count(h:UpI σ i p rs)(a:AgL σ p.ae 0){j:Nat}{v:Vt}(d:σ.held j v):UpI σ i (p.count j v) rs/\AgL σ (p.count j v).ae 0:=by
 unfold Nod.count;split
 .exact⟨h,a⟩
 .rename_i b
  have b:=mg.1 b;split
  .exact⟨h,a⟩
  .rename_i he
   have c:=h.rd.count b (mg.1 he) d;exact⟨h.ov rfl rfl rfl c rfl λx g=>.inl g,Uh (λj e v f=>(c.an j e v f).1) 41 a⟩
theorem NdI.mk'(b:p.up=true)(h:UpI σ i p rs)(a:AgL σ p.ae 0):NdI σ i p:=⟨λ_=>⟨rs,h⟩,λe=>(by rw[b]at e;cases e),a⟩
theorem AgL.nil(σ:Gs)(k:Nat):AgL σ [] k:=λs c e=>by simp at e
theorem AgL.drop(h:AgL σ l 0)(k:Nat):AgL σ (l.drop k) k:=λs c e=>by
 rw[nc]at e
 have:=h _ c e
 rwa [mT]at this
theorem UpI.wait(h:UpI σ i p rs){x:Pend}(a:PnI σ rs p.av x):UpI σ i (p.wait x) rs :=
 h.ov rfl rfl rfl h.rd rfl λy b=>(P'.1 b).imp id λe=>by rw[D'.1 e];exact a
theorem UpI.ed(h:UpI σ i p rs)(to:Nat)(e:Int):UpI σ i (p.ed to e) rs:=by
 unfold Nod.ed;split
 .exact h.wait (by show Ap p.vo.p/\p.vo.p.key<=_;rw[h.tp.vo];exact⟨h.tp.ok.acc.1,mc _⟩)
 .exact h
theorem NU(p:Nod)(to:Nat)(e:Int):(p.ed to e).ae=p.ae:=by unfold Nod.ed;split<;>rfl
theorem UpI.wrote{q:Nod}(h:UpI σ i p rs)(f:σ.le τ)(k:GsI τ)(e:τ.dr i=σ.dr i)(a:TpU q (σ.dr i) rs')(l:rs <+: rs')(n:∀ v,Rk.vt v∈rs'->τ.qZ v){r:Rnd}(m:RdI τ i r)(b:p.av.fv.key<=r.fv.key)(c:r.fv.key<=q.vo.p.key){x:Pend}(o:PnI τ rs' r x)(j:q.bu=p.bu):UpI τ i (Nod.wait { q with av:=r } x) rs' :=
 ⟨by rw[e];exact⟨a.ok,a.pre,a.d,a.sy,a.vo,a.len⟩,n,m,c,λy s=>by
  rcases P'.1 s with g|g
  .have g:y∈q.bu:=g;rw[j]at g
   exact(h.pe y g).mono f k l a.ok b
  .rw[D'.1 g];exact o⟩
theorem F1(h:UpI σ i p rs)(l:List Cmd):UpI σ i (p.dT l) rs/\(p.dT l).ae=p.ae:=by
 unfold Nod.dT;split
 .exact⟨h.ov rfl rfl rfl ⟨h.rd.fv,h.rd.next,h.rd.own,h.rd.an,h.rd.prom,h.rd.acc⟩ rfl λx a=>.inl a,rfl⟩
 .exact⟨h,rfl⟩
theorem Qg(h:UpI σ i p rs)(a:AgL σ p.ae 0):UpI σ i p.qv rs/\AgL σ p.qv.ae 0:=⟨h.ov rfl rfl rfl h.rd rfl λx d=>.inl d,Uh (λj b v c=>(h.rd.an j b v c).1) 41 a⟩
theorem NdI.take(C:GsI σ){i:Nat}{p:Nod}(h:NdI σ i p)(D:p.up=true){l:Let}(u:LtI σ l)(G:l.src<5):NdI σ i (p.take l):=by
 obtain⟨f,k⟩:=h.up D;have c:=h.ag
 suffices g:∃ b,UpI σ i (p.take l) b/\AgL σ (p.take l).ae 0 by
  obtain⟨b,w,o⟩:=g;exact NdI.mk' ((congrArg Prod.fst (Po p l)).trans D) w o
 unfold Nod.take;split
 .rename_i hk
  rcases k.tp.au l.fv with⟨e,he⟩|⟨e,he,hvs,b,hp,ht,hm,hpb,hpv,d,a,hq⟩
  .rw[if_pos e];exact⟨f,k.ed _ _,by rw[NU];exact c⟩
  .rw[if_neg (λg=>g e)];have m:=Ci he;refine⟨b,?_,?_⟩
   .refine k.wrote (q:=(p.au l.fv).1) (r:=(p.au l.fv).1.av) (.refl σ) C rfl ht hp (λv B=>k.qZ v ((hm v).1 B)) ?_ ?_ ?_ ⟨PrmOk.of ht.ok hpb (hpv.trans hvs.symm),u.k0 hk⟩ (by rw[hq];rfl)
    .rw[hq];exact k.rd
    .rw[hq];exact mc _
    .rw[ht.vo,hpb,hq];exact mC k.bp (Bo m.2.1.pr m.1.1 m.2.2)
   .show AgL σ (p.au l.fv).1.ae 0;rw[hq];exact c
 .rename_i hk
  obtain⟨w,o,E⟩:=u.k1 hk;have y:AgL σ (p.jv 0 l.fa).ae 0:=Qh c E (mH _);have s:UpI σ i (p.jv 0 l.fa) f:=k.ov rfl rfl rfl k.rd rfl λx j=>.inl j;generalize p.jv 0 l.fa=K at y s ⊢;simp only;split
  .exact⟨f,s,y⟩
  .rename_i hc
   have A:K.leads=true:=by cases hh:K.leads with|true=>rfl|false=>exact absurd (.inl hh) hc
   have t:l.fv=K.av.fv:=mg.1 λe=>hc (.inr (.inl e));have z:K.av.fv≠Bb:=(mI A).1;rw[t]at w o
   have F:=(s.rd.fv.resolve_left z).2;rw[F,mW]at o
   have n:=s.rd.qJ w o;exact⟨f,Qg (p:={ K with av:={ K.av.qJ l.src l.lp with bw:=upN K.av.bw l.src l.fa.length } }) (s.ov rfl rfl rfl ⟨n.fv,n.next,n.own,n.an,n.prom,n.acc⟩ rfl λx j=>.inl j) y⟩
 .exact⟨f,k.ov rfl rfl rfl k.rd rfl λx j=>.inl j,c⟩
 .rename_i hk
  rcases k.tp.cl l.cl with⟨e,he⟩|⟨e,he,b,hp,ht,hm,hpb,d,a,hq⟩
  .rw[if_pos e];exact⟨f,k.ed _ _,by rw[NU];exact c⟩
  .rw[if_neg (λg=>g e)];have m:=Aq he;refine⟨b,?_,?_⟩
   .refine k.wrote (q:=(p.cl l.cl).1) (r:=(p.cl l.cl).1.av) (.refl σ) C rfl ht hp (λv B=>((hm v).1 B).elim (λe=>by rw[e];exact u.k3 hk) (k.qZ v)) ?_ ?_ ?_ ((hm _).2 (.inl rfl)) (by rw[hq];rfl)
    .rw[hq];exact k.rd
    .rw[hq];exact mc _
    .rw[ht.vo,hpb,hq];exact mC k.bp (Bo m.2.1.2.1.pr m.1.1 m.2.2)
   .show AgL σ (p.cl l.cl).1.ae 0;rw[hq];exact c
 .rename_i hk
  exact⟨f,k.count c (u.k4 hk)⟩
 .rename_i hk
  split
  .exact⟨f,k.wait trivial,c⟩
  .rename_i hlt;exact⟨f,k.ov rfl rfl rfl k.rd rfl λx j=>.inl j,Qh c (u.k5 hk) (by omega)⟩
 .have:=F1 k l.fa;simp only;split
  .exact⟨f,this.1.wait trivial,by show AgL σ (p.dT l.fa).ae 0;rw[this.2];exact c⟩
  .exact⟨f,this.1,by rw[this.2];exact c⟩
 .exact⟨f,k,c⟩
theorem VV(W:GsI σ){i:Nat}{p:Nod}(h:RdI σ i p.av)(X:Ab p.av.fv)(Y:p.av.qy=true){s:Nat}(hs:p.av.next<=s){c:Cmd}(t:p.qo s=some c):Ee σ.H σ.P s p.av.fv.key c:=by
 have h5:5<2*IZ p.av.qm:=mI Y;have m:∀ j,j<5->∀ v∈(p.av.an j).vs,v.bt=(s:Int)->v∈Ae (p.av.hU.map (·.vs)).flatten (s:Int):=λj F v M e=>by
  refine Bd.2 ⟨oC.2 ⟨(p.av.an j).vs,mA.2 ⟨p.av.an j,?_,rfl⟩,M⟩,e⟩;unfold Rnd.hU;rcases qq F with rfl|rfl|rfl|rfl|rfl<;>simp
 refine⟨p.av.qm,by omega,λq n o=>(h.prom q n o).1,?_⟩;unfold Nod.qo at t;split at t
 .cases t
 .rename_i d
  have d:=mg.1 d;have D:DP (p.av.hU.map (·.vs)) (s:Int)=(FU (p.av.hU.map (·.vs)) (s:Int)).isSome:=if_pos d;have S:Hh (p.av.hU.map (·.vs)) (s:Int)=((FU (p.av.hU.map (·.vs)) (s:Int)).map (·.w)).getD ⟨0,0,0,0,0⟩:=if_pos d;have r:∀ l∈p.av.hU.map (·.vs),∀ v∈l,Ai v:=by
   unfold Cd at d;split at d
   .cases d
   .split at d
    .assumption
    .cases d
  have L:∀ v∈Ae (p.av.hU.map (·.vs)).flatten (s:Int),Ap v.b:=λv M=>by
   obtain⟨l,k,f⟩:=oC.1 (Bd.1 M).1;exact(r l k v f).2.1.pr
  rcases Rv _ L with⟨h0,E⟩|⟨x,E,hx,hmax⟩
  .left;intro q n o U V ⟨v,g,R,Z,k3⟩;refine Int.not_lt.1 λz=>?_;obtain⟨u,k,f,_⟩:=(h.prom q n o).2 v g (by omega);have:=m q n u k (f.trans R);rw[h0]at this;cases this
  .right;have E:FU (p.av.hU.map (·.vs)) (s:Int)=some x:=E;rw[E]at D S
   have D:DP (p.av.hU.map (·.vs)) (s:Int)=true:=D;rw[if_pos D]at t
   have G:c=x.w:=(mS t).symm.trans S;obtain⟨O,Q⟩:=Bd.1 hx;obtain⟨j,F,N⟩:∃ j,j<5/\x∈(p.av.an j).vs:=by
    obtain⟨l,k,f⟩:=oC.1 O;obtain⟨a,C,rfl⟩:=mA.1 k;unfold Rnd.hU at C;simp only[mn,Q',or_false]at C;rcases C with rfl|rfl|rfl|rfl|rfl
    .exact⟨0,by omega,f⟩
    .exact⟨1,by omega,f⟩
    .exact⟨2,by omega,f⟩
    .exact⟨3,by omega,f⟩
    .exact⟨4,by omega,f⟩
   obtain⟨y,I,J⟩:=h.an j F x N;have B:=W.hv j x y;have A:x.b≠p.av.fv:=λe=>by
    have k:=B.2;rw[e]at k
    have:=h.next _ _ k;omega
   have z:x.b.key<p.av.fv.key:=by
    rcases Int.lt_or_eq_of_le I with g|g
    .exact g
    .exact absurd (D9 B.1.2.1.pr X.pr g) A
   have K:p.av.qm j=true:=by
    cases hh:p.av.qm j with
    | true=>rfl
    | false=>exact absurd (J hh) A
   refine⟨x.b.key,z,⟨j,F,K,x,y,Q,rfl,G.symm⟩,λq n o U V ⟨v,g,R,Z,k3⟩ T=>?_⟩;obtain⟨u,k,f,C⟩:=(h.prom q n o).2 v g (by omega);have:=hmax u (m q n u k (f.trans R));omega
def Gs.prop(σ:Gs)(b:Bal)(s:Nat)(c:Cmd):Gs:=⟨σ.dr,λb' s' c'=>σ.W b' s' c'\/(b'=b/\s'=s/\c'=c)⟩
theorem GsI.prop(h:GsI σ){b:Bal}{s:Nat}{c:Cmd}(e:Ab b)(d:Ee σ.H σ.P s b.key c)(f:b.key<=σ.P b.n.toNat)(a:∀ c',¬ σ.W b s c'):GsI (σ.prop b s c):=by
 refine⟨h.ok,h.rU,?_,?_,?_,λn v g=>⟨(h.hv n v g).1,.inl (h.hv n v g).2⟩⟩
 .rintro b' s' c1 c2 (g|⟨rfl,rfl,rfl⟩) (k|⟨e1,e2,e3⟩)
  .exact h.w1 _ _ _ _ g k
  .subst e1 e2;exact absurd g (a _)
  .exact absurd k (a _)
  .exact e3.symm
 .rintro b' s' c' (g|⟨rfl,rfl,rfl⟩)
  .exact h.w2 _ _ _ g
  .exact⟨e,d⟩
 .rintro b' s' c' (g|⟨rfl,rfl,rfl⟩)
  .exact h.w3 _ _ _ g
  .exact f
theorem NdI.cn(x:GsI σ){i:Nat}{p:Nod}(h:NdI σ i p)(D:p.up=true):∃ τ ex,Gs.rW i σ τ/\GsI τ/\NdI τ i p.cn/\(∀ b s c,τ.W b s c->σ.W b s c\/ex=some (b,s))/\∀ b s,ex=some (b,s)->s<40/\b=p.av.fv:=by
 obtain⟨rs,k⟩:=h.up D;have f:∃ τ ex,Gs.rW i σ τ/\GsI τ/\NdI τ i p/\(∀ b s c,τ.W b s c->σ.W b s c\/ex=some (b,s))/\∀ b s,ex=some (b,s)->s<40/\b=p.av.fv:=⟨σ,none,.refl i σ,x,h,λ_ _ _ h=>.inl h,λ_ _ e=>by cases e⟩;have o:=(Ep p).trans D
 revert o
 unfold Nod.cn;split
 .exact λ_=>f
 .rename_i hc
  have z:p.leads=true:=by cases hh:p.leads with|true=>rfl|false=>exact absurd (.inl hh) hc
  have n:p.av.qy=true:=by cases hh:p.av.qy with|true=>rfl|false=>exact absurd (.inr (.inl hh)) hc
  have A:p.av.next<=p.ae.length:=Nat.not_lt.1 λe=>hc (.inr (.inr e));cases hn:p.qo p.ae.length with
  | none=>exact λ_=>f
  | some c =>
   simp only;rcases k.tp.cl ⟨(p.ae.length:Int),p.av.fv,c⟩with⟨e,he⟩|⟨e,he,rs',hp,ht,hm,hpb,d,a,w⟩
   .rw[if_pos e];exact λ_=>f
   .rw[if_neg (λg=>g e)];intro o;have E:=Aq he;have y:p.av.fv≠Bb:=(mI z).1;obtain⟨C,t⟩:=k.rd.fv.resolve_left y;have G:=VV x k.rd C n A hn;have H:∀ m,¬ σ.W p.av.fv p.ae.length m:=λm g=>by have:=k.rd.next _ _ g;omega
    have I:p.av.fv.key<=σ.P i:=by
     obtain⟨q,w,F,_⟩:=I0 p.av.qm p.av.qm (by have:5<2*IZ p.av.qm:=mI n;omega) (by have:5<2*IZ p.av.qm:=mI n;omega);exact k.rd.own q w F
    have l:=x.prop C G (by rw[t,mW];exact I) H;have j:Gs.rW i σ (σ.prop p.av.fv p.ae.length c):=⟨⟨λ_=>ml _,λ_ _ _ g=>.inl g⟩,λb s m g=>g.imp id λe=>by rw[e.1];exact t,λ_ _=>rfl⟩;have B:(σ.prop p.av.fv p.ae.length c).qZ ⟨(p.ae.length:Int),p.av.fv,c⟩:=⟨E.2.1,.inr ⟨rfl,mW _,rfl⟩⟩;have K:=k.rd.mono (τ:=σ.prop p.av.fv p.ae.length c) (r:=p.av) j.le l;refine⟨_,some (p.av.fv,p.ae.length),j,l,NdI.mk' (rs:=rs') o ?_ ?_,λb s m g=>g.imp id λe=>by rw[e.1,e.2.1],λb s e=>?_⟩
    .refine k.wrote (q:=(p.cl ⟨(p.ae.length:Int),p.av.fv,c⟩).1) (r:={ p.av with next:=p.ae.length+1 }) j.le l rfl ht hp (λv J=>((hm v).1 J).elim (λe=>by rw[e];exact B) λg=>j.le.qZ (k.qZ v g)) ?_ (mc _) ?_ ((hm _).2 (.inl rfl)) (by rw[w];rfl)
     .have g:=k.rd;refine RdI.mono (σ:=σ) j.le l (r:={ p.av with next:=p.ae.length+1 }) ⟨g.fv,λs m u=>j' (g.next s m u) (by show p.av.next<=p.ae.length+1;omega),g.own,g.an,g.prom,g.acc⟩ λs m u=>?_;rcases u with u|⟨_,rfl,_⟩
      .exact j' (g.next s m u) (by show p.av.next<=p.ae.length+1;omega)
      .exact Nat.lt_succ_self _
     .rw[ht.vo,hpb];exact mc _
    .show AgL _ (p.cl ⟨(p.ae.length:Int),p.av.fv,c⟩).1.ae 0;rw[w];exact h.ag.mono j.le
    .cases e;have:=E.2.1.1.2;exact⟨by simp only at this;omega,rfl⟩
theorem LtI.none{l:Let}(h:l.kind=6):LtI σ l:=⟨λe=>by omega,λe=>by omega,λe=>by omega,λe=>by omega,λe=>by omega,λe=>by omega⟩
theorem LtI.news{l:Let}(h:l.kind=5)(a:AgL σ l.fa l.bt):LtI σ l:=⟨λe=>by omega,λe=>by omega,λe=>by omega,λe=>by omega,λe=>by omega,λ_=>a⟩
theorem NdI.run(C:GsI σ){i:Nat}(H:i<5){p:Nod}(h:NdI σ i p)(j:p.up=true){q:Pend}{l:List Pend}(A:p.bu=q::l)(E:¬ p.sy<(p.d.length:Int)):NdI σ i { p.ln i q with bu:=l }/\∀ m∈p.qt i q,LtI σ m:=by
 obtain⟨B,k⟩:=h.up j;have f:=k.tp.all E;have c:=k.pe q (by rw[A];exact M');have t:∀ x∈l,x∈p.bu:=λx u=>by rw[A];exact I' _ u
 have o:∀ {p':Nod},UpI σ i p' B->p'.bu=p.bu->UpI σ i { p' with bu:=l } B:=λ{p'} g e=>g.ov rfl rfl rfl g.rd rfl λx u=>.inl (by rw[e];exact t x u);cases q with
 | began b vs =>
  unfold Nod.ln Nod.qt;simp only;split
  .exact⟨NdI.mk' j (o k rfl) h.ag,λm a=>by cases a⟩
  .rename_i e
   have e:=mg.1 e;obtain⟨w,G⟩:=c;have r:=k.tp.ok.acc;rw[<- k.tp.vo]at r
   have z:=k.bp;have y:p.av.fv=b:=by
    rw[<- e];refine D9 ?_ r.1 (by rw[e]at z ⊢;omega);rcases k.rd.fv with g|g
    .rw[g];exact .inr ⟨rfl,rfl⟩
    .exact g.1.pr
   have s:b.key<=σ.P i:=by have:=w.le;rw[<- f]at this;exact this
   rw[<- f,<- y]at w
   rw[<- y]at s
   refine⟨NdI.mk' j (o (p':={ p with av:=p.av.qJ i vs }) (k.ov rfl rfl rfl (k.rd.qJ w s) rfl λx u=>.inl u) rfl) h.ag,λm a=>?_⟩;obtain⟨to,_,rfl⟩:=CB a;refine⟨λ_=>?_,λe=>(by cases e),λe=>(by cases e),λe=>(by cases e),λe=>(by cases e),λe=>(by cases e)⟩;show b.key<=σ.P b.n.toNat;rw[<- y];rcases k.rd.fv with g|g
   .rw[g];have F:=(C.ok (Bb.n.toNat)).acc.1;have:0<=σ.P (Bb.n.toNat):=by
     unfold Ap Ab at F;unfold Gs.P Bal.key;omega
    exact this
   .rw[g.2,mW];exact s
 | prom to b vs =>
  refine⟨NdI.mk' j (o k rfl) h.ag,λm a=>?_⟩;rw[D'.1 a];refine⟨λe=>(by cases e),λ_=>⟨?_,c.2,h.ag⟩,λe=>(by cases e),λe=>(by cases e),λe=>(by cases e),λe=>(by cases e)⟩;show PrmOk (σ.dr i) b vs;rw[f];exact c.1
 | voted to v =>
  refine⟨NdI.mk' j (o k rfl) h.ag,λm a=>?_⟩;rw[D'.1 a];refine⟨λe=>(by cases e),λe=>(by cases e),λe=>(by cases e),λe=>(by cases e),λ_=>?_,λe=>(by cases e)⟩;show Rk.vt v∈σ.dr i;rw[f];exact c
 | ed to b =>
  refine⟨NdI.mk' j (o k rfl) h.ag,λm a=>?_⟩;rw[D'.1 a];refine⟨λe=>(by cases e),λe=>(by cases e),λ_=>?_,λe=>(by cases e),λe=>(by cases e),λe=>(by cases e)⟩;show Ap b/\b.key<=(B1 (σ.dr i)).p.key;rw[f];exact c
 | prop v =>
  have D:σ.held i v:=by show Rk.vt v∈σ.dr i;rw[f];exact c
  have g:=k.count h.ag D;refine⟨NdI.mk' ((congrArg Prod.fst (KZ p i v)).trans j) (o g.1 (D4 p i (.prop v)).1) g.2,λm a=>?_⟩;obtain⟨to,_,rfl⟩:=CB a;exact⟨λe=>(by cases e),λe=>(by cases e),λe=>(by cases e),λ_=>k.qZ v c,λe=>(by cases e),λe=>(by cases e)⟩
 | askNews to=>exact⟨NdI.mk' j (o k rfl) h.ag,λm a=>by rw[D'.1 a];exact LtI.none rfl⟩
 | start=>exact⟨NdI.mk' j (o k rfl) h.ag,λm a=>by obtain⟨to,_,rfl⟩:=CB a;exact LtI.none rfl⟩
 | tell to bt=>exact⟨NdI.mk' j (o k rfl) h.ag,λm a=>by rw[D'.1 a];exact LtI.news rfl (h.ag.drop bt)⟩
theorem NdI.lead(w:GsI σ){i:Nat}(E:i<5){p:Nod}(h:NdI σ i p)(y:p.up=true):NdI σ i (p.lead i):=by
 obtain⟨rs,k⟩:=h.up y;have f:(p.lead i).up=true:=(congrArg Prod.fst (Ue p i)).trans y
 revert f
 unfold Nod.lead;simp only;generalize m:(⟨max p.cF p.vo.p.r+1,(i:Int)⟩:Bal)=b;rcases k.tp.au b with⟨e,he⟩|⟨e,he,hvs,rs',hp,ht,hm,hpb,hpv,d,a,hq⟩
 .rw[if_pos e];exact λ_=>h
 .rw[if_neg (λg=>g e)];intro f;have A:=Ci he;have C:p.vo.p.key<b.key:=by
   have:=A.1.1;rw[<- m];unfold Ap Ab at this;show 5*p.vo.p.r+p.vo.p.n<5*(max p.cF p.vo.p.r+1)+(i:Int);omega
  refine NdI.mk' (rs:=rs') f ?_ ?_
  .refine k.wrote (q:=(p.au b).1) (r:=⟨b,λ_=>false,λ_=>DS,λ_=>p.ae.length,0,[]⟩) (.refl σ) w rfl ht hp (λv o=>k.qZ v ((hm v).1 o)) ?_ ?_ ?_ ⟨PrmOk.of ht.ok hpb (hpv.trans hvs.symm),mc _⟩ (by rw[hq];rfl)
   .refine⟨.inr ⟨A.2.1,by rw[<- m]⟩,λs c B=>?_,λj _ e=>(by cases e),λj _ v o=>(by cases o),λj _ e=>(by cases e),λj _=>⟨K5,λe=>(by cases e)⟩⟩;have l:=w.w3 _ _ _ B;rw[show b.n.toNat=i by rw[<- m];exact mW i]at l
    obtain⟨x,z⟩:=k.tp.pre;have t:=k.tp.ok;rw[<- z]at t
    have u:=(D3 t).1;rw[z,<- k.tp.vo]at u
    have D:σ.P i<=p.vo.p.key:=u;have l:b.key<=σ.P i:=l;omega
   .have:=k.bp;show _<=b.key;omega
   .rw[ht.vo,hpb];exact mc _
  .show AgL σ (p.au b).1.ae 0;rw[hq];exact h.ag
theorem J1(k:Nat):∀ m∈Dl p i k,m.kind=5/\m.fa=p.ae.drop m.bt:=by
 induction k with
 | zero=>intro m hm;cases hm
 | succ k ih =>
  intro m hm;rw[Dl]at hm
  rcases P'.1 hm with hm|hm
  .exact ih m hm
  .split at hm
   .rw[D'.1 hm];exact⟨rfl,rfl⟩
   .cases hm
theorem AgI.step(h:AgI σ M)(s:Stp D n M N):∃ τ ex,σ.le τ/\AgI τ N/\(∀ b s c,τ.W b s c->σ.W b s c\/ex=some (b,s))/\∀ b s,ex=some (b,s)->n=1/\s<40/\∃ i,i<5/\b=(M.ab i).av.fv:=by
 have r:=h.gs;have done:∀ {i:Nat} {p:Nod} {G:List Let} {L:List Tol},NdI σ i p->(∀ l∈G,l∈M.br\/LtI σ l)->∃ τ ex,σ.le τ/\AgI τ (M.set i p G L)/\(∀ b s c,τ.W b s c->σ.W b s c\/ex=some (b,s))/\∀ b s,ex=some (b,s)->n=1/\s<40/\∃ i,i<5/\b=(M.ab i).av.fv:=λ{i p G L} E f=>⟨σ,none,.refl σ,h.set (.refl _ σ) r E f L,λ_ _ _ h=>.inl h,λ_ _ e=>by cases e⟩;have same:∀ l∈M.br,l∈M.br\/LtI σ l:=λl f=>.inl f;have app:∀ {ms:List Let},(∀ m∈ms,LtI σ m)->∀ l∈M.br++ms,l∈M.br\/LtI σ l:=λg l f=>(P'.1 f).imp id (g l);cases s with
 | take _ l f hd hu _=>exact done ((h.nd _ hd.2).take r hu (h.lt l f) hd.1) same
 | br _ G f _=>exact⟨σ,none,.refl σ,⟨r,h.nd,λl g=>h.lt l (f l g)⟩,λ_ _ _ h=>.inl h,λ_ _ e=>by cases e⟩
 | one _ i c hi hu hc he =>
  refine done ?_ same;obtain⟨rs,k⟩:=(h.nd i hi).up hu;have Q:=DL { M.ab i with lr:=doS (M.ab i).lr c,done:=(M.ab i).done+1 } c;refine NdI.mk' (Q.1.trans hu) (rs:=rs) ?_ (by rw[Q.2.1];exact(h.nd i hi).ag);unfold Nod.gC;split<;>exact k.ov rfl rfl rfl k.rd rfl λx a=>.inl a
 | ask _ i hi hu =>
  obtain⟨rs,k⟩:=(h.nd i hi).up hu;have z:=(h.nd i hi).ag;have C:=(Ii (M.ab i) i).trans hu;generalize E:M.ab i=p at k z C ⊢;refine done (NdI.mk' (rs:=rs) C ?_ ?_) (app ?_)
  .unfold Nod.hZ;split
   .exact k.ov rfl rfl rfl k.rd rfl λx a=>.inl a
   .split
    .exact(F1 (p:={ p with bN:=(AZ p.vo.p p.bN (p.bn.take 40)).2 }) (k.ov rfl rfl rfl k.rd rfl λx a=>.inl a) _).1
    .exact k.ov rfl rfl rfl k.rd rfl λx a=>.inl a
  .unfold Nod.hZ;split
   .exact z
   .split
    .show AgL σ (Nod.dT _ _).ae 0;rw[(F1 (p:={ p with bN:=(AZ p.vo.p p.bN (p.bn.take 40)).2 }) (k.ov rfl rfl rfl k.rd rfl λx a=>.inl a) _).2];exact z
    .exact z
  .intro m u;unfold Nod.hZ at u;split at u
   .cases u
   .split at u
    .cases u
    .rw[D'.1 u];exact LtI.none rfl
 | prop _ i hi hu =>
  obtain⟨τ,ex,o,w,V,X,O⟩:=(h.nd i hi).cn r hu;exact⟨τ,ex,o.le,h.set o w V (λl f=>.inl f) _,X,λb s e=>⟨rfl,(O b s e).1,i,hi,(O b s e).2⟩⟩
 | qA _ i hi hu hlt H =>
  obtain⟨rs,k⟩:=(h.nd i hi).up hu;obtain⟨x,a⟩:=k.tp.pre;have w:=r.ext (i:=i) x (by rw[a];exact k.tp.ok) λv t=>k.qZ v (by rw[<- a];exact mh _ t);have o:=OD σ i x;refine⟨σ.ext i x,none,o.le,h.set o w (NdI.mk' (p:={ M.ab i with sy:=((M.ab i).d.length:Int) }) (rs:=rs) hu ⟨?_,λv t=>o.le.qZ (k.qZ v t),k.rd.mono o.le w λs c I=>k.rd.next s c I,k.bp,λq F=>(k.pe q F).mono o.le w (ml _) k.tp.ok (mc _)⟩ ((h.nd i hi).ag.mono o.le)) (λl f=>.inl f) _,λ_ _ _ h=>.inl h,λ_ _ e=>by cases e⟩;rw[Ht,a];exact k.tp.qA
 | run _ i hi hu q l E hs =>
  have g:=(h.nd i hi).run r hi hu E hs;exact done g.1 (app g.2)
 | qx _ i hi hu hL =>
  obtain⟨rs,k⟩:=(h.nd i hi).up hu;refine done (NdI.mk' (rs:=rs) hu (k.ov rfl rfl rfl ⟨k.rd.fv,k.rd.next,k.rd.own,k.rd.an,k.rd.prom,k.rd.acc⟩ rfl λx a=>.inl a) (h.nd i hi).ag) (app λm u=>?_);obtain⟨T,U⟩:=J1 5 m u;exact LtI.news T (by rw[U];exact(h.nd i hi).ag.drop _)
 | lead _ i hi hu _=>exact done ((h.nd i hi).lead r hi hu) same
 | sub _ i d hi hu P =>
  obtain⟨rs,k⟩:=(h.nd i hi).up hu;have z:=(h.nd i hi).ag;refine done ?_ same;unfold Nod.qM Nod.qP;split
  .exact h.nd i hi
  .split
   .exact NdI.mk' (rs:=rs) hu (k.ov rfl rfl rfl k.rd rfl λx a=>.inl a) z
   .split
    .exact h.nd i hi
    .show NdI σ i (Nod.want _ _);unfold Nod.want;split
     .exact h.nd i hi
     .exact NdI.mk' (rs:=rs) hu (k.ov rfl rfl rfl k.rd rfl λx a=>.inl a) z
 | kc _ i c hi hu hc _ =>
  obtain⟨rs,k⟩:=(h.nd i hi).up hu;obtain⟨S,⟨x,a⟩,⟨y,R⟩,P⟩:=k.tp.kc hc;have w:=r.ext (i:=i) x (k.tp.ok.pre ⟨y,by rw[a];exact R⟩) λv t=>k.qZ v (by rw[<- R,<- a];exact mi _ (mh _ t));have o:=OD σ i x;have A:=EW (p:=M.ab i) k.tp.rC hc;exact⟨σ.ext i x,none,o.le,h.set o w ⟨λe=>(by rw[A.2.1]at e;cases e),λ_=>(by rw[Ht,a];exact P),by rw[A.2.2.2];exact AgL.nil _ _⟩ (λl f=>.inl f) _,λ_ _ _ h=>.inl h,λ_ _ e=>by cases e⟩
 | start _ i hi hu _ =>
  have k:=(h.nd i hi).dn hu;have H:AP (M.ab i).d (M.ab i).sy:=⟨k.len,by rw[k.sy];omega,by rw[k.sy];omega⟩;have B:=Fj (p:=M.ab i) H;have K:=k.start;have J:(M.ab i).start.av=dQ/\(M.ab i).start.bu=[.start]:=by
   unfold Nod.start;rw[if_neg (λe=>e (if_pos H))];split<;>exact⟨rfl,rfl⟩
  refine done (NdI.mk' (rs:=σ.dr i) B.2.1 ⟨K,λv t=>r.hv i v t,?_,?_,λq F=>?_⟩ (by rw[B.2.2.2];exact AgL.nil _ _)) same
  .rw[J.1];exact⟨.inl rfl,λs c I=>absurd (r.w2 _ _ _ I).1 (by decide),λj _ e=>(by cases e),λj _ v t=>(by cases t),λj _ e=>(by cases e),λj _=>⟨K5,λe=>(by cases e)⟩⟩
  .rw[J.1,K.vo];have Y:=K.ok.acc.1;show(0:Int)<=_;unfold Ap Ab at Y;unfold Bal.key;omega
  .rw[J.2]at F
   rw[D'.1 F];trivial
theorem AgI.steps(s:Sts D n M N){σ:Gs}(h:AgI σ M):∃ (τ:Gs) (ex:List (Bal × Nat)),σ.le τ/\AgI τ N/\ex.length<=n/\∀ b s c,τ.W b s c->σ.W b s c\/(b,s)∈ex:=by
 induction s with
 | nil=>exact⟨σ,[],.refl σ,h,mH _,λ_ _ _ h=>.inl h⟩
 | snoc _ s hm ih =>
  obtain⟨τ,ex,a,l,o,i⟩:=ih h;obtain⟨υ,k,d,f,j,m⟩:=l.step s;cases k with
  | none=>exact⟨υ,ex,a.trans d,f,by omega,λb s c g=>(j b s c g).elim (i b s c) λe=>by cases e⟩
  | some x=>exact⟨υ,x::ex,a.trans d,f,by have:=(m x.1 x.2 rfl).1;rw[mE];omega,λb s c g=>(j b s c g).elim (λg=>(i b s c g).imp id (I' _)) λe=>.inr (by cases e;exact M')⟩
theorem AgI.zero:AgI ⟨λ_=>[],λ_ _ _=>False⟩ Ao :=
 ⟨⟨λ_=>AO.nil,⟨λn s b c ⟨v,g,_⟩=>(by cases g),λn k s b c h ⟨v,g,_⟩=>(by cases g),λn s b c ⟨v,g,_⟩=>(by cases g)⟩,λ_ _ _ _ g=>g.elim,λ_ _ _ g=>g.elim,λ_ _ _ g=>g.elim,λn v g=>(by cases g)⟩,
  λi _=>NdI.mk' (rs:=[]) rfl ⟨TpU.zero,λv g=>(by cases g),⟨.inl rfl,λ_ _ g=>g.elim,λj _ e=>(by cases e),λj _ v f=>(by cases f),λj _ e=>(by cases e),λj _=>⟨K5,λe=>(by cases e)⟩⟩,mc _,λq d=>(by cases d)⟩ (AgL.nil _ _),λl a=>by cases a⟩
theorem agree{L K:List Lac}(k:∀ x∈L++K,LacOk x)(q:(L++K).length<=100000){i j:Nat}(o:i<5)(p:j<5){s:Nat}{c d:Cmd}(m:((Ao.dc L).ab i).ae[s]?=some c)(n:((Ao.dc (L++K)).ab j).ae[s]?=some d):c=d:=by
 rw[H']at q
 have a:∀ x∈L,LacOk x:=λx b=>k x (mi _ b);have r:Sts whT L.length Ao (Ao.dc L):=ES L MOk.zero (by omega) λx b=>⟨a x b,IQ x⟩;have t:Sts whT K.length (Ao.dc L) (Ao.dc (L++K)):=by
  rw[AC];exact ES K (Ih L a (by omega)) (by omega) λx b=>⟨k x (mh _ b),IQ x⟩
 obtain⟨σ,_,_,g,_⟩:=AgI.zero.steps r;obtain⟨τ,_,l,h,_⟩:=g.steps t;have e:=l.rO ((g.nd i o).ag s c m);have f:=(h.nd j p).ag s d n;obtain⟨u,e⟩:=e;obtain⟨v,f⟩:=f;exact h.gs.rU.agree e f
theorem OK{α:Type}[DecidableEq α]{l m:List α}(f:l.Nodup)(h:∀ x∈l,x∈m):l.length<=m.length:=by
 induction l generalizing m with
 | nil=>exact mH _
 | cons x l ih =>
  obtain⟨c,d⟩:=oe.1 f;have a:=h x M';have:=ih d (m:=m.erase x) λy b=>(List.mem_erase_of_ne (λe=>c (by rw[<- e];exact b))).2 (h y (I' _ b));rw[List.length_erase_of_mem a]at this
  have:=List.length_pos_of_mem a;rw[mE];omega
def prc:List Rk->Nat
 | []=>0
 | .pr _::l=>prc l+1
 | .vt _::l=>prc l
def vts:List Rk->List Vt
 | []=>[]
 | .pr _::l=>vts l
 | .vt v::l=>v::vts l
theorem dE(l m:List Rk):prc (l++m)=prc l+prc m:=by
 induction l with
 | nil=>simp[prc]
 | cons r l ih=>cases r<;>simp[prc,ih];omega
theorem eT(l m:List Rk):vts (l++m)=vts l++vts m:=by
 induction l with
 | nil=>rfl
 | cons r l ih=>cases r<;>simp[vts,ih]
theorem UH{l:List Rk}:v∈vts l↔Rk.vt v∈l:=by
 induction l with
 | nil=>simp[vts]
 | cons r l ih=>cases r<;>simp[vts,ih]
theorem cA(a:List Rk):(fl a).length=14*prc a+38*(vts a).length:=by
 induction a with
 | nil=>rfl
 | cons r l ih =>
  have e:fl (r::l)=AM r.body++fl l:=rfl;rw[e,H',Bg,ih];cases r with
  | pr b=>show(Br b).length+5+_=14*(prc l+1)+38*(vts l).length;rw[JP];omega
  | vt v=>show(Bi v).length+5+_=14*prc l+38*((vts l).length+1);rw[G8];omega
theorem iq(h:AO rs):(prc rs:Int)<=(B1 rs).p.key:=h.ind (P:=λrs=>(prc rs:Int)<=(B1 rs).p.key) (by decide) λrs r f a g=>by
 have c:=Rk.rK f.acc a.err;rw[dE,BS];cases r with
 | pr b =>
  have d:=Ci a.1;have:(B1 rs).p.key≠b.key:=λe=>a.2 (D9 d.1.1 d.2.1.pr e);have c:(B1 rs).p.key<=b.key:=c;show((prc rs+1:Nat):Int)<=b.key;omega
 | vt v=>show((prc rs+0:Nat):Int)<=_;exact mC (by omega) c
theorem WM(s:GsI σ){a:List Rk}(h:AO a)(c:∀ v,Rk.vt v∈a->σ.qZ v):(vts a).Nodup:=by
 revert c
 refine h.ind (P:=λa=>(∀ v,Rk.vt v∈a->σ.qZ v)->(vts a).Nodup) (λ_=>nI) λa r i m j c=>?_;have j:=j λv g=>c v (mi _ g);rw[eT];cases r with
 | pr b=>show(vts a++[]).Nodup;rw[mz];exact j
 | vt v =>
  show(vts a++[v]).Nodup;refine oc.2 ⟨j,oe.2 ⟨Q',nI⟩,λx z y A e=>?_⟩;rw[D'.1 A]at e
  subst e;obtain⟨B,u,f,l,C⟩:=QI i x (UH.1 z);have p:=Aq m.1;have w:=i.acc.le f;have t:=Bo p.2.1.2.1.pr i.acc.1 p.2.2;have n:=c u (mi _ (IB i u f));have d:=c x (mh _ M');have k:u.b=x.b:=D9 n.1.2.1.pr d.1.2.1.pr (by omega);have o:=n.2;rw[k,l]at o
  have q:=s.w1 _ _ _ _ o d.2;have:u=x:=(Vt.eq_iff u x).1 ⟨l,k,q⟩;rw[this]at f
  exact m.2 f
theorem eU(r:GsI σ){d:List Rk}(h:AO d)(i:∀ v,Rk.vt v∈d->σ.qZ v){a:List (Bal × Nat)}(B:∀ b s c,σ.W b s c->(b,s)∈a):(vts d).length<=a.length:=by
 have t:=WM r h i;have j:∀ v∈vts d,σ.qZ v:=λv g=>i v (UH.1 g);have:((vts d).map λv=>(v.b,v.bt.toNat)).Nodup:=by
  clear h i;generalize vts d=q at t j ⊢;induction q with
  | nil=>exact nI
  | cons v l ih =>
   obtain⟨z,A⟩:=oe.1 t;refine oe.2 ⟨λg=>?_,ih A λu f=>j u (I' _ f)⟩;obtain⟨u,f,e⟩:=mA.1 g;have n:=j u (I' _ f);have o:=j v M';have k:u.b=v.b:=congrArg Prod.fst e;have w:u.bt.toNat=v.bt.toNat:=congrArg Prod.snd e;have p:=n.2;rw[k,w]at p
   have y:=r.w1 _ _ _ _ p o.2;have:u=v:=(Vt.eq_iff u v).1 ⟨by have:=n.1.1;have:=o.1.1;omega,k,y⟩;rw[this]at f;exact z f
 have:=OK this (m:=a) λx C=>by
  obtain⟨v,i,rfl⟩:=mA.1 C;exact B _ _ _ (j v i).2
 rwa [mw]at this
theorem aJ(h:AgI σ M){a:List (Bal × Nat)}(e:∀ b s c,σ.W b s c->(b,s)∈a){j:Nat}(f:j<5)(g:(M.ab j).up=true):((M.ab j).d.length:Int)<=14*(M.ab j).vo.p.key+38*(a.length:Int):=by
 obtain⟨m,k⟩:=(h.nd j f).up g;have i:=eU h.gs k.tp.ok k.qZ e;have l:=iq k.tp.ok;rw[k.tp.d,cA,k.tp.vo];omega
def Nod.pk(p:Nod):Int:=if p.up then p.vo.p.key else(DY p.d).2.p.key
def KbI(K R:Int)(M:Meet):Prop:=∀ j,j<5->(M.ab j).pk<=K/\5*(M.ab j).cF<=R
theorem NdI.rD(h:NdI σ j p):σ.P j<=p.pk:=by
 unfold Nod.pk;split
 .rename_i hu
  obtain⟨c,k⟩:=h.up hu;obtain⟨x,b⟩:=k.tp.pre;have a:=k.tp.ok;rw[<- b]at a
  have:=(D3 a).1;rw[b,<- k.tp.vo]at this
  exact this
 .rename_i hu
  rw[(h.dn (by simpa using hu)).rZ];exact mc _
theorem AgI.rD(h:AgI σ M){K R:Int}(c:KbI K R M){b:Bal}(d:Ab b)(e:b.key<=σ.P b.n.toNat):b.key<=K:=by
 have a:b.n.toNat<5:=by unfold Ab at d;omega
 exact mC e (mC (h.nd _ a).rD (c _ a).1)
theorem Yy(h:Ap b):5*b.r<=b.key:=by unfold Ap Ab at h;unfold Bal.key;omega
theorem KbI.set(h:KbI K R M){i:Nat}{p:Nod}(b:p.pk<=K/\5*p.cF<=R)(ls:List Let)(ts:List Tol):KbI K R (M.set i p ls ts):=λj a=>by
 show(upN M.ab i p j).pk<=K/\5*(upN M.ab i p j).cF<=R;unfold upN;split
 .exact b
 .exact h j a
theorem KbI.step(P:¬ D.ld){n:Nat}{σ:Gs}{M N:Meet}(h:AgI σ M)(s:Stp D n M N){K R:Int}(Q:K<=R)(m:KbI K R M):KbI K R N:=by
 have ov:∀ {i:Nat} {p:Nod},i<5->(M.ab i).up=true->p.up=true->p.vo.p.key<=(M.ab i).vo.p.key\/p.vo.p.key<=K->p.cF=(M.ab i).cF->p.pk<=K/\5*p.cF<=R:=λ{i p} j f z S A=>by
  have o:=m i j;unfold Nod.pk at o ⊢;rw[if_pos f]at o
  rw[if_pos z,A];exact⟨S.elim (λg=>mC g o.1) id,o.2⟩
 cases s with
 | take _ l hl hd f _ =>
  have w:=h.lt l hl;obtain⟨O,k⟩:=(h.nd _ hd.2).up f;have b:=(congrArg Prod.fst (Po (M.ab l.dst) l)).trans f;refine m.set ?_ _ _
  revert b
  unfold Nod.take;split
  .rename_i u
   rcases k.tp.au l.fv with⟨e,he⟩|⟨e,he,hvs,rs',z,v,hm,hpb,hpv,d,a,hq⟩
   .rw[if_pos e];intro b;refine ov hd.2 f b (.inl ?_) ?_<;>(unfold Nod.ed;split)<;>first|exact mc _|rfl
   .rw[if_neg (λg=>g e)];intro b;refine ov hd.2 f b (.inr ?_) (by show((M.ab l.dst).au l.fv).1.cF=_;rw[hq];rfl);show((M.ab l.dst).au l.fv).1.vo.p.key<=K;rw[v.vo,hpb];exact h.rD m (Ci he).2.1 (w.k0 u)
  .simp only;split<;>exact λb=>ov hd.2 f b (.inl (mc _)) rfl
  .rename_i u
   intro b;have o:=ov (p:=M.ab l.dst) hd.2 f f (.inl (mc _)) rfl;refine⟨o.1,?_⟩;have B:=mC (w.k2 u).2 (mC (h.nd _ hd.1).rD (m _ hd.1).1);have J:5*l.fv.r<=K:=mC (Yy (w.k2 u).1) B;show 5*max (M.ab l.dst).cF l.fv.r<=R;have:=o.2;omega
  .rename_i u
   rcases k.tp.cl l.cl with⟨e,he⟩|⟨e,he,rs',z,v,hm,hpb,d,a,hq⟩
   .rw[if_pos e];intro b;refine ov hd.2 f b (.inl ?_) ?_<;>(unfold Nod.ed;split)<;>first|exact mc _|rfl
   .rw[if_neg (λg=>g e)];intro b;refine ov hd.2 f b (.inr ?_) (by show((M.ab l.dst).cl l.cl).1.cF=_;rw[hq];rfl);show((M.ab l.dst).cl l.cl).1.vo.p.key<=K;rw[v.vo,hpb];exact h.rD m (Aq he).2.1.2.1 (h.gs.w3 _ _ _ (w.k3 u).2)
  .unfold Nod.count;split
   .exact λb=>ov hd.2 f b (.inl (mc _)) rfl
   .split<;>exact λb=>ov hd.2 f b (.inl (mc _)) rfl
  .split<;>exact λb=>ov hd.2 f b (.inl (mc _)) rfl
  .simp only;unfold Nod.dT;split<;>split<;>exact λb=>ov hd.2 f b (.inl (mc _)) rfl
  .exact λb=>ov hd.2 f b (.inl (mc _)) rfl
 | br _ ls hl _=>exact m
 | one _ i c j f hc he =>
  refine m.set (ov j f ((DL { M.ab i with lr:=doS (M.ab i).lr c,done:=(M.ab i).done+1 } c).1.trans f) (.inl ?_) ?_) _ _<;>(unfold Nod.gC;split)<;>first|exact mc _|rfl
 | ask _ i j f =>
  refine m.set (ov j f ((Ii _ i).trans f) (.inl ?_) ?_) _ _<;>(unfold Nod.hZ;split)<;>first|exact mc _|rfl|(split<;>first|exact mc _|rfl|(unfold Nod.dT;split<;>first|exact mc _|rfl))
 | prop _ i j f =>
  refine m.set (ov j f ((Ep _).trans f) (.inl ?_) ?_) _ _
  .obtain⟨O,k⟩:=(h.nd i j).up f;unfold Nod.cn;split
   .exact mc _
   .rename_i hc
    have G:(M.ab i).leads=true:=by cases hh:(M.ab i).leads with|true=>rfl|false=>exact absurd (.inl hh) hc
    cases hn:(M.ab i).qo (M.ab i).ae.length with
    | none=>exact mc _
    | some c =>
     simp only;rcases k.tp.cl ⟨((M.ab i).ae.length:Int),(M.ab i).av.fv,c⟩with⟨e,he⟩|⟨e,he,rs',z,v,hm,hpb,d,a,hq⟩
     .rw[if_pos e];exact mc _
     .rw[if_neg (λg=>g e)];show((M.ab i).cl _).1.vo.p.key<=_;rw[v.vo,hpb,(mI G).2];exact mc _
  .unfold Nod.cn;split
   .rfl
   .split
    .rfl
    .split
     .rfl
     .show((M.ab i).cl _).1.cF=_;unfold Nod.cl;split
      .rfl
      .split
       .rfl
       .split<;>rfl
 | qA _ i j f hlt E=>exact m.set (ov (p:={ M.ab i with sy:=((M.ab i).d.length:Int) }) j f f (.inl (mc _)) rfl) _ _
 | run _ i j f q l z hs =>
  have u:=D4 (M.ab i) i q;refine m.set (ov (p:={ (M.ab i).ln i q with bu:=l }) j f (u.2.1.trans f) (.inl ?_) ?_) _ _<;>(cases q<;>first|exact mc _|rfl|(simp only[Nod.ln];split<;>first|exact mc _|rfl)|(simp only[Nod.ln,Nod.count];split<;>first|exact mc _|rfl|(split<;>first|exact mc _|rfl)))
 | qx _ i j f w=>exact m.set (ov (p:=Eu (M.ab i) i 5) j f f (.inl (mc _)) rfl) _ _
 | lead _ i j f w=>exact absurd w P
 | sub _ i d j f hd =>
  have b:((M.ab i).qM i d M.eo).1.up=true:=by
   unfold Nod.qM Nod.qP;split
   .exact f
   .split
    .exact f
    .split
     .exact f
     .show(Nod.want _ _).up=true;unfold Nod.want;split<;>exact f
  refine m.set (ov j f b (.inl ?_) ?_) _ _<;>(unfold Nod.qM Nod.qP;split)<;>first|exact mc _|rfl|(split<;>first|exact mc _|rfl|(split<;>first|exact mc _|rfl|(simp only[Nod.want];split<;>first|exact mc _|rfl)))
 | kc _ i c j f hc hC =>
  obtain⟨O,k⟩:=(h.nd i j).up f;obtain⟨x,_,⟨y,L⟩,C⟩:=k.tp.kc hc;have F:=EW (p:=M.ab i) k.tp.rC hc;have A:((M.ab i).kc c).cF=0:=by
   unfold Nod.kc;rw[if_neg]
   .rfl
   .intro e;exact e (by unfold Gd;rw[if_neg (λe=>e k.tp.rC),if_neg (by omega)])
  have t:=(m i j).1;unfold Nod.pk at t;rw[if_pos f]at t
  have o:=k.tp.ok;rw[<- L]at o
  have B:=(D3 o).1;rw[L,<- k.tp.vo]at B
  have I:=(AO.left o).acc.1;have J:0<=(B1 x).p.key:=by unfold Ap Ab at I;unfold Bal.key;omega
  refine m.set ⟨?_,by rw[A];omega⟩ _ _;unfold Nod.pk;rw[if_neg (by rw[F.2.1];decide),C.rZ];show(B1 x).p.key<=K;omega
 | start _ i j f _ =>
  have k:=(h.nd i j).dn f;have v:=k.start;have E:AP (M.ab i).d (M.ab i).sy:=⟨k.len,by rw[k.sy];omega,by rw[k.sy];omega⟩;have H:=Fj (p:=M.ab i) E;have A:(M.ab i).start.cF=0:=by
   unfold Nod.start;rw[if_neg (λe=>e (if_pos E))];split<;>rfl
  have t:=(m i j).1;unfold Nod.pk at t;rw[if_neg (by rw[f];decide),k.rZ]at t
  have t:(B1 (σ.dr i)).p.key<=K:=t;have I:=v.ok.acc.1;have J:0<=(B1 (σ.dr i)).p.key:=by unfold Ap Ab at I;unfold Bal.key;omega
  refine m.set ⟨?_,by rw[A];omega⟩ _ _;unfold Nod.pk;rw[if_pos H.2.1,v.vo];exact t
def wh1:Wh:=⟨λ_ _=>False,False,False,False,False,False⟩
def wh0:Wh:=⟨λ_ _=>False,False,False,False,True,False⟩
theorem Stp.calm{c:Nat}(h:Stp wh1 c M N):Stp wh0 c M N:=by
 cases h with
 | take _ l hl hd hu ht=>exact .take M l hl hd hu trivial
 | br _ ls h hd=>exact False.elim hd
 | one _ i c hi hu hc he=>exact .one M i c hi hu hc he
 | ask _ i hi hu=>exact .ask M i hi hu
 | prop _ i hi hu=>exact .prop M i hi hu
 | qA _ i hi hu h hT=>exact .qA M i hi hu h hT
 | run _ i hi hu q l hp hs=>exact .run M i hi hu q l hp hs
 | qx _ i hi hu hL=>exact .qx M i hi hu hL
 | lead _ i hi hu hL=>exact False.elim hL
 | sub _ i d hi hu hD=>exact False.elim hD
 | kc _ i k hi hu hk hC=>exact False.elim hC
 | start _ i hi hu hs=>exact False.elim hs
theorem JS{to:Nat}{e:Int}(a:q∈p.bu):q∈(p.ed to e).bu:=by
 unfold Nod.ed;split
 .exact mi _ a
 .exact a
theorem GQ{l:Let}(a:q∈p.bu):q∈(p.take l).bu:=by
 unfold Nod.take;split
 .split
  .exact JS a
  .exact mi _ (by rw[FG];exact a)
 .simp only;split<;>exact a
 .exact a
 .split
  .exact JS a
  .exact mi _ (by rw[GR];exact a)
 .unfold Nod.count;split
  .exact a
  .split<;>exact a
 .split
  .exact mi _ a
  .exact a
 .simp only;unfold Nod.dT;split<;>split<;>first|exact a|exact mi _ a
 .exact a
theorem OV(a:q∈p.bu):q∈p.cn.bu:=by
 unfold Nod.cn;split
 .exact a
 .split
  .exact a
  .split
   .exact a
   .exact mi _ (by rw[GR];exact a)
theorem IV(p:Nod)(i:Nat):(p.hZ i).1.bu=p.bu/\(p.hZ i).1.d=p.d/\(p.hZ i).1.sy=p.sy:=by
 unfold Nod.hZ;split
 .exact⟨rfl,rfl,rfl⟩
 .split
  .unfold Nod.dT;split<;>exact⟨rfl,rfl,rfl⟩
  .exact⟨rfl,rfl,rfl⟩
theorem G3(p:Nod)(c:Cmd):(p.gC c).bu=p.bu/\(p.gC c).d=p.d/\(p.gC c).sy=p.sy:=by unfold Nod.gC;split<;>exact⟨rfl,rfl,rfl⟩
theorem XH(i:Nat)(l:List Cmd)(p:Nod)(a:List Tol):(qD i l p a).1.d=p.d/\(qD i l p a).1.sy=p.sy:=by
 induction l generalizing p a with
 | nil=>exact⟨rfl,rfl⟩
 | cons c l ih =>
  rw[qD];split
  .exact⟨rfl,rfl⟩
  .have h1:=ih (Nod.gC { p with lr:=doS p.lr c,done:=p.done+1 } c) (if(p.bN c).isSome=true then a++[⟨i,c.c,c.s,doC p.lr c,doA p.lr c⟩]else a);have b:=G3 { p with lr:=doS p.lr c,done:=p.done+1 } c;exact⟨h1.1.trans b.2.1,h1.2.trans b.2.2⟩
theorem RL(i:Nat)(l:List Pend)(p:Nod)(a:List Let):(nn i l p a).1.bu=p.bu:=by
 induction l generalizing p a with
 | nil=>rfl
 | cons q l ih=>rw[nn,ih];exact(D4 p i q).1
theorem H4(h:AP p.d p.sy)(i:Nat)(k:List Let)(l:List Tol):(p.piece i k l).1.bu=[]:=by
 unfold Nod.piece;simp only;have g:=XH i (p.ae.drop p.done) p l;generalize qD i (p.ae.drop p.done) p l=a at g ⊢;have j:=IV a.1 i;generalize a.1.hZ i=b at j ⊢;have c:b.1.tp:=by show AP b.1.d b.1.sy;rw[j.2.1,j.2.2,g.1,g.2];exact h
 have m:b.1.cn.tp:=by
  unfold Nod.cn;split
  .exact c
  .split
   .exact c
   .split
    .exact c
    .exact Pv c _
 generalize b.1.cn=r at m ⊢;have n:(r.ni i (k++b.2)).1.bu=[]:=by
  unfold Nod.ni;rw[if_neg (λe=>e.2 (if_pos m)),RL]
 generalize r.ni i (k++b.2)=f at n ⊢;unfold Nod.bw;split<;>exact n
theorem Am(M:Meet)(i:Nat)(p:Nod)(a:List Let)(b:List Tol)(j:Nat):(M.set i p a b).ab j=if j=i then p else M.ab j:=rfl
theorem NR{c:Nat}(s:Stp wh0 c M N){i:Nat}{q:Pend}(hq:q∈(M.ab i).bu):q∈(N.ab i).bu\/∃ l,(M.ab i).bu=q::l/\N=M.set i { (M.ab i).ln i q with bu:=l } (M.br++(M.ab i).qt i q) M.eo:=by
 have put:∀ {j:Nat} {p:Nod} {a:List Let} {b:List Tol},(j=i->q∈p.bu)->q∈((M.set j p a b).ab i).bu:=λ{j p a b} h=>by
  rw[Am];split
  .rename_i e;exact h e.symm
  .exact hq
 cases s with
 | take _ l hl hd hu ht=>exact .inl (put λe=>GQ (by rw[e];exact hq))
 | br _ a h hd=>exact False.elim hd
 | one _ j c hi hu hc he=>exact .inl (put λe=>by rw[(G3 _ c).1,e];exact hq)
 | ask _ j hi hu=>exact .inl (put λe=>by rw[(IV _ j).1,e];exact hq)
 | prop _ j hi hu=>exact .inl (put λe=>OV (by rw[e];exact hq))
 | qA _ j hi hu h hT=>exact .inl (put λe=>by subst e;exact hq)
 | run _ j hi hu x l hp hs =>
  by_cases e:j=i
  .subst e;rw[hp]at hq
   rcases mn.1 hq with rfl|hq
   .exact .inr ⟨l,hp,rfl⟩
   .exact .inl (by rw[Am,if_pos rfl];exact hq)
  .exact .inl (put λf=>absurd f e)
 | qx _ j hi hu hL=>exact .inl (put λe=>by subst e;exact hq)
 | lead _ j hi hu hL=>exact False.elim hL
 | sub _ j d hi hu hD=>exact False.elim hD
 | kc _ j k hi hu hk hC=>exact False.elim hC
 | start _ j hi hu hs=>exact False.elim hs
theorem GP(a:(M.ab i).up=true):M.act (acN 3 (i:Int))=M.set i ((M.ab i).piece i M.br M.eo).1 ((M.ab i).piece i M.br M.eo).2.1 ((M.ab i).piece i M.br M.eo).2.2:=by
 unfold Meet.act;simp[acN,a]
theorem FL(a:i<5):LacOk (acN 3 (i:Int)):=Ef ⟨.inr (.inl rfl),by omega,by omega⟩
theorem ZW(i:Nat):wh1.may (acN 3 (i:Int)):=⟨λe=>absurd e (by show(3:Int)≠1;decide),λe=>absurd e (by show(3:Int)≠2;decide),λe=>absurd e (by show(3:Int)≠8;decide),λe=>absurd e (by show ¬ ((3:Int)=4\/(3:Int)=5\/(3:Int)=6\/(3:Int)=7);decide),λe=>absurd e (by show(3:Int)≠9;decide)⟩
end
section
variable{I J:Meet->Prop}
theorem Cw(a:∀ c M N,Stp wh1 c M N->I M->I N){n:Nat}{M:Meet}(b:MOk n M){i:Nat}(d:i<5)(h:I M):I (M.act (acN 3 (i:Int))):=(Oy (D:=wh1) b (FL d) (ZW i)).inv a h
theorem Wp(a:∀ c M N,Stp wh1 c M N->I M->I N)(b:∀ c M N,Stp wh1 c M N->I M->J M->J N){n:Nat}{M:Meet}(e:MOk n M){i:Nat}(f:i<5)(p:(M.ab i).up=true)(o:AP (M.ab i).d (M.ab i).sy){q:Pend}(j:q∈(M.ab i).bu)(h:I M)
  (m:∀ N l,I N->(N.ab i).bu=q::l->J (N.set i { (N.ab i).ln i q with bu:=l } (N.br++(N.ab i).qt i q) N.eo)):J (M.act (acN 3 (i:Int))):=by
 have k:=Cw (I:=λN=>I N/\(q∈(N.ab i).bu\/J N)) (λc A B s g=>⟨a c A B s g.1,by
  rcases g.2 with g2|g2
  .rcases NR s.calm g2 with g3|⟨l,g3,rfl⟩
   .exact .inl g3
   .exact .inr (m A l g.1 g3)
  .exact .inr (b c A B s g.1 g2)⟩) e f ⟨h,.inl j⟩
 refine k.2.resolve_left λg=>?_;rw[GP p,Am,if_pos rfl,H4 o]at g
 cases g
def TkS(M N:Meet):Prop:=∃ l,l∈M.br/\(l.src<5/\l.dst<5)/\(M.ab l.dst).up=true/\N=M.set l.dst ((M.ab l.dst).take l) M.br M.eo
theorem TkS.qY{M N:Meet}(h:TkS M N):Stp wh0 0 M N:=by obtain⟨l,a,b,c,rfl⟩:=h;exact .take M l a b c trivial
theorem Ja(e:∀ M N,TkS M N->I M->I N)(l:List Let){M:Meet}(a:∀ m∈l,m∈M.br/\m.src<5/\m.dst<5)(h:I M):I (l.foldl (λM l=>M.mv l) M)/\(l.foldl (λM l=>M.mv l) M).br=M.br:=by
 induction l generalizing M with
 | nil=>exact⟨h,rfl⟩
 | cons x l ih =>
  obtain⟨b,c⟩:=a x M';have d:I (M.mv x):=by
   unfold Meet.mv;split
   .rename_i hu;exact e M _ ⟨x,b,c,hu,rfl⟩ h
   .exact h
  have:=ih (M:=M.mv x) (λm f=>by rw[DZ];exact a m (I' _ f)) d;exact⟨this.1,this.2.trans (DZ M x)⟩
theorem DD(f:∀ M N,TkS M N->I M->I N)(t:∀ M N,TkS M N->I M->J M->J N){n:Nat}{M:Meet}(o:MOk n M)(h:I M){l:Let}(k:l∈M.br)(q:∀ N,I N->(N.ab l.dst).up=true)
  (u:∀ N,I N->N.br=M.br->J (N.set l.dst ((N.ab l.dst).take l) N.br N.eo)):∃ N,M.act (acN 7 0)={ N with br:=[] }/\I N/\J N/\N.br=M.br:=by
 have j:∀ m∈M.br,m.src<5/\m.dst<5:=λm d=>⟨(o.br m d).src,(o.br m d).dst⟩;obtain⟨a,b,e⟩:=List.append_of_mem k;have r:M.act (acN 7 0)={ M.br.foldl (λM l=>M.mv l) M with br:=[] }:=by
  show M.qz=_;unfold Meet.qz;rw[Hq]
 refine⟨_,r,?_⟩;have c:=Ja f a (M:=M) (λm d=>by have:m∈M.br:=(by rw[e];exact mi _ d);exact⟨this,j m this⟩) h;rw[show M.br.foldl (λM l=>M.mv l) M=b.foldl (λM l=>M.mv l) ((a.foldl (λM l=>M.mv l) M).mv l)by rw[e,oM];rfl];generalize a.foldl (λM l=>M.mv l) M=A at c ⊢;have p:A.mv l=A.set l.dst ((A.ab l.dst).take l) A.br A.eo:=by unfold Meet.mv;rw[if_pos (q A c.1)];rfl
 have s:TkS A (A.mv l):=⟨l,by rw[c.2];exact k,j l k,q A c.1,p⟩;have i:=Ja (I:=λN=>I N/\J N) (λA B s g=>⟨f A B s g.1,t A B s g.1 g.2⟩) b (M:=A.mv l) (λm d=>by
  have:m∈M.br:=by rw[e];exact mh _ (I' _ d)
  exact⟨by rw[DZ,c.2];exact this,j m this⟩) ⟨f _ _ s c.1,by rw[p];exact u A c.1 c.2⟩
 exact⟨i.1.1,i.1.2,by rw[i.2,DZ,c.2]⟩
end
theorem KbI.mono{K R a b:Int}{M:Meet}(h:KbI K R M)(d:K<=a)(e:R<=b):KbI a b M:=λj c=>⟨mC (h j c).1 d,mC (h j c).2 e⟩
theorem Tf{D:Wh}(l:¬ D.ld){n:Nat}{M N:Meet}(s:Sts D n M N){σ:Gs}(h:AgI σ M){K R:Int}(a:K<=R)(f:KbI K R M):∃ (τ:Gs) (ex:List (Bal × Nat)),σ.le τ/\AgI τ N/\KbI K R N/\ex.length<=n/\∀ b s c,τ.W b s c->σ.W b s c\/(b,s)∈ex:=by
 induction s with
 | nil=>exact⟨σ,[],.refl σ,h,f,mH _,λ_ _ _ g=>.inl g⟩
 | snoc _ s hm ih =>
  obtain⟨τ,ex,i,d,j,r,k⟩:=ih h f;obtain⟨υ,e,m,o,p,q⟩:=d.step s;refine⟨υ,ex++e.toList,i.trans m,o,j.step l d s a,?_,λb s c g=>?_⟩
  .cases e with
   | none=>simp;omega
   | some x=>have:=(q x.1 x.2 rfl).1;simp;omega
  .rcases p b s c g with g|g
   .exact(k b s c g).imp id λg=>mi _ g
   .exact .inr (mh _ (by rw[g];exact D'.2 rfl))
theorem KbI.lead{σ:Gs}{M:Meet}(h:AgI σ M){R:Int}(l:KbI R R M){i:Nat}(m:i<5)(j:(M.ab i).up=true)(o:List Let)(q:List Tol):KbI (R+9) (R+9) (M.set i ((M.ab i).lead i) o q):=by
 obtain⟨t,k⟩:=(h.nd i m).up j;have f:=l i m;have c:=f.1;unfold Nod.pk at c;rw[if_pos j]at c
 have s:=Yy (b:=(M.ab i).vo.p) (by rw[k.tp.vo];exact k.tp.ok.acc.1);refine(l.mono (by omega) (by omega)).set ?_ _ _;unfold Nod.lead;simp only;generalize n:(⟨max (M.ab i).cF (M.ab i).vo.p.r+1,(i:Int)⟩:Bal)=b;rcases k.tp.au b with⟨e,he⟩|⟨e,he,hvs,rs',hp,ht,hm,hpb,hpv,d,a,hq⟩
 .rw[if_pos e];exact⟨by have:=f.1;omega,by have:=f.2;omega⟩
 .rw[if_neg (λg=>g e)];refine⟨?_,?_⟩
  .show(if((M.ab i).au b).1.up=true then((M.ab i).au b).1.vo.p.key else(DY ((M.ab i).au b).1.d).2.p.key)<=_;rw[if_pos (by rw[hq];exact j),ht.vo,hpb,<- n];show 5*(max (M.ab i).cF (M.ab i).vo.p.r+1)+(i:Int)<=_;omega
  .show 5*((M.ab i).au b).1.cF<=_;rw[hq];show 5*(M.ab i).cF<=_;omega
def whL:Wh:=⟨λ_ _=>True,False,True,True,True,True⟩
def lds(L:List Lac):Nat:=L.countP λx=>decide (x.k=2)
theorem We(L:List Lac){n:Nat}{M:Meet}(w:MOk n M)(B:n+L.length<=1000000)(v:∀ x∈L,LacOk x){σ:Gs}(h:AgI σ M){R:Int}(l:KbI R R M){cov:List (Bal × Nat)}(m:∀ b s c,σ.W b s c->(b,s)∈cov) :
  ∃ (τ:Gs) (cov':List (Bal × Nat)),σ.le τ/\AgI τ (M.dc L)/\KbI (R+9*(lds L:Int)) (R+9*(lds L:Int)) (M.dc L)/\cov'.length<=cov.length+L.length/\∀ b s c,τ.W b s c->(b,s)∈cov':=by
 induction L generalizing n M σ R cov with
 | nil=>exact⟨σ,cov,.refl σ,h,l.mono (by simp[lds]) (by simp[lds]),A' _,m⟩
 | cons x L ih =>
  rw[mE]at B
  have t:=v x M';have r:lds (x::L)=lds L+if x.k=2 then 1 else 0:=by unfold lds;rw[oP];simp
  have one:∃ (τ:Gs) (cov':List (Bal × Nat)),σ.le τ/\AgI τ (M.act x)/\KbI (R+if x.k=2 then 9 else 0) (R+if x.k=2 then 9 else 0) (M.act x)/\cov'.length<=cov.length+1/\∀ b s c,τ.W b s c->(b,s)∈cov':=by
   by_cases d:x.k=2
   .rw[if_pos d];have z:x.n.toNat<5:=by have:=t.n (by rw[d];rfl);omega
    have e:M.act x=M.set x.n.toNat (if(M.ab x.n.toNat).up then(M.ab x.n.toNat).lead x.n.toNat else M.ab x.n.toNat) M.br M.eo:=by
     unfold Meet.act;simp only;rw[if_neg (by omega),if_pos d]
    by_cases o:(M.ab x.n.toNat).up=true
    .rw[if_pos o]at e
     obtain⟨τ,u,f,i,j,p⟩:=h.step (D:=whT) (.lead M _ z o trivial);refine⟨τ,cov,f,by rw[e];exact i,by rw[e];exact l.lead h z o _ _,by omega,λb s c g=>?_⟩;rcases j b s c g with g|g
     .exact m b s c g
     .exact absurd (p b s g).1 (by decide)
    .rw[if_neg o,EC]at e
     rw[e];exact⟨σ,cov,.refl σ,h,l.mono (by omega) (by omega),by omega,m⟩
   .rw[if_neg d,Int.add_zero];obtain⟨τ,u,f,i,j,p,q⟩:=Tf (D:=whL) (λe=>e) (Oy w t ⟨λ_=>trivial,λe=>d e,λ_=>trivial,λ_=>⟨trivial,trivial⟩,λ_=>trivial⟩) h (mc R) l;refine⟨τ,cov++u,f,i,j,by rw[H'];omega,λb s c g=>?_⟩;exact(q b s c g).elim (λg=>mi _ (m b s c g)) λg=>mh _ g
  obtain⟨τ,cov',f,i,j,p,q⟩:=one;obtain⟨υ,a,E,F,A,H,G⟩:=ih (w.act (by omega) t) (by omega) (λy C=>v y (I' _ C)) i j q;have e:R+(if x.k=2 then 9 else 0)+9*(lds L:Int)=R+9*(lds (x::L):Int):=by
   rw[r];split<;>omega
  rw[e]at A
  exact⟨υ,a,f.trans E,F,A,by rw[mE];omega,G⟩
theorem KbI.zero:KbI 0 0 Ao:=λj a=>⟨by show CW.pk<=0;decide,by show 5*CW.cF<=0;decide⟩
section
variable{S:Cmd->Prop}
section
def VsS(S:Cmd->Prop)(l:List Vt):Prop:=∀ v∈l,S v.w
def RsS(S:Cmd->Prop)(rs:List Rk):Prop:=∀ v,Rk.vt v∈rs->S v.w
def PnS(S:Cmd->Prop):Pend->Prop
 | .began _ vs=>VsS S vs
 | .prom _ _ vs=>VsS S vs
 | .voted _ v=>S v.w
 | .prop v=>S v.w
 | _=>True
structure NdS(S:Cmd->Prop)(p:Nod):Prop where
 up:p.up=true->∃ dr rs,TpU p dr rs/\RsS S rs
 dn:p.up=false->∃ dr,TpD p dr/\RsS S dr
 ag:∀ c∈p.ae,S c
 wa:∀ c∈p.bn,S c
 qu:∀ c∈p.av.ew,S c
 he:∀ j,j<5->VsS S (p.av.an j).vs
 pe:∀ q∈p.bu,PnS S q
structure LtS(S:Cmd->Prop)(l:Let):Prop where
 vs:VsS S l.lp
 wh:∀ c∈l.fa,S c
 vt:l.kind=3\/l.kind=4->S l.cl.w
variable{M:Meet}{dr:List Rk}{i:Nat}{p q:Nod}{r:Rnd}
theorem NdS.tape(h:NdS S p){q:Nod}(i:q.up=p.up)(a:q.d=p.d)(f:q.sy=p.sy)(n:q.vo=p.vo)(l:∀ c∈q.ae,S c)(t:∀ c∈q.bn,S c)(r:∀ c∈q.av.ew,S c)(m:∀ j,j<5->VsS S (q.av.an j).vs)(o:∀ x∈q.bu,PnS S x):NdS S q :=
 ⟨λe=>by
  obtain⟨b,s,k,g⟩:=h.up (i▸e);exact⟨b,s,⟨k.ok,k.pre,a.trans k.d,f.trans k.sy,n.trans k.vo,by rw[a];exact k.len⟩,g⟩,λe=>by
  obtain⟨b,k,g⟩:=h.dn (i▸e);exact⟨b,⟨k.ok,by rw[a];exact k.rZ,by rw[a];exact k.tk,by rw[f,a];exact k.sy,by rw[a];exact k.len⟩,g⟩,l,t,r,m,o⟩
theorem NdS.wait(h:NdS S p){x:Pend}(a:PnS S x):NdS S (p.wait x) :=
 h.tape rfl rfl rfl rfl h.ag h.wa h.qu h.he λy b=>(P'.1 b).elim (h.pe y) λe=>by rw[D'.1 e];exact a
theorem NdS.ed(h:NdS S p)(to:Nat)(e:Int):NdS S (p.ed to e):=by
 unfold Nod.ed;split
 .exact h.wait trivial
 .exact h
theorem NdS.wrote(h:NdS S p){f b:List Rk}(j:TpU q f b)(i:RsS S b)(k:p.up=true){d:List Int}{a:Acc}(g:q=p.tv d p.sy a)(l:∀ c∈q.ae,S c):NdS S q:=by
 subst g;exact⟨λ_=>⟨f,b,j,i⟩,λe=>(by rw[show(p.tv d p.sy a).up=p.up from rfl,k]at e;cases e),h.ag,h.wa,h.qu,h.he,h.pe⟩
theorem fO(h:∀ j,j<5->VsS S (r.an j).vs){a:Acc}(b:a∈r.hU):VsS S a.vs:=by
 unfold Rnd.hU at b;simp only[mn,Q',or_false]at b;rcases b with rfl|rfl|rfl|rfl|rfl
 .exact h 0 (by omega)
 .exact h 1 (by omega)
 .exact h 2 (by omega)
 .exact h 3 (by omega)
 .exact h 4 (by omega)
theorem Ya(h:∀ j,j<5->VsS S (r.an j).vs){s:Int}{v:Vt}(e:v∈Ae (r.hU.map (·.vs)).flatten s):S v.w:=by
 obtain⟨l,b,c⟩:=oC.1 (Bd.1 e).1;obtain⟨a,d,rfl⟩:=mA.1 b;exact fO h d v c
theorem gj(h:∀ j,j<5->VsS S (r.an j).vs){s:Int}(a:CV r.hU s=0):S (CM r.hU s):=by
 have c:CM r.hU s=((GS (Dv r.hU s) r.hU.length).map (·.w)).getD ⟨0,0,0,0,0⟩:=if_pos a;unfold CV at a;split at a
 .cases a
 .split at a
  .cases a
  .split at a
   .rename_i hO
    obtain⟨v,b⟩:=nh.1 hO;rw[c,b];exact Ya h (pR b)
   .cases a
theorem gX(h:∀ j,j<5->VsS S (r.an j).vs)(k:Nat){l:List Cmd}(a:∀ c∈l,S c):∀ c∈F8 k r l,S c:=by
 induction k generalizing l with
 | zero=>exact a
 | succ k ih =>
  rw[F8];split
  .rename_i he;exact ih λc b=>(P'.1 b).elim (a c) λe=>by rw[D'.1 e];exact gj h he
  .exact a
theorem NdS.qv(h:NdS S p):NdS S p.qv:=h.tape rfl rfl rfl rfl (gX h.he 41 h.ag) h.wa h.qu h.he h.pe
theorem cM(a:Acc)(l:List Vt)(d:VsS S a.vs)(e:VsS S l):VsS S (Dd a l).vs:=by
 induction l generalizing a with
 | nil=>exact d
 | cons u l ih =>
  rw[Dd];refine ih _ ?_ λv b=>e v (I' _ b);by_cases c:AX a u=0
  .rw[if_pos c];intro v b;have b:v∈Bq a u:=b;rw[(D8 c).2]at b
   rcases(BB (Aq c).1.2.2).1 b with rfl|⟨b,_⟩
   .exact e v M'
   .exact d v b
  .rw[if_neg c];exact d
theorem Yn(h:∀ j,j<5->VsS S (r.an j).vs)(j:Nat)(b:j<5){a:List Vt}(d:VsS S a):∀ k,k<5->VsS S ((r.qJ j a).an k).vs:=λk c=>by
 show VsS S (upN r.an j _ k).vs;unfold upN;split
 .exact cM ⟨r.fv,a⟩ _ d (h j b)
 .exact h k c
theorem NdS.count(h:NdS S p){j:Nat}(c:j<5){v:Vt}(e:S v.w):NdS S (p.count j v):=by
 unfold Nod.count;split
 .exact h
 .split
  .exact h
  .rename_i b
   have b:=mg.1 b;refine NdS.qv (h.tape rfl rfl rfl rfl h.ag h.wa h.qu (λk d=>?_) h.pe);show VsS S (upN p.av.an j _ k).vs;unfold upN;split
   .intro u a;have a:u∈Bq (p.av.an j) v:=a;rw[(D8 b).2]at a
    rcases(BB (Aq b).1.2.2).1 a with rfl|⟨a,_⟩
    .exact e
    .exact h.he j c u a
   .exact h.he k d
theorem gA(q l:List Cmd)(b:∀ c∈q,S c)(f:∀ c∈l,S c):∀ c∈GU q l,S c:=by
 induction l generalizing q with
 | nil=>exact b
 | cons d l ih =>
  rw[GU];refine ih _ ?_ λc a=>f c (I' _ a);split
  .exact λc a=>(P'.1 a).elim (b c) λe=>by rw[D'.1 e];exact f d M'
  .exact b
theorem NdS.dT(h:NdS S p){l:List Cmd}(a:∀ c∈l,S c):NdS S (p.dT l):=by
 unfold Nod.dT;split
 .exact h.tape rfl rfl rfl rfl h.ag h.wa (gA _ _ h.qu a) h.he h.pe
 .exact h
theorem NdS.jv(h:NdS S p)(bt:Nat){l:List Cmd}(b:∀ c∈l,S c):NdS S (p.jv bt l) :=
 h.tape rfl rfl rfl rfl (λc a=>(P'.1 a).elim (h.ag c) λg=>b c (nO g)) h.wa h.qu h.he h.pe
theorem TpU.sY{a:List Rk}(h:TpU p dr a)(b:RsS S a):VsS S p.vo.vs:=λv c=>b v (IB h.ok v (by rw[<- h.vo];exact c))
theorem NdS.take(h:NdS S p)(f:p.up=true){l:Let}(b:LtS S l)(j:l.src<5):NdS S (p.take l):=by
 obtain⟨m,n,k,c⟩:=h.up f;unfold Nod.take;split
 .rcases k.au l.fv with⟨e,he⟩|⟨e,he,hvs,rs',hp,ht,hm,hpb,hpv,d,a,hq⟩
  .rw[if_pos e];exact h.ed _ _
  .rw[if_neg (λg=>g e)];exact(h.wrote ht (λv i=>c v ((hm v).1 i)) f hq (by rw[hq];exact h.ag)).wait (by show VsS S _;rw[hvs];exact k.sY c)
 .have hL:=h.jv 0 b.wh;generalize p.jv 0 l.fa=K at hL ⊢;simp only;split
  .exact hL
  .exact NdS.qv (hL.tape rfl rfl rfl rfl hL.ag hL.wa hL.qu (Yn hL.he _ j b.vs) hL.pe)
 .exact h.tape rfl rfl rfl rfl h.ag h.wa h.qu h.he h.pe
 .rename_i hk
  rcases k.cl l.cl with⟨e,he⟩|⟨e,he,rs',hp,ht,hm,hpb,d,a,hq⟩
  .rw[if_pos e];exact h.ed _ _
  .rw[if_neg (λg=>g e)];exact(h.wrote ht (λv i=>((hm v).1 i).elim (λe=>by rw[e];exact b.vt (.inl hk)) (c v)) f hq (by rw[hq];exact h.ag)).wait (b.vt (.inl hk))
 .rename_i hk;exact h.count j (b.vt (.inr hk))
 .split
  .exact h.wait trivial
  .exact h.jv _ b.wh
 .simp only;split
  .exact(h.dT b.wh).wait trivial
  .exact h.dT b.wh
 .exact h
theorem KA(h:NdS S p){s:Nat}{c:Cmd}(b:p.qo s=some c):S c:=by
 unfold Nod.qo at b;split at b
 .cases b
 .rename_i a
  have a:=mg.1 a;split at b
  .rename_i hF
   have f:Hh (p.av.hU.map (·.vs)) (s:Int)=((FU (p.av.hU.map (·.vs)) (s:Int)).map (·.w)).getD ⟨0,0,0,0,0⟩:=if_pos a;have d:DP (p.av.hU.map (·.vs)) (s:Int)=(FU (p.av.hU.map (·.vs)) (s:Int)).isSome:=if_pos a;rw[hF]at d
   obtain⟨x,i⟩:=nh.1 d.symm;rw[i]at f
   rw[<- mS b,f];refine Ya h.he (s:=(s:Int)) ?_;have:∀ (l:List Vt) (o:Option Vt) (x:Vt),BQ l o=some x->x∈l\/o=some x:=by
    intro l;induction l with
    | nil=>intro o x e;exact .inr e
    | cons v l ih =>
     intro o x e;cases o with
     | none =>
      rw[BQ]at e
      rcases ih _ _ e with g|g
      .exact .inl (I' _ g)
      .left;cases g;exact M'
     | some u =>
      rw[BQ]at e
      split at e
      .rcases ih _ _ e with g|g
       .exact .inl (I' _ g)
       .left;cases g;exact M'
      .rcases ih _ _ e with g|g
       .exact .inl (I' _ g)
       .exact .inr g
   exact(this _ _ _ i).resolve_right λe=>by cases e
  .exact h.qu c (pR b)
theorem NdS.cn(h:NdS S p)(f:p.up=true):NdS S p.cn:=by
 obtain⟨l,m,k,i⟩:=h.up f;unfold Nod.cn;split
 .exact h
 .cases hn:p.qo p.ae.length with
  | none=>exact h
  | some c =>
   have b:=KA h hn;simp only;rcases k.cl ⟨(p.ae.length:Int),p.av.fv,c⟩with⟨e,he⟩|⟨e,he,rs',hp,ht,hm,hpb,d,a,hq⟩
   .rw[if_pos e];exact h
   .rw[if_neg (λg=>g e)];have g:=h.wrote ht (λv j=>((hm v).1 j).elim (λe=>by rw[e];exact b) (i v)) f hq (by rw[hq];exact h.ag);exact NdS.wait (p:={ (p.cl ⟨(p.ae.length:Int),p.av.fv,c⟩).1 with av:={ p.av with next:=p.ae.length+1 } }) (g.tape rfl rfl rfl rfl g.ag g.wa h.qu h.he g.pe) b
theorem NdS.run(n:i<5){p:Nod}(h:NdS S p){q:Pend}{l:List Pend}(o:p.bu=q::l):NdS S { p.ln i q with bu:=l }/\∀ m∈p.qt i q,LtS S m:=by
 have f:=h.pe q (by rw[o];exact M');have j:∀ {p':Nod},NdS S p'->p'.bu=p.bu->NdS S { p' with bu:=l }:=λ{p'} g e=>g.tape rfl rfl rfl rfl g.ag g.wa g.qu g.he λx r=>g.pe x (by rw[e,o];exact I' _ r);have none:∀ c∈([]:List Cmd),S c:=λc k=>by cases k
 have a:VsS S []:=λc k=>by cases k
 cases q with
 | began b vs =>
  unfold Nod.ln Nod.qt;simp only;split
  .exact⟨j h rfl,λm d=>(by cases d)⟩
  .refine⟨j (p':={ p with av:=p.av.qJ i vs }) (h.tape rfl rfl rfl rfl h.ag h.wa h.qu (Yn h.he i n f) h.pe) rfl,λm d=>?_⟩;obtain⟨to,_,rfl⟩:=CB d;exact⟨a,none,λe=>e.elim (λg=>by cases g) λg=>(by cases g)⟩
 | prom to b vs=>exact⟨j h rfl,λm d=>by rw[D'.1 d];exact⟨f,h.ag,λe=>e.elim (λg=>by cases g) λg=>(by cases g)⟩⟩
 | voted to v=>exact⟨j h rfl,λm d=>by rw[D'.1 d];exact⟨a,none,λ_=>f⟩⟩
 | ed to b=>exact⟨j h rfl,λm d=>by rw[D'.1 d];exact⟨a,none,λe=>e.elim (λg=>by cases g) λg=>(by cases g)⟩⟩
 | prop v =>
  refine⟨j (h.count n f) (D4 p i (.prop v)).1,λm d=>?_⟩;obtain⟨to,_,rfl⟩:=CB d;exact⟨a,none,λ_=>f⟩
 | askNews to=>exact⟨j h rfl,λm d=>by rw[D'.1 d];exact⟨a,none,λe=>e.elim (λg=>by cases g) λg=>(by cases g)⟩⟩
 | start =>
  refine⟨j h rfl,λm d=>?_⟩;obtain⟨to,_,rfl⟩:=CB d;exact⟨a,none,λe=>e.elim (λg=>by cases g) λg=>(by cases g)⟩
 | tell to bt=>exact⟨j h rfl,λm d=>by rw[D'.1 d];exact⟨a,λc k=>h.ag c (nO k),λe=>e.elim (λg=>by cases g) λg=>(by cases g)⟩⟩
theorem NdS.lead(h:NdS S p)(m:p.up=true):NdS S (p.lead i):=by
 obtain⟨o,q,k,l⟩:=h.up m;unfold Nod.lead;simp only;generalize (⟨max p.cF p.vo.p.r+1,(i:Int)⟩:Bal)=b;rcases k.au b with⟨e,he⟩|⟨e,he,hvs,rs',hp,ht,hm,hpb,hpv,d,a,hq⟩
 .rw[if_pos e];exact h
 .rw[if_neg (λg=>g e)];have g:=h.wrote ht (λv f=>l v ((hm v).1 f)) m hq (by rw[hq];exact h.ag);exact NdS.wait (p:={ (p.au b).1 with av:=⟨b,λ_=>false,λ_=>DS,λ_=>p.ae.length,0,[]⟩ }) (x:=.began b (p.au b).2.1) (g.tape rfl rfl rfl rfl g.ag g.wa (λc n=>by cases n) (λj _ v f=>by cases f) g.pe) (by show VsS S _;rw[hvs];exact k.sY l)
theorem ga(b:Bal)(f:Cmd->Option Bal)(l:List Cmd)(h:∀ c∈l,S c):∀ c∈(AZ b f l).1,S c:=by
 induction l generalizing f with
 | nil=>intro c a;cases a
 | cons d l g =>
  have g:=λf=>g f λc a=>h c (I' _ a);rw[AZ];split
  .exact λc a=>(mn.1 a).elim (λe=>by rw[e];exact h d M') (g _ c)
  .exact g f
structure MtS(S:Cmd->Prop)(M:Meet):Prop where
 nd:∀ i,i<5->NdS S (M.ab i)
 lt:∀ l∈M.br,LtS S l
theorem MtS.set(h:MtS S M){i:Nat}{p:Nod}(d:NdS S p){ls:List Let}(b:∀ l∈ls,l∈M.br\/LtS S l)(ts:List Tol):MtS S (M.set i p ls ts) :=
 ⟨λj a=>by
  show NdS S (upN M.ab i p j);unfold upN;split
  .exact d
  .exact h.nd j a,λl c=>(b l c).elim (h.lt l) id⟩
theorem MtS.step{D:Wh}(x:∀ i d,D.d i d->∀ now:Nat,opE d (now:Int)=0->S (GW d (now:Int))){n:Nat}{M N:Meet}(s:Stp D n M N)(h:MtS S M):MtS S N:=by
 have same:∀ l∈M.br,l∈M.br\/LtS S l:=λl o=>.inl o;have app:∀ {ms:List Let},(∀ m∈ms,LtS S m)->∀ l∈M.br++ms,l∈M.br\/LtS S l:=λg l o=>(P'.1 o).imp id (g l);cases s with
 | take _ l o hd hu _=>exact h.set ((h.nd _ hd.2).take hu (h.lt l o) hd.1) same _
 | br _ ls o _=>exact⟨h.nd,λl g=>h.lt l (o l g)⟩
 | one _ i c hi hu a he =>
  refine h.set ?_ same _;have k:=h.nd i hi;unfold Nod.gC;split
  .exact k.tape rfl rfl rfl rfl k.ag (λc a=>k.wa c (List.mem_of_mem_erase a)) k.qu k.he k.pe
  .exact k.tape rfl rfl rfl rfl k.ag k.wa k.qu k.he k.pe
 | ask _ i hi hu =>
  have k:=h.nd i hi;have E:=ga (M.ab i).vo.p (M.ab i).bN ((M.ab i).bn.take 40) λc a=>k.wa c (mr a);have B:NdS S { M.ab i with bN:=(AZ (M.ab i).vo.p (M.ab i).bN ((M.ab i).bn.take 40)).2 }:=k.tape rfl rfl rfl rfl k.ag k.wa k.qu k.he k.pe;refine h.set ?_ (app ?_) _
  .unfold Nod.hZ;split
   .exact B
   .split
    .exact B.dT E
    .exact B
  .intro m hm;unfold Nod.hZ at hm;split at hm
   .cases hm
   .split at hm
    .cases hm
    .rw[D'.1 hm];exact⟨λv f=>(by cases f),E,λe=>e.elim (λg=>by cases g) λg=>(by cases g)⟩
 | prop _ i hi hu=>exact h.set ((h.nd i hi).cn hu) same _
 | qA _ i hi hu hlt y =>
  have k:=h.nd i hi;obtain⟨u,C,g,r⟩:=k.up hu;exact h.set (p:={ M.ab i with sy:=((M.ab i).d.length:Int) }) ⟨λ_=>⟨C,C,g.qA,r⟩,λe=>(by rw[show _=(M.ab i).up from rfl,hu]at e;cases e),k.ag,k.wa,k.qu,k.he,k.pe⟩ same _
 | run _ i hi hu q l hp hs =>
  have g:=(h.nd i hi).run hi hp;exact h.set g.1 (app g.2) _
 | qx _ i hi hu hL =>
  have k:=h.nd i hi;refine h.set (p:=Eu (M.ab i) i 5) (k.tape rfl rfl rfl rfl k.ag k.wa k.qu k.he k.pe) (app ?_) _;have:∀ n,∀ m∈Dl (M.ab i) i n,LtS S m:=by
   intro n;induction n with
   | zero=>intro m hm;cases hm
   | succ n ih =>
    intro m hm;rw[Dl]at hm
    rcases P'.1 hm with hm|hm
    .exact ih m hm
    .split at hm
     .rw[D'.1 hm];exact⟨λv f=>(by cases f),λc a=>k.ag c (nO a),λe=>e.elim (λg=>by cases g) λg=>(by cases g)⟩
     .cases hm
  exact this 5
 | lead _ i hi hu _=>exact h.set ((h.nd i hi).lead hu) same _
 | sub _ i d hi hu hd =>
  have k:=h.nd i hi;refine h.set ?_ same _;unfold Nod.qM Nod.qP;split
  .exact k
  .split
   .exact k.tape rfl rfl rfl rfl k.ag k.wa k.qu k.he k.pe
   .rename_i he
    split
    .exact k
    .show NdS S (Nod.want _ _);unfold Nod.want;split
     .exact k
     .exact k.tape rfl rfl rfl rfl k.ag (λc a=>(P'.1 a).elim (k.wa c) λe=>by rw[D'.1 e];exact x i d hd _ (mg.1 he)) k.qu k.he k.pe
 | kc _ i c hi hu a _ =>
  have k:=h.nd i hi;obtain⟨u,C,g,r⟩:=k.up hu;obtain⟨w,_,G,x⟩:=g.kc a;have z:Gd (M.ab i).d (M.ab i).sy c=0:=by unfold Gd;rw[if_neg (λe=>e g.rC),if_neg (by omega)]
  have A:=EW (p:=M.ab i) g.rC a;refine h.set ⟨λe=>(by rw[A.2.1]at e;cases e),λ_=>⟨w,x,λv f=>r v (G.subset f)⟩,?_,?_,?_,?_,?_⟩ same _<;>(unfold Nod.kc;rw[if_neg (λe=>e z)])
  .exact λc a=>by cases a
  .exact λc a=>by cases a
  .exact λc a=>by cases a
  .exact λj _ v f=>by cases f
  .exact λc a=>by cases a
 | start _ i hi hu _ =>
  obtain⟨u,g,r⟩:=(h.nd i hi).dn hu;have y:AP (M.ab i).d (M.ab i).sy:=⟨g.len,by rw[g.sy];omega,by rw[g.sy];omega⟩;have t:=Fj (p:=M.ab i) y;have b:(M.ab i).start.av=dQ/\(M.ab i).start.bu=[.start]/\(M.ab i).start.bn=[]:=by
   unfold Nod.start;rw[if_neg (λe=>e (if_pos y))];split<;>exact⟨rfl,rfl,rfl⟩
  refine h.set ⟨λ_=>⟨u,u,g.start,r⟩,λe=>(by rw[t.2.1]at e;cases e),?_,?_,?_,?_,?_⟩ same _
  .rw[t.2.2.2];exact λc a=>by cases a
  .rw[b.2.2];exact λc a=>by cases a
  .rw[b.1];exact λc a=>by cases a
  .rw[b.1];exact λj _ v f=>by cases f
  .rw[b.2.1];exact λq F=>by rw[D'.1 F];trivial
theorem MtS.zero:MtS S Ao:=⟨λi _=>⟨λ_=>⟨[],[],TpU.zero,λv b=>(by cases b)⟩,λe=>(by cases e),λc a=>(by cases a),λc a=>(by cases a),λc a=>(by cases a),λj _ v b=>(by cases b),λc a=>(by cases a)⟩,λl d=>(by cases d)⟩
theorem fR(L:List Lac)(f:∀ x∈L,LacOk x)(n:L.length<=100000)(j:∀ x∈L,x.k=1->∀ now:Nat,opE x.d (now:Int)=0->S (GW x.d (now:Int))):MtS S (Ao.dc L):=by
 have s:Sts ⟨λ_ d=>∃ x∈L,x.k=1/\x.d=d,True,True,True,True,True⟩ L.length Ao (Ao.dc L):=ES L MOk.zero (by omega) λx a=>⟨f x a,λe=>⟨x,a,e,rfl⟩,λ_=>trivial,λ_=>trivial,λ_=>⟨trivial,trivial⟩,λ_=>trivial⟩;exact s.inv (λ_ M N h g=>g.step (λi d l now m=>by obtain⟨x,b,c,rfl⟩:=l;exact j x b c now m) h) MtS.zero
end
end
end
end Go.Proofs.YtgbabbapcibnlabGreatDoor
