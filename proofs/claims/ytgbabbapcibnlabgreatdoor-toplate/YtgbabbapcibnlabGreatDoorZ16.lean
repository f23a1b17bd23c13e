/- Part 16 of the walk. -/
import Derived.Test.YtgbabbapcibnlabGreatDoorZ15
set_option maxRecDepth 100000
set_option maxHeartbeats 4000000
set_option linter.unusedVariables false
namespace Go.Proofs.YtgbabbapcibnlabGreatDoor
structure Ev(p q:Nod):Prop where
 up:q.up=p.up
 fv:q.av.fv=p.av.fv
 vo:p.vo.p.key<=q.vo.p.key
 cF:p.cF<=q.cF
 ag:p.ae <+: q.ae
 qm:∀ j,p.av.qm j=true->q.av.qm j=true
 next:p.av.next<=q.av.next
 qu:p.av.ew <+: q.av.ew
 wa:∀ c∈q.bn,c∈p.bn
 dn:p.done<=q.done
theorem Ev.refl(p:Nod):Ev p p:=⟨rfl,rfl,mc _,mc _,ml _,λ_ h=>h,A' _,ml _,λ_ h=>h,A' _⟩
theorem Ev.trans{p q r:Nod}(h:Ev p q)(k:Ev q r):Ev p r:=⟨k.up.trans h.up,k.fv.trans h.fv,mC h.vo k.vo,mC h.cF k.cF,h.ag.trans k.ag,λj g=>k.qm j (h.qm j g),me h.next k.next,h.qu.trans k.qu,λc g=>h.wa c (k.wa c g),me h.dn k.dn⟩
theorem Iz(k:Nat)(r:Rnd)(l:List Cmd):l <+: F8 k r l:=by
 induction k generalizing l with
 | zero=>exact ml _
 | succ k ih =>
  rw[F8];split
  .exact(nv _ _).trans (ih _)
  .exact ml _
theorem PQ(l q:List Cmd):q <+: GU q l:=by
 induction l generalizing q with
 | nil=>exact ml _
 | cons c l ih =>
  rw[GU];split
  .exact(nv _ _).trans (ih _)
  .exact ih _
theorem Ev.au(p:Nod)(b:Bal):Ev p (p.au b).1:=by
 unfold Nod.au;split
 .exact .refl p
 .rename_i h
  have a:=Ci (mg.1 h);have c:p.vo.p.key<=b.key:=Bo a.2.1.pr a.1.1 a.2.2;split
  .exact⟨rfl,rfl,c,mc _,ml _,λ_ h=>h,A' _,ml _,λ_ h=>h,A' _⟩
  .split
   .exact .refl p
   .exact⟨rfl,rfl,c,mc _,ml _,λ_ h=>h,A' _,ml _,λ_ h=>h,A' _⟩
theorem Ev.cl(p:Nod)(v:Vt):Ev p (p.cl v).1:=by
 unfold Nod.cl;split
 .exact .refl p
 .rename_i h
  have a:=Aq (mg.1 h);have c:p.vo.p.key<=v.b.key:=Bo a.2.1.2.1.pr a.1.1 a.2.2;split
  .exact⟨rfl,rfl,c,mc _,ml _,λ_ h=>h,A' _,ml _,λ_ h=>h,A' _⟩
  .split
   .exact .refl p
   .exact⟨rfl,rfl,c,mc _,ml _,λ_ h=>h,A' _,ml _,λ_ h=>h,A' _⟩
theorem Ev.bu{p q:Nod}(h:Ev p q)(x:List Pend):Ev p { q with bu:=x }:=⟨h.up,h.fv,h.vo,h.cF,h.ag,h.qm,h.next,h.qu,h.wa,h.dn⟩
theorem Ev.sT(p:Nod){l:List Cmd}(h:p.ae <+: l):Ev p { p with ae:=l }:=⟨rfl,rfl,mc _,mc _,h,λ_ h=>h,A' _,ml _,λ_ h=>h,A' _⟩
theorem Ev.ed(p:Nod)(to:Nat)(e:Int):Ev p (p.ed to e):=by
 unfold Nod.ed;split
 .exact(Ev.refl p).bu _
 .exact .refl p
theorem Ev.count(p:Nod)(j:Nat)(v:Vt):Ev p (p.count j v):=by
 unfold Nod.count;split
 .exact .refl p
 .split
  .exact .refl p
  .exact⟨rfl,rfl,mc _,mc _,Iz _ _ _,λ_ h=>h,A' _,ml _,λ_ h=>h,A' _⟩
theorem Ev.sN(p:Nod)(l:List Cmd):Ev p (p.dT l):=by
 unfold Nod.dT;split
 .exact⟨rfl,rfl,mc _,mc _,ml _,λ_ h=>h,A' _,PQ _ _,λ_ h=>h,A' _⟩
 .exact .refl p
theorem U8{f:Nat->Bool}{i j:Nat}(h:f j=true):upN f i true j=true:=by unfold upN;split<;>first|rfl|exact h
theorem Ev.take(p:Nod)(l:Let):Ev p (p.take l):=by
 unfold Nod.take;split
 .split
  .exact .ed p _ _
  .exact(Ev.au p l.fv).bu _
 .simp only;have a:Ev p (p.jv 0 l.fa):=.sT p (nv _ _);split
  .exact a
  .exact⟨rfl,rfl,mc _,mc _,a.ag.trans (Iz _ _ _),λ_ h=>U8 h,A' _,ml _,λ_ h=>h,A' _⟩
 .exact⟨rfl,rfl,mc _,Int.le_max_left _ _,ml _,λ_ h=>h,A' _,ml _,λ_ h=>h,A' _⟩
 .split
  .exact .ed p _ _
  .exact(Ev.cl p l.cl).bu _
 .exact .count p _ _
 .split
  .exact(Ev.refl p).bu _
  .exact .sT p (nv _ _)
 .simp only;split
  .exact(Ev.sN p l.fa).bu _
  .exact .sN p l.fa
 .exact .refl p
theorem Ev.cn(p:Nod):Ev p p.cn:=by
 unfold Nod.cn;split
 .exact .refl p
 .rename_i hc
  have a:p.av.next<=p.ae.length:=by omega
  split
  .exact .refl p
  .split
   .exact .refl p
   .have h1:=Ev.cl p ⟨(p.ae.length:Int),p.av.fv,‹Cmd›⟩;exact⟨h1.up,rfl,h1.vo,h1.cF,h1.ag,λ_ h=>h,me a (nf _),ml _,h1.wa,h1.dn⟩
theorem Ev.gC(p:Nod)(c:Cmd):Ev p (p.gC c):=by
 unfold Nod.gC;split
 .exact⟨rfl,rfl,mc _,mc _,ml _,λ_ h=>h,A' _,ml _,λ_ h=>List.mem_of_mem_erase h,A' _⟩
 .exact .refl p
theorem Ev.hZ(p:Nod)(i:Nat):Ev p (p.hZ i).1:=by
 have a:Ev p { p with bN:=(AZ p.vo.p p.bN (p.bn.take 40)).2 }:=⟨rfl,rfl,mc _,mc _,ml _,λ_ h=>h,A' _,ml _,λ_ h=>h,A' _⟩;unfold Nod.hZ;split
 .exact a
 .split
  .exact a.trans (.sN _ _)
  .exact a
theorem Ev.ln(p:Nod)(i:Nat)(q:Pend):Ev p (p.ln i q):=by
 cases q with
 | began b vs =>
  simp only[Nod.ln];split
  .exact .refl p
  .exact⟨rfl,rfl,mc _,mc _,ml _,λ_ h=>U8 h,A' _,ml _,λ_ h=>h,A' _⟩
 | prop v=>exact .count p i v
 | _=>exact .refl p
theorem Stp.ev{c:Nat}{M N:Meet}(s:Stp wh0 c M N)(j:Nat):Ev (M.ab j) (N.ab j):=by
 have put:∀ {i:Nat} {p:Nod} {a:List Let} {b:List Tol},Ev (M.ab i) p->Ev (M.ab j) ((M.set i p a b).ab j):=λ{i p a b} h=>by
  rw[Am];split
  .rename_i e;rw[e];exact h
  .exact .refl _
 cases s with
 | take _ l hl hd hu ht=>exact put (.take _ l)
 | br _ a h hd=>exact False.elim hd
 | one _ i c hi hu hc he =>
  refine put (Ev.trans (q:={ M.ab i with lr:=doS (M.ab i).lr c,done:=(M.ab i).done+1 }) ?_ (.gC _ c));exact⟨rfl,rfl,mc _,mc _,ml _,λ_ h=>h,A' _,ml _,λ_ h=>h,nf _⟩
 | ask _ i hi hu=>exact put (.hZ _ i)
 | prop _ i hi hu=>exact put (.cn _)
 | qA _ i hi hu h hT=>exact put ⟨rfl,rfl,mc _,mc _,ml _,λ_ h=>h,A' _,ml _,λ_ h=>h,A' _⟩
 | run _ i hi hu q l hp hs=>exact put ((Ev.ln _ i q).bu l)
 | qx _ i hi hu hL=>exact put ⟨rfl,rfl,mc _,mc _,ml _,λ_ h=>h,A' _,ml _,λ_ h=>h,A' _⟩
 | lead _ i hi hu hL=>exact False.elim hL
 | sub _ i d hi hu hD=>exact False.elim hD
 | kc _ i k hi hu hk hC=>exact False.elim hC
 | start _ i hi hu hs=>exact False.elim hs
theorem Stp.qL{c:Nat}{M N:Meet}(s:Stp wh0 c M N){l:Let}(a:l∈M.br):l∈N.br:=by
 cases s with
 | br _ ls h hd=>exact False.elim hd
 | ask _ i hi hu=>exact mi _ a
 | run _ i hi hu q l hp hs=>exact mi _ a
 | qx _ i hi hu hL=>exact mi _ a
 | _=>exact a
structure Cm(S:Cmd->Prop)(K:Int)(B:Nat->Bal)(cov:List (Bal × Nat))(M:Meet):Prop where
 ex:∃ σ,AgI σ M/\∀ b s c,σ.W b s c->(b,s)∈cov
 kb:K<=3600/\KbI K 3600 M
 up:∀ j,j<5->(M.ab j).up=true
 fv:∀ j,j<5->(M.ab j).av.fv=B j
 s:MtS S M
section
variable{S:Cmd->Prop}{K:Int}{B:Nat->Bal}{cov:List (Bal × Nat)}
theorem Cm.step(n:∀ j,j<5->∀ s,s<40->(B j,s)∈cov){c:Nat}{M N:Meet}(s:Stp wh0 c M N)(h:Cm S K B cov M):Cm S K B cov N:=by
 obtain⟨σ,d,f⟩:=h.ex;obtain⟨τ,o,p,k,l,m⟩:=d.step s;refine⟨⟨τ,k,λb t c g=>?_⟩,⟨h.kb.1,h.kb.2.step (λe=>e) d s h.kb.1⟩,λj a=>(s.ev j).up.trans (h.up j a),λj a=>(s.ev j).fv.trans (h.fv j a),h.s.step (λ_ _ e=>False.elim e) s⟩;rcases l b t c g with g|g
 .exact f b t c g
 .obtain⟨_,h7,i,hi,e⟩:=m b t g;rw[e,h.fv i hi];exact n i hi t h7
theorem Cm.rC{M:Meet}(h:Cm S K B cov M){j:Nat}(a:j<5):AP (M.ab j).d (M.ab j).sy:=by
 obtain⟨σ,b,_⟩:=h.ex;obtain⟨c,k⟩:=(b.nd j a).up (h.up j a);exact k.tp.rC
theorem Cm.le{M:Meet}(h:Cm S K B cov M){j:Nat}(a:j<5):(M.ab j).vo.p.key<=K:=by
 have:=(h.kb.2 j a).1;unfold Nod.pk at this
 rwa [if_pos (h.up j a)]at this
theorem Cm.len{M:Meet}(h:Cm S K B cov M){j:Nat}(a:j<5):((M.ab j).d.length:Int)<=14*K+38*(cov.length:Int):=by
 obtain⟨σ,b,c⟩:=h.ex;have e:=aJ b c a (h.up j a);have:=h.le a;omega
end
section
variable{S:Cmd->Prop}{K:Int}{B:Nat->Bal}{cov:List (Bal × Nat)}{M:Meet}
theorem Cm.acc(h:Cm S K B cov M){j:Nat}(a:j<5):Ah (M.ab j).vo:=by
 obtain⟨σ,b,_⟩:=h.ex;obtain⟨c,k⟩:=(b.nd j a).up (h.up j a);rw[k.tp.vo];exact k.tp.ok.acc
theorem Cm.prom(h:Cm S K B cov M)(k:14*K+38*(cov.length:Int)<=99000){j:Nat}(a:j<5){b:Bal}(c:Ab b)(i:¬ b.lt (M.ab j).vo.p):((M.ab j).au b).2.2=0/\((M.ab j).au b).1.vo.p=b:=by
 have e:Ce (M.ab j).vo b=0:=by unfold Ce;rw[if_neg (λg=>g (h.acc a)),if_neg (λg=>g c),if_neg i]
 have f:CD (M.ab j).d (M.ab j).sy (Ab b) (Br b)=0:=by
  have:=h.len a;unfold CD;rw[Uw (h.rC a) (by rw[JP];omega),if_neg (λg=>g rfl),if_pos c]
 unfold Nod.au;rw[if_neg (λg=>g e)];split
 .exact⟨rfl,rfl⟩
 .rw[if_neg (λg=>g f)];exact⟨rfl,rfl⟩
theorem Cm.ss(h:Cm S K B cov M)(k:14*K+38*(cov.length:Int)<=99000){j:Nat}(a:j<5){v:Vt}(c:Ai v)(i:¬ v.b.lt (M.ab j).vo.p):((M.ab j).cl v).2=0/\((M.ab j).cl v).1.vo.p=v.b:=by
 have e:AX (M.ab j).vo v=0:=by unfold AX;rw[if_neg (λg=>g (h.acc a)),if_neg (λg=>g c),if_neg i]
 have f:CD (M.ab j).d (M.ab j).sy (Ai v) (Bi v)=0:=by
  have:=h.len a;unfold CD;rw[Uw (h.rC a) (by rw[G8];omega),if_neg (λg=>g rfl),if_pos c]
 unfold Nod.cl;rw[if_neg (λg=>g e)];split
 .exact⟨rfl,rfl⟩
 .rw[if_neg (λg=>g f)];exact⟨rfl,rfl⟩
end
section
variable{I J:Meet->Prop}
theorem Es(M:Meet){i j:Nat}(h:j≠i):(M.act (acN 3 (i:Int))).ab j=M.ab j:=by
 unfold Meet.act;simp only[acN];rw[if_neg (by decide),if_neg (by decide),if_pos trivial,Am,if_neg (by rw[mW];exact h)]
theorem Fk(i:∀ c M N,Stp wh1 c M N->I M->I N)(r:∀ c M N,Stp wh1 c M N->I M->J M->J N)(z:∀ M j,I M->j<5->(M.ab j).up=true/\AP (M.ab j).d (M.ab j).sy){n:Nat}{M:Meet}(v:MOk n M)(D:n+5<=1000000)(h:I M){j:Nat}(m:j<5){q:Pend}(w:q∈(M.ab j).bu)
  (x:∀ N l,I N->Ev (M.ab j) (N.ab j)->(N.ab j).bu=q::l->J (N.set j { (N.ab j).ln j q with bu:=l } (N.br++(N.ab j).qt j q) N.eo)):J (M.dc (Aw 3 5)):=by
 have y:∀ k,k<=5->MOk (n+k) (M.dc (Aw 3 k))/\I (M.dc (Aw 3 k))/\(k<=j->(M.dc (Aw 3 k)).ab j=M.ab j)/\(j<k->J (M.dc (Aw 3 k))):=by
  intro k;induction k with
  | zero=>exact λ_=>⟨v,h,λ_=>rfl,λe=>absurd e (nQ _)⟩
  | succ k ih =>
   intro C;obtain⟨b,f,p,u⟩:=ih (by omega);rw[BE,AB];refine⟨b.act (by omega) (FL (by omega)),Cw i b (by omega) f,λe=>by rw[Es _ (by omega)];exact p (by omega),λe=>?_⟩;by_cases t:j<k
   .exact(Cw (I:=λN=>I N/\J N) (λc A B s g=>⟨i c A B s g.1,r c A B s g.1 g.2⟩) b (by omega) ⟨f,u t⟩).2
   .obtain rfl:k=j:=by omega
    have o:=p (A' _);have a:=z _ k f m;exact Wp (I:=λN=>I N/\Ev (M.ab k) (N.ab k)) (λc A B s g=>⟨i c A B s g.1,g.2.trans (s.calm.ev k)⟩) (λc A B s g=>r c A B s g.1) b m a.1 a.2 (by rw[o];exact w) ⟨f,by rw[o];exact .refl _⟩ λN l g=>x N l g.1 g.2
 exact(y 5 (A' _)).2.2.2 m
theorem Bk(d:∀ c M N,Stp wh1 c M N->I M->I N){n:Nat}{M:Meet}(e:MOk n M)(i:n+5<=1000000)(h:I M):MOk (n+5) (M.dc (Aw 3 5))/\I (M.dc (Aw 3 5)):=by
 have f:∀ k,k<=5->MOk (n+k) (M.dc (Aw 3 k))/\I (M.dc (Aw 3 k)):=by
  intro k;induction k with
  | zero=>exact λ_=>⟨e,h⟩
  | succ k ih =>
   intro g;obtain⟨a,b⟩:=ih (by omega);rw[BE,AB];exact⟨a.act (by omega) (FL (by omega)),Cw d a (by omega) b⟩
 exact f 5 (A' _)
theorem Co(d:∀ M N,TkS M N->I M->I N){n:Nat}{M:Meet}(b:MOk n M)(h:I M):∃ N,M.act (acN 7 0)={ N with br:=[] }/\I N/\N.br=M.br:=by
 have c:M.act (acN 7 0)={ M.br.foldl (λM l=>M.mv l) M with br:=[] }:=by
  show M.qz=_;unfold Meet.qz;rw[Hq]
 have:=Ja d M.br (M:=M) (λm a=>⟨a,(b.br m a).src,(b.br m a).dst⟩) h;exact⟨_,c,this⟩
end
theorem Stp.sq{c:Nat}{M N:Meet}(s:Stp wh1 c M N)(j:Nat):(N.ab j).vo.p=(M.ab j).vo.p:=by
 have put:∀ {i:Nat} {p:Nod} {b:List Let} {f:List Tol},p.vo.p=(M.ab i).vo.p->((M.set i p b f).ab j).vo.p=(M.ab j).vo.p:=λ{i p b f} h=>by
  rw[Am];split
  .rename_i e;rw[e];exact h
  .rfl
 cases s with
 | take _ l a hd hu ht=>exact False.elim ht
 | br _ b h hd=>exact False.elim hd
 | one _ i c hi hu hc he=>exact put (by unfold Nod.gC;split<;>rfl)
 | ask _ i hi hu=>exact put (by
   unfold Nod.hZ;split
   .rfl
   .split
    .unfold Nod.dT;split<;>rfl
    .rfl)
 | prop _ i hi hu=>exact put (by
   unfold Nod.cn;split
   .rfl
   .rename_i hc
    have a:(M.ab i).av.fv=(M.ab i).vo.p:=by
     have:(M.ab i).leads=true:=by cases hh:(M.ab i).leads with|true=>rfl|false=>exact absurd (.inl hh) hc
     exact(mI this).2
    split
    .rfl
    .split
     .rfl
     .show((M.ab i).cl _).1.vo.p=_;unfold Nod.cl;split
      .rfl
      .split
       .exact a
       .split
        .rfl
        .exact a)
 | qA _ i hi hu h hT=>exact put rfl
 | run _ i hi hu q l hp hs=>exact put (by
   show((M.ab i).ln i q).vo.p=_;cases q<;>first|rfl|(simp only[Nod.ln];split<;>rfl)|(simp only[Nod.ln,Nod.count];split<;>first|rfl|(split<;>rfl)))
 | qx _ i hi hu hL=>exact put rfl
 | lead _ i hi hu hL=>exact False.elim hL
 | sub _ i d hi hu hD=>exact False.elim hD
 | kc _ i k hi hu hk hC=>exact False.elim hC
 | start _ i hi hu hs=>exact False.elim hs
theorem LW{i:Nat}(l:Let){j k:Nat}(a:j<k)(h:j≠i):{ l with src:=i,dst:=j }∈BT i l k:=mA.2 ⟨j,o8.2 ⟨nW.2 a,O' h⟩,rfl⟩
section
variable{S:Cmd->Prop}{K:Int}{B:Nat->Bal}{cov:List (Bal × Nat)}
theorem Cm.drop{M:Meet}(h:Cm S K B cov M):Cm S K B cov { M with br:=[] }:=by
 obtain⟨σ,b,c⟩:=h.ex;exact⟨⟨σ,⟨b.gs,b.nd,λl a=>by cases a⟩,c⟩,h.kb,h.up,h.fv,⟨h.s.nd,λl a=>by cases a⟩⟩
def Gr8(K:Int)(p:Nod):Prop:=K<=5*p.cF+4\/K<=p.vo.p.key
theorem Gr8.ev{p q:Nod}(h:Gr8 K p)(e:Ev p q):Gr8 K q:=by
 have:=e.cF;have:=e.vo;unfold Gr8 at *;omega
theorem ip(Q:∀ j,j<5->∀ s,s<40->(B j,s)∈cov){n:Nat}{M:Meet}(C:MOk n M)(hn:n+12<=1000000)(h:Cm S K B cov M){i:Nat}(R:i<5){j:Nat}(f:j<5)(O:(M.ab j).vo.p.key=K){b:Bal}{vs:List Vt}(P:(M.ab i).vo.p=b)(u:Ab b)(hq:.began b vs∈(M.ab i).bu) :
  Gr8 K ((M.dc (An++An)).ab i):=by
 have X:∀ A:Meet,A.dc (An++An)=(((A.dc (Aw 3 5)).act (acN 7 0)).dc (Aw 3 5)).act (acN 7 0):=λA=>by
  rw[AC,show An=Aw 3 5++[acN 7 0]from rfl,AB,AB]
 have a:∀ c A N,Stp wh1 c A N->Cm S K B cov A->Cm S K B cov N:=λc A N s g=>g.step Q s.calm;have d:∀ A N,TkS A N->Cm S K B cov A->Cm S K B cov N:=λA N s g=>g.step Q s.qY;have m:LacOk (acN 7 0):=by rw[<- Dp];decide
 rw[X];by_cases D:Gr8 K (M.ab i)
 .-- it knows already
  have z:=Bk (I:=λN=>Cm S K B cov N/\Gr8 K (N.ab i)) (λc A N s g=>⟨a c A N s g.1,g.2.ev (s.calm.ev i)⟩) C (by omega) ⟨h,D⟩;obtain⟨N,F,x,_⟩:=Co (I:=λN=>Cm S K B cov N/\Gr8 K (N.ab i)) (λA N s g=>⟨d A N s g.1,g.2.ev (s.qY.ev i)⟩) z.1 z.2;have t:=z.1.act (by omega) m;rw[F]at t ⊢
  have L:=Bk (I:=λN=>Cm S K B cov N/\Gr8 K (N.ab i)) (λc A N s g=>⟨a c A N s g.1,g.2.ev (s.calm.ev i)⟩) t (by omega) ⟨x.1.drop,x.2⟩;obtain⟨U,G,T,_⟩:=Co (I:=λN=>Cm S K B cov N/\Gr8 K (N.ab i)) (λA N s g=>⟨d A N s g.1,g.2.ev (s.qY.ev i)⟩) L.1 L.2;rw[G];exact T.2
 .have hij:i≠j:=λe=>D (.inr (by rw[e,O];exact mc _));have a0:b.key<K:=by rw[<- P];unfold Gr8 at D;omega
  obtain⟨b0,o⟩:∃ b0,(M.ab j).vo.p=b0:=⟨_,rfl⟩;rw[o]at O
  have w:Ap b0:=by rw[<- o];exact(h.acc f).1
  have E:∀ A N,TkS A N->Cm S K B cov A->(A.ab j).vo.p=b0->(N.ab j).vo.p=b0:=λA N s g e=>by
   have Y:=(s.qY.ev j).vo;have h2:=(d A N s g).le f;rw[e]at Y
   exact D9 ((d A N s g).acc f).1 w (by omega)
  have y:=Bk (I:=λN=>Cm S K B cov N/\(N.ab j).vo.p=b0) (λc A N s g=>⟨a c A N s g.1,(s.sq j).trans g.2⟩) C (by omega) ⟨h,o⟩;have V:=Fk (I:=λN=>Cm S K B cov N/\(N.ab i).vo.p=b) (J:=λN=>({ BC 0 with fv:=b,src:=i,dst:=j }:Let)∈N.br) (λc A N s g=>⟨a c A N s g.1,(s.sq i).trans g.2⟩) (λc A N s _ g=>s.calm.qL g) (λA k g v=>⟨g.1.up k v,g.1.rC v⟩) C (by omega) ⟨h,P⟩ R hq (λN l g _ _=>by
   refine mh _ ?_;simp only[Nod.qt];rw[if_neg (λe=>e g.2)];exact LW { BC 0 with fv:=b } f (Ne.symm hij))
  obtain⟨N,F,x,G,T⟩:=DD (I:=λN=>Cm S K B cov N/\(N.ab j).vo.p=b0) (J:=λN=>Pend.ed i b0∈(N.ab j).bu) (λA N s g=>⟨d A N s g.1,E A N s g.1 g.2⟩) (λA N s _ g=>by
   obtain⟨l,_,_,_,rfl⟩:=s;rw[Am];split
   .rename_i e;rw[<- e];exact GQ g
   .exact g) y.1 y.2 V (λN g=>g.1.up j f) (λN g _=>by
   rw[Am,if_pos rfl];have Z:Ce (N.ab j).vo b=7:=by
    unfold Ce;rw[if_neg (λe=>e (g.1.acc f)),if_neg (λe=>e u),if_pos (by rw[EN u.pr (g.1.acc f).1,g.2];omega)]
   have h8:(N.ab j).au b=(N.ab j,[],7):=by unfold Nod.au;rw[Z,if_pos (by decide)]
   show Pend.ed i b0∈(if((N.ab j).au b).2.2≠0 then(N.ab j).ed i ((N.ab j).au b).2.2 else _).bu;rw[h8,if_pos (show(7:Int)≠0 by decide)];unfold Nod.ed;rw[if_pos rfl,<- g.2];exact mh _ (D'.2 rfl))
  have t:=y.1.act (by omega) m;rw[F]at t ⊢
  have H:=Bk (I:=Cm S K B cov) a t (by omega) x.1.drop;have W:=Fk (I:=Cm S K B cov) (J:=λN=>({ BC 2 with fv:=b0,src:=j,dst:=i }:Let)∈N.br) a (λc A N s _ g=>s.calm.qL g) (λA k g v=>⟨g.up k v,g.rC v⟩) t (by omega) x.1.drop f (q:=.ed i b0) G (λN l g _ _=>mh _ (D'.2 rfl));obtain⟨U,k5,k6,k7,_⟩:=DD (I:=Cm S K B cov) (J:=λN=>Gr8 K (N.ab i)) d (λA N s _ g=>g.ev (s.qY.ev i)) H.1 H.2 W (λN g=>g.up i R) (λN g _=>by
   rw[Am,if_pos rfl];refine .inl ?_;show K<=5*max (N.ab i).cF b0.r+4;have:b0.key<=5*b0.r+4:=by unfold Ap Ab at w;unfold Bal.key;omega
   omega)
  rw[k5];exact k7
end
def P1(i:Nat)(p:Nod):Prop:=p.av.next=0/\∀ j,j≠i->p.av.qm j=false
theorem P1.td{i:Nat}{p:Nod}(h:P1 i p):p.av.qy=false:=by
 unfold Rnd.qy IZ;have k:=h.2;have g:∀ j,(p.av.qm j).toNat<=if j=i then 1 else 0:=λj=>by
  split
  .cases p.av.qm j<;>decide
  .rename_i e;rw[k j e];decide
 have a:=g 0;have b:=g 1;have c:=g 2;have d:=g 3;have f:=g 4;refine E' ?_;split at a<;>split at b<;>split at c<;>split at d<;>split at f<;>omega
theorem Stp.p1{c:Nat}{M N:Meet}(s:Stp wh1 c M N){i:Nat}(h:P1 i (M.ab i)):P1 i (N.ab i):=by
 have put:∀ {k:Nat} {p:Nod} {a:List Let} {m:List Tol},(i=k->P1 i p)->P1 i ((M.set k p a m).ab i):=λ{k p a m} g=>by
  rw[Am];split
  .rename_i e;exact g e
  .exact h
 cases s with
 | take _ l hl hd hu ht=>exact False.elim ht
 | br _ a h hd=>exact False.elim hd
 | one _ k c hi hu hc he=>exact put λe=>by subst e;unfold Nod.gC;split<;>exact h
 | ask _ k hi hu =>
  exact put λe=>by
   subst e;unfold Nod.hZ;split
   .exact h
   .split
    .unfold Nod.dT;split<;>exact h
    .exact h
 | prop _ k hi hu =>
  exact put λe=>by
   subst e;unfold Nod.cn;rw[if_pos (.inr (.inl h.td))];exact h
 | qA _ k hi hu hs hT=>exact put λe=>by subst e;exact h
 | run _ k hi hu q l hp hs =>
  exact put λe=>by
   subst e;show P1 i ((M.ab i).ln i q);cases q with
   | began b vs =>
    simp only[Nod.ln];split
    .exact h
    .exact⟨h.1,λj f=>by show upN (M.ab i).av.qm i true j=false;rw[Ds _ _ f];exact h.2 j f⟩
   | prop v =>
    simp only[Nod.ln,Nod.count];split
    .exact h
    .split<;>exact h
   | _=>exact h
 | qx _ k hi hu hL=>exact put λe=>by subst e;exact h
 | lead _ k hi hu hL=>exact False.elim hL
 | sub _ k d hi hu hD=>exact False.elim hD
 | kc _ k x hi hu hk hC=>exact False.elim hC
 | start _ k hi hu hs=>exact False.elim hs
theorem eA{i:Nat}{p:Nod}(h:P1 i p){l:Let}(c:l.kind=1->l.src≠i->l.fv≠p.av.fv):P1 i (p.take l):=by
 have f:∀ v,P1 i (p.cl v).1:=λv=>by
  unfold Nod.cl;split
  .exact h
  .split
   .exact h
   .split<;>exact h
 unfold Nod.take;split
 .split
  .unfold Nod.ed;split<;>exact h
  .show P1 i (p.au l.fv).1;unfold Nod.au;split
   .exact h
   .split
    .exact h
    .split<;>exact h
 .rename_i hk
  simp only;split
  .exact h
  .rename_i hc
   have b:l.fv=p.av.fv:=mR λe=>hc (.inr (.inl e));have d:l.src=i:=mR λe=>c hk e b;exact⟨h.1,λj a=>by show upN p.av.qm l.src true j=false;rw[Ds _ _ (by rw[d];exact a)];exact h.2 j a⟩
 .exact h
 .split
  .unfold Nod.ed;split<;>exact h
  .exact f _
 .unfold Nod.count;split
  .exact h
  .split<;>exact h
 .split<;>exact h
 .simp only;unfold Nod.dT;split<;>split<;>exact h
 .exact h
section
variable{S:Cmd->Prop}{K:Int}{B:Nat->Bal}{cov:List (Bal × Nat)}
theorem Cm.top(a:∀ j,j<5->∀ s,s<40->(B j,s)∈cov){c:Nat}{A N:Meet}(s:Stp wh0 c A N)(g:Cm S K B cov A){b:Bal}(h:Ap b)(k:b.key=K){j:Nat}(d:j<5)(e:(A.ab j).vo.p=b):(N.ab j).vo.p=b:=by
 have f:=(s.ev j).vo;have i:=(g.step a s).le d;rw[e]at f
 exact D9 ((g.step a s).acc d).1 h (by omega)
theorem dC(D:∀ j,j<5->∀ s,s<40->(B j,s)∈cov)(hQ:14*K+38*(cov.length:Int)<=99000){n:Nat}{M:Meet}(Y:MOk n M)(hn:n+12<=1000000)(h:Cm S K B cov M){i:Nat}(L:i<5){b:Bal}(o:Ab b)(X:b.key=K)(hB:B i=b)(hv:(M.ab i).vo.p=b)(R:∀ j,j<5->j≠i->(M.ab j).vo.p.key<K){d:List Vt}(hq:.began b d∈(M.ab i).bu)(T:P1 i (M.ab i)) :
  Cm S K B cov (M.dc An)/\(∀ j,j<5->((M.dc An).ab j).vo.p=b)/\((M.dc An).ab i).av.qm i=true/\(∀ j,j<5->j≠i->∃ d,Pend.prom i b d∈((M.dc An).ab j).bu)/\P1 i ((M.dc An).ab i)/\(M.dc An).br=[]/\MOk (n+6) (M.dc An):=by
 have v:LacOk (acN 7 0):=by rw[<- Dp];decide
 have t:∀ c A N,Stp wh1 c A N->Cm S K B cov A->Cm S K B cov N:=λc A N s g=>g.step D s.calm;have u:∀ A N,TkS A N->Cm S K B cov A->Cm S K B cov N:=λA N s g=>g.step D s.qY;have U:=Bk (I:=λN=>Cm S K B cov N/\(∀ j,(N.ab j).vo.p=(M.ab j).vo.p)/\P1 i (N.ab i)) (λc A N s g=>⟨t c A N s g.1,λj=>(s.sq j).trans (g.2.1 j),s.p1 g.2.2⟩) Y (by omega) ⟨h,λ_=>rfl,T⟩;have F:=Fk (I:=λN=>Cm S K B cov N/\(N.ab i).vo.p=b) (J:=λN=>(∀ j,j<5->j≠i->({ BC 0 with fv:=b,src:=i,dst:=j }:Let)∈N.br)/\(N.ab i).av.qm i=true) (λc A N s g=>⟨t c A N s g.1,(s.sq i).trans g.2⟩) (λc A N s _ g=>⟨λj a e=>s.calm.qL (g.1 j a e),(s.calm.ev i).qm i g.2⟩) (λA k g E=>⟨g.1.up k E,g.1.rC E⟩) Y (by omega) ⟨h,hv⟩ L hq (λN l g _ _=>by
  refine⟨λj a e=>mh _ ?_,?_⟩
  .simp only[Nod.qt];rw[if_neg (λe=>e g.2)];exact LW { BC 0 with fv:=b } a e
  .rw[Am,if_pos rfl];show((N.ab i).ln i (.began b d)).av.qm i=true;simp only[Nod.ln];rw[if_neg (λe=>e g.2)];exact Da _ _ _)
 rw[show An=Aw 3 5++[acN 7 0]from rfl,AB];generalize M.dc (Aw 3 5)=A at U F ⊢;obtain⟨z,f,r,H⟩:=U;have Q:∀ m∈A.br,m.kind=1->m.src≠i->m.fv≠b:=λm Z E hs e=>by
  obtain⟨σ,y,_⟩:=f.ex;have q:=(z.br m Z).src;have G:=((y.lt m Z).k1 E).1.le;have W:=(y.nd _ q).rD;unfold Nod.pk at W;rw[if_pos (f.up _ q),r]at W
  have h4:=R _ q hs;have h6:m.fv.key<=σ.P m.src:=G;rw[e]at h6
  omega
 obtain⟨N,k1,⟨k2,k3,k4,k5,k6⟩,k7⟩:=Co (I:=λN=>Cm S K B cov N/\(N.ab i).vo.p=b/\P1 i (N.ab i)/\(N.ab i).av.qm i=true/\N.br=A.br) (λC N s g=>by
  refine⟨u C N s g.1,g.1.top D s.qY o.pr X L g.2.1,?_,(s.qY.ev i).qm i g.2.2.2.1,?_⟩
  .obtain⟨l,hl,_,_,rfl⟩:=s;rw[Am];split
   .rename_i e
    rw[<- e];exact eA g.2.2.1 λy G=>by rw[g.1.fv i L,hB];exact Q l (by rw[<- g.2.2.2.2];exact hl) y G
   .exact g.2.2.1
  .obtain⟨l,hl,_,_,rfl⟩:=s;exact g.2.2.2.2) z ⟨f,(r i).trans hv,H,F.2,rfl⟩
 have a:∀ j,j<5->j≠i->((A.act (acN 7 0)).ab j).vo.p=b/\∃ d,Pend.prom i b d∈((A.act (acN 7 0)).ab j).bu:=λj a O=>by
  obtain⟨N',q1,q2,q3,_⟩:=DD (I:=Cm S K B cov) (J:=λN=>(N.ab j).vo.p=b/\∃ d,Pend.prom i b d∈(N.ab j).bu) u (λC N s g e=>⟨g.top D s.qY o.pr X a e.1,by
   obtain⟨d,V⟩:=e.2;refine⟨d,?_⟩;obtain⟨l,_,_,_,rfl⟩:=s;rw[Am];split
   .rename_i e3;rw[<- e3];exact GQ V
   .exact V⟩) z f (F.1 j a O) (λN g=>g.up j a) (λN g _=>by
   rw[Am,if_pos rfl];have a0:=g.le a;have x:=g.prom hQ a o (by rw[EN o.pr (g.acc a).1];omega);have e:(N.ab j).take ({ BC 0 with fv:=b,src:=i,dst:=j }:Let)=((N.ab j).au b).1.wait (.prom i b ((N.ab j).au b).2.1):=by
    show(if((N.ab j).au b).2.2≠0 then _ else _)=_;rw[if_neg (λg=>g x.1)]
   rw[e];exact⟨x.2,_,mh _ (D'.2 rfl)⟩)
  rw[q1];exact q3
 have w:=z.act (by omega) v;rw[k1]at a w ⊢
 exact⟨k2.drop,λj q=>by
  by_cases e:j=i
  .rw[e];exact k3
  .exact(a j q e).1,k5,λj q e=>(a j q e).2,k4,rfl,w⟩
end
section
theorem eF(f:Cmd->Option Bal)(c:Cmd)(b:Option Bal):BU f c b c=b:=if_pos rfl
theorem UA(f:Cmd->Option Bal){c d:Cmd}(b:Option Bal)(h:d≠c):BU f c b d=f d:=if_neg h
theorem KN{b:Bal}(p:b≠Bb)(l:List Cmd)(f:Cmd->Option Bal):(∀ c,c∉l->(AZ b f l).2 c=f c)/\(∀ c∈l,(AZ b f l).2 c=some b)/\(∀ c∈l,f c=some b\/c∈(AZ b f l).1)/\∀ c∈(AZ b f l).1,c∈l:=by
 induction l generalizing f with
 | nil=>exact⟨λ_ _=>rfl,λ_ h=>(by cases h),λ_ h=>(by cases h),λ_ h=>(by cases h)⟩
 | cons c l ih =>
  rw[AZ];split
  .rename_i hc
   obtain⟨j,k,m,n⟩:=ih (BU f c (some b));refine⟨λd a=>?_,λd a=>?_,λd a=>?_,λd a=>?_⟩
   .show(AZ b (BU f c (some b)) l).2 d=f d;rw[j d λe=>a (I' _ e),UA _ _ λe=>a (by rw[e];exact M')]
   .show(AZ b (BU f c (some b)) l).2 d=some b;by_cases i:d∈l
    .exact k d i
    .rcases mn.1 a with rfl|e
     .rw[j d i,eF]
     .exact absurd e i
   .rcases mn.1 a with rfl|e
    .exact .inr M'
    .by_cases e2:d=c
     .rw[e2];exact .inr M'
     .rcases m d e with g|g
      .rw[UA _ _ e2]at g;exact .inl g
      .exact .inr (I' _ g)
   .rcases mn.1 a with rfl|e
    .exact M'
    .exact I' _ (n d e)
  .rename_i hc
   have o:f c=some b:=by
    have:=mg.1 hc;cases hh:f c with
    | none=>rw[hh]at this;exact absurd this.symm p
    | some x=>rw[hh]at this;exact congrArg some this
   obtain⟨j,k,m,n⟩:=ih f;refine⟨λd a=>j d λe=>a (I' _ e),λd a=>?_,λd a=>?_,λd a=>I' _ (n d a)⟩
   .by_cases i:d∈l
    .exact k d i
    .rcases mn.1 a with rfl|e
     .rw[j d i];exact o
     .exact absurd e i
   .rcases mn.1 a with rfl|e
    .exact .inl o
    .exact m d e
theorem Hs(l q:List Cmd)(h:q.Nodup):(GU q l).Nodup:=by
 induction l generalizing q with
 | nil=>exact h
 | cons c l ih =>
  rw[GU];refine ih _ ?_;split
  .rename_i hc
   exact oc.2 ⟨h,oe.2 ⟨Q',nI⟩,λx a y b e=>hc.2 (by rw[<- D'.1 b,<- e];exact a)⟩
  .exact h
theorem PP{C:List Cmd}(j:C.length<40)(l q:List Cmd)(g:q.Nodup)(a:∀ c∈q,c∈C)(b:∀ c∈l,c∈C):∀ c∈l,c∈GU q l:=by
 induction l generalizing q with
 | nil=>exact λc hc=>by cases hc
 | cons d l ih =>
  have f:=OK g a;have i:=b d M';intro c hc;rw[GU];have h:d∈(if q.length<40/\d∉q then q++[d]else q):=by
   by_cases e:d∈q
   .split
    .exact mi _ e
    .exact e
   .rw[if_pos ⟨by omega,e⟩];exact mh _ (D'.2 rfl)
  rcases mn.1 hc with rfl|hc
  .exact(PQ l _).subset h
  .refine ih _ ?_ (λx hx=>?_) (λx hx=>b x (I' _ hx)) c hc
   .exact Hs [d] q g
   .split at hx
    .rcases P'.1 hx with hx|hx
     .exact a x hx
     .rw[D'.1 hx];exact i
    .exact a x hx
structure AskI(p:Nod):Prop where
 nd:p.bn.Nodup
 wa:∀ c,c∈p.bn↔(p.bN c).isSome=true
 le:∀ c x,p.bN c=some x->x.key<=p.vo.p.key
 un:∀ c∈p.bn,c∉p.ae.take p.done
 qn:p.av.ew.Nodup
 dn:p.done<=p.ae.length
theorem Rb{α:Type}{l m:List α}{k:Nat}(h:l <+: m)(a:k<=l.length):m.take k=l.take k:=by obtain⟨x,rfl⟩:=h;exact mK a
variable{M N:Meet}{p:Nod}
theorem AskI.ov{q:Nod}(h:AskI p)(e:Ev p q)(i:q.bn=p.bn/\q.bN=p.bN/\q.done=p.done)(f:q.av.ew.Nodup):AskI q:=by
 obtain⟨a,b,d⟩:=i;refine⟨by rw[a];exact h.nd,by rw[a,b];exact h.wa,λc x g=>mC (h.le c x (by rw[<- b];exact g)) e.vo,?_,f,by rw[d];exact me h.dn e.ag.length_le⟩;rw[a,d,Rb e.ag h.dn];exact h.un
theorem Bh(p:Nod)(b:Bal):((p.au b).1.bn=p.bn/\(p.au b).1.bN=p.bN/\(p.au b).1.done=p.done)/\(p.au b).1.av=p.av:=by
 unfold Nod.au;split
 .exact⟨⟨rfl,rfl,rfl⟩,rfl⟩
 .split
  .exact⟨⟨rfl,rfl,rfl⟩,rfl⟩
  .split<;>exact⟨⟨rfl,rfl,rfl⟩,rfl⟩
theorem Cy(p:Nod)(v:Vt):((p.cl v).1.bn=p.bn/\(p.cl v).1.bN=p.bN/\(p.cl v).1.done=p.done)/\(p.cl v).1.av=p.av:=by
 unfold Nod.cl;split
 .exact⟨⟨rfl,rfl,rfl⟩,rfl⟩
 .split
  .exact⟨⟨rfl,rfl,rfl⟩,rfl⟩
  .split<;>exact⟨⟨rfl,rfl,rfl⟩,rfl⟩
theorem Ra(p:Nod)(l:Let)(a:p.av.ew.Nodup):((p.take l).bn=p.bn/\(p.take l).bN=p.bN/\(p.take l).done=p.done)/\(p.take l).av.ew.Nodup:=by
 unfold Nod.take;split
 .split
  .unfold Nod.ed;split<;>exact⟨⟨rfl,rfl,rfl⟩,a⟩
  .have:=Bh p l.fv;exact⟨this.1,by show(p.au l.fv).1.av.ew.Nodup;rw[this.2];exact a⟩
 .simp only;split<;>exact⟨⟨rfl,rfl,rfl⟩,a⟩
 .exact⟨⟨rfl,rfl,rfl⟩,a⟩
 .split
  .unfold Nod.ed;split<;>exact⟨⟨rfl,rfl,rfl⟩,a⟩
  .have:=Cy p l.cl;exact⟨this.1,by show(p.cl l.cl).1.av.ew.Nodup;rw[this.2];exact a⟩
 .unfold Nod.count;split
  .exact⟨⟨rfl,rfl,rfl⟩,a⟩
  .split<;>exact⟨⟨rfl,rfl,rfl⟩,a⟩
 .split<;>exact⟨⟨rfl,rfl,rfl⟩,a⟩
 .simp only;unfold Nod.dT;split<;>split<;>first|exact⟨⟨rfl,rfl,rfl⟩,a⟩|exact⟨⟨rfl,rfl,rfl⟩,Hs _ _ a⟩
 .exact⟨⟨rfl,rfl,rfl⟩,a⟩
theorem AskI.hZ(h:AskI p)(i:Nat)(q:0<=p.vo.p.key):AskI (p.hZ i).1:=by
 have key:∀ (l:List Cmd) (f:Cmd->Option Bal),(∀ c,c∈l->(f c).isSome=true)->(∀ c,((AZ p.vo.p f l).2 c).isSome=(f c).isSome)/\∀ c x,(AZ p.vo.p f l).2 c=some x->f c=some x\/x=p.vo.p:=by
  intro l;induction l with
  | nil=>exact λf _=>⟨λ_=>rfl,λ_ _ g=>.inl g⟩
  | cons c l ih =>
   intro f j;rw[AZ];split
   .have hu:∀ d,(BU f c (some p.vo.p) d).isSome=(f d).isSome:=λd=>by
     unfold BU;split
     .rename_i e;rw[e,j c M'];rfl
     .rfl
    obtain⟨a,k⟩:=ih (BU f c (some p.vo.p)) λd b=>by rw[hu];exact j d (I' _ b)
    refine⟨λd=>(a d).trans (hu d),λd x g=>?_⟩;rcases k d x g with g|g
    .unfold BU at g;split at g
     .exact .inr (mS g).symm
     .exact .inl g
    .exact .inr g
   .exact ih f λd b=>j d (I' _ b)
 obtain⟨n,o⟩:=key (p.bn.take 40) p.bN λc m=>(h.wa c).1 (mr m);have a:AskI { p with bN:=(AZ p.vo.p p.bN (p.bn.take 40)).2 }:=⟨h.nd,λc=>by show _↔((AZ p.vo.p p.bN (p.bn.take 40)).2 c).isSome=true;rw[n];exact h.wa c,λc x g=>by
  rcases o c x g with g|g
  .exact h.le c x g
  .rw[g];exact mc _,h.un,h.qn,h.dn⟩
 unfold Nod.hZ;split
 .exact a
 .split
  .refine a.ov (.sN _ _) ?_ ?_
   .unfold Nod.dT;split<;>exact⟨rfl,rfl,rfl⟩
   .unfold Nod.dT;split
    .exact Hs _ _ h.qn
    .exact h.qn
  .exact a
theorem AskI.one(h:AskI p){c:Cmd}(b:p.ae[p.done]?=some c)(s:Sto):AskI (Nod.gC { p with lr:=s,done:=p.done+1 } c):=by
 have f:=(V'.1 b).1;have i:p.ae.take (p.done+1)=p.ae.take p.done++[c]:=by rw[oh,b];rfl
 unfold Nod.gC;split
 .refine⟨h.nd.erase c,λd=>?_,λd x g=>?_,λd a=>?_,h.qn,f⟩
  .show d∈p.bn.erase c↔(BU p.bN c none d).isSome=true;rw[h.nd.mem_erase_iff];unfold BU;split
   .rename_i e;simp[e]
   .rename_i e;rw[h.wa d];simp[e]
  .have g:BU p.bN c none d=some x:=g;unfold BU at g;split at g
   .cases g
   .exact h.le d x g
  .have a:d∈p.bn.erase c:=a;rw[h.nd.mem_erase_iff]at a
   show d∉p.ae.take (p.done+1);rw[i];intro e;rcases P'.1 e with e|e
   .exact h.un d a.2 e
   .exact a.1 (D'.1 e)
 .rename_i hn
  refine⟨h.nd,h.wa,h.le,λd a=>?_,h.qn,f⟩;show d∉p.ae.take (p.done+1);rw[i];intro e;rcases P'.1 e with e|e
  .exact h.un d a e
  .rw[D'.1 e]at a
   exact hn ((h.wa c).1 a)
theorem AskI.want(h:AskI p){c:Cmd}(b:c∉p.ae.take p.done)(a:0<=p.vo.p.key):AskI (p.want c):=by
 unfold Nod.want;split
 .exact h
 .rename_i hn
  have f:c∉p.bn:=λe=>hn ((h.wa c).1 e);refine⟨oc.2 ⟨h.nd,oe.2 ⟨Q',nI⟩,λx i y j e=>f (by rw[<- D'.1 j,<- e];exact i)⟩,λd=>?_,λd x g=>?_,λd hd=>?_,h.qn,h.dn⟩
  .show d∈p.bn++[c]↔(BU p.bN c (some Bb) d).isSome=true;unfold BU;split
   .rename_i e;simp[e]
   .rename_i e;rw[<- h.wa d];simp[e]
  .have g:BU p.bN c (some Bb) d=some x:=g;unfold BU at g;split at g
   .rw[<- mS g];exact a
   .exact h.le d x g
  .rcases P'.1 hd with hd|hd
   .exact h.un d hd
   .rw[D'.1 hd];exact b
theorem AskI.bare(p:Nod)(u:Bool)(d:List Int)(s:Int)(a:Acc)(x:List Pend):AskI (p.bare u d s a x):=⟨nI,λc=>⟨λe=>(by cases e),λe=>(by cases e)⟩,λc x e=>(by cases e),λc e=>(by cases e),nI,A' _⟩
theorem AskI.step{D:Wh}{c:Nat}(s:Stp D c M N){σ:Gs}(g:AgI σ M)(h:∀ j,j<5->AskI (M.ab j)):∀ j,j<5->AskI (N.ab j):=by
 intro j i;have put:∀ {k:Nat} {p:Nod} {f:List Let} {o:List Tol},(k<5->AskI p)->AskI ((M.set k p f o).ab j):=λ{k p f o} e=>by
  rw[Am];split
  .rename_i e2;exact e (by omega)
  .exact h j i
 have pos:∀ {k:Nat},k<5->(M.ab k).up=true->0<=(M.ab k).vo.p.key:=λ{k} m a=>by
  obtain⟨t,q⟩:=(g.nd k m).up a;have n:=q.tp.ok.acc.1;rw[<- q.tp.vo]at n
  unfold Ap Ab at n;unfold Bal.key;omega
 cases s with
 | take _ l hl hd a ht =>
  have:=Ra (M.ab l.dst) l (h _ hd.2).qn;exact put λ_=>(h _ hd.2).ov (.take _ l) this.1 this.2
 | br _ f hl hd=>exact h j i
 | one _ k c hi a hc he=>exact put λ_=>(h k hi).one hc _
 | ask _ k hi a=>exact put λ_=>(h k hi).hZ k (pos hi a)
 | prop _ k hi a =>
  refine put λ_=>(h k hi).ov (.cn _) ?_ ?_
  .unfold Nod.cn;split
   .exact⟨rfl,rfl,rfl⟩
   .split
    .exact⟨rfl,rfl,rfl⟩
    .split
     .exact⟨rfl,rfl,rfl⟩
     .exact(Cy (M.ab k) _).1
  .unfold Nod.cn;split
   .exact(h k hi).qn
   .split
    .exact(h k hi).qn
    .split<;>exact(h k hi).qn
 | qA _ k hi a hs hT=>exact put λ_=>⟨(h k hi).nd,(h k hi).wa,(h k hi).le,(h k hi).un,(h k hi).qn,(h k hi).dn⟩
 | run _ k hi a q l hp hs =>
  refine put λ_=>(h k hi).ov ((Ev.ln _ k q).bu l) ?_ ?_
  .show((M.ab k).ln k q).bn=_/\((M.ab k).ln k q).bN=_/\((M.ab k).ln k q).done=_;cases q<;>first|exact⟨rfl,rfl,rfl⟩|(simp only[Nod.ln];split<;>exact⟨rfl,rfl,rfl⟩)|(simp only[Nod.ln,Nod.count];split<;>first|exact⟨rfl,rfl,rfl⟩|(split<;>exact⟨rfl,rfl,rfl⟩))
  .show((M.ab k).ln k q).av.ew.Nodup;have:=(h k hi).qn;cases q<;>first|exact this|(simp only[Nod.ln];split<;>exact this)|(simp only[Nod.ln,Nod.count];split<;>first|exact this|(split<;>exact this))
 | qx _ k hi a hL=>exact put λ_=>⟨(h k hi).nd,(h k hi).wa,(h k hi).le,(h k hi).un,(h k hi).qn,(h k hi).dn⟩
 | lead _ k hi a hL =>
  refine put λ_=>?_;unfold Nod.lead;simp only;split
  .exact h k hi
  .generalize (⟨max (M.ab k).cF (M.ab k).vo.p.r+1,(k:Int)⟩:Bal)=b;have e:=Bh (M.ab k) b;have q:=(h k hi).ov (.au _ b) e.1 (by rw[e.2];exact(h k hi).qn);exact⟨q.nd,q.wa,q.le,q.un,nI,q.dn⟩
 | sub _ k d hi a hD =>
  refine put λ_=>?_;unfold Nod.qM Nod.qP;split
  .exact h k hi
  .split
   .exact⟨(h k hi).nd,(h k hi).wa,(h k hi).le,(h k hi).un,(h k hi).qn,(h k hi).dn⟩
   .split
    .exact h k hi
    .rename_i hc;exact(h k hi).want hc (pos hi a)
 | kc _ k x hi a m hC =>
  refine put λ_=>?_;unfold Nod.kc;split
  .exact h k hi
  .exact .bare _ _ _ _ _ _
 | start _ k hi a hs =>
  refine put λ_=>?_;unfold Nod.start;split
  .exact h k hi
  .split<;>exact .bare _ _ _ _ _ _
theorem AskI.zero:∀ j,j<5->AskI (Ao.ab j):=λj _=>AskI.bare CW true [] 0 DS []
theorem Stp.bN{n:Nat}(s:Stp wh0 n M N){j:Nat}{c:Cmd}{x:Bal}(h:(N.ab j).bN c=some x):(M.ab j).bN c=some x\/(j<5/\N=M.set j ((M.ab j).hZ j).1 (M.br++((M.ab j).hZ j).2) M.eo):=by
 have put:∀ {k:Nat} {p:Nod} {a:List Let} {b:List Tol},((M.set k p a b).ab j).bN c=some x->(p.bN c=some x->(M.ab k).bN c=some x)->(M.ab j).bN c=some x:=λ{k p a b} g e=>by
  rw[Am]at g
  split at g
  .rename_i e2;rw[e2];exact e g
  .exact g
 cases s with
 | take _ l hl hd hu ht =>
  refine .inl (put h λg=>?_);rw[show((M.ab l.dst).take l).bN=(M.ab l.dst).bN from ?_]at g
  .exact g
  .unfold Nod.take;split
   .split
    .unfold Nod.ed;split<;>rfl
    .exact(Bh _ _).1.2.1
   .simp only;split<;>rfl
   .rfl
   .split
    .unfold Nod.ed;split<;>rfl
    .exact(Cy _ _).1.2.1
   .unfold Nod.count;split
    .rfl
    .split<;>rfl
   .split<;>rfl
   .simp only;unfold Nod.dT;split<;>split<;>rfl
   .rfl
 | br _ a hl hd=>exact False.elim hd
 | one _ k d hi hu hc he =>
  refine .inl (put h λg=>?_);unfold Nod.gC at g;split at g
  .have g:BU (M.ab k).bN d none c=some x:=g;unfold BU at g;split at g
   .cases g
   .exact g
  .exact g
 | ask _ k hi hu =>
  by_cases e:j=k
  .subst e;exact .inr ⟨hi,rfl⟩
  .rw[Am,if_neg e]at h;exact .inl h
 | prop _ k hi hu =>
  refine .inl (put h λg=>?_);unfold Nod.cn at g;split at g
  .exact g
  .split at g
   .exact g
   .split at g
    .exact g
    .have g:((M.ab k).cl _).1.bN c=some x:=g;rw[(Cy _ _).1.2.1]at g;exact g
 | qA _ k hi hu hs hT=>exact .inl (put h λg=>g)
 | run _ k hi hu q l hp hs =>
  refine .inl (put h λg=>?_);have g:((M.ab k).ln k q).bN c=some x:=g;rw[show((M.ab k).ln k q).bN=(M.ab k).bN from ?_]at g
  .exact g
  .cases q<;>first|rfl|(simp only[Nod.ln];split<;>rfl)|(simp only[Nod.ln,Nod.count];split<;>first|rfl|(split<;>rfl))
 | qx _ k hi hu hL=>exact .inl (put h λg=>g)
 | lead _ k hi hu hL=>exact False.elim hL
 | sub _ k d hi hu hD=>exact False.elim hD
 | kc _ k y hi hu hk hC=>exact False.elim hC
 | start _ k hi hu hs=>exact False.elim hs
end
section
variable{C:List Cmd}{K:Int}{B:Nat->Bal}{cov:List (Bal × Nat)}{i:Nat}{b:Bal}
structure PhB(C:List Cmd)(K:Int)(B:Nat->Bal)(cov:List (Bal × Nat))(i:Nat)(b:Bal)(M:Meet):Prop where
 cm:Cm (λc=>c∈C) K B cov M
 ak:∀ j,j<5->AskI (M.ab j)
 vi:(M.ab i).vo.p=b
structure PhC(C:List Cmd)(K:Int)(B:Nat->Bal)(cov:List (Bal × Nat))(i:Nat)(b:Bal):Prop where
 hc:∀ j,j<5->∀ s,s<40->(B j,s)∈cov
 hC:C.length<40
 hi:i<5
 hb:Ab b
 hn:b.n=(i:Int)
 hB:B i=b
 hK:b.key=K
theorem PhB.step(a:PhC C K B cov i b){n:Nat}{M N:Meet}(s:Stp wh0 n M N)(h:PhB C K B cov i b M):PhB C K B cov i b N:=by
 obtain⟨σ,g,_⟩:=h.cm.ex;exact⟨h.cm.step a.hc s,AskI.step s g h.ak,h.cm.top a.hc s a.hb.pr a.hK a.hi h.vi⟩
theorem PhB.leads(a:PhC C K B cov i b){M:Meet}(h:PhB C K B cov i b M):(M.ab i).leads=true:=by
 have c:=a.hb;unfold Nod.leads;refine O' ⟨?_,?_⟩
 .rw[h.cm.fv i a.hi,a.hB];intro e;rw[e]at c
  exact absurd c (by decide)
 .rw[h.cm.fv i a.hi,a.hB,h.vi]
def QA(i:Nat)(b:Bal)(M:Meet):Prop:=∀ j,j<5->∀ c,(M.ab j).bN c=some b->c∈(M.ab i).av.ew\/∃ m∈M.br,m.kind=6/\m.dst=i/\c∈m.fa
theorem QA.step(t:PhC C K B cov i b){n:Nat}{M N:Meet}(s:Stp wh0 n M N)(h:PhB C K B cov i b M)(q:QA i b M):QA i b N:=by
 intro j x c a;have z:b≠Bb:=λe=>by have:=t.hb;rw[e]at this;exact absurd this (by decide)
 by_cases e:(M.ab j).bN c=some b
 .rcases q j x c e with g|⟨m,g1,g2⟩
  .exact .inl ((s.ev i).qu.subset g)
  .exact .inr ⟨m,s.qL g1,g2⟩
 .rcases s.bN a with g|⟨_,rfl⟩
  .exact absurd g e
  .rw[Am,if_pos rfl]at a
   have E:=h.ak j x;have y:(AZ (M.ab j).vo.p (M.ab j).bN ((M.ab j).bn.take 40)).2 c=some b:=by
    unfold Nod.hZ at a;split at a
    .exact a
    .split at a
     .unfold Nod.dT at a;split at a<;>exact a
     .exact a
   have r:(M.ab j).vo.p=b/\c∈(M.ab j).bn.take 40:=by
    have key:∀ (l:List Cmd) (f:Cmd->Option Bal) (p:Bal),(AZ p f l).2 c=some b->f c=some b\/(p=b/\c∈l):=by
     intro l;induction l with
     | nil=>exact λf p g=>.inl g
     | cons d l ih =>
      intro f p g;rw[AZ]at g
      split at g
      .rcases ih _ p g with k|k
       .unfold BU at k;split at k
        .rename_i e;exact .inr ⟨mS k,by rw[e];exact M'⟩
        .exact .inl k
       .exact .inr ⟨k.1,I' _ k.2⟩
      .exact(ih f p g).imp id λk=>⟨k.1,I' _ k.2⟩
    exact(key _ _ _ y).resolve_left e
   obtain⟨r,H⟩:=r;have D:=KN z ((M.ab j).bn.take 40) (M.ab j).bN;have o:c∈(AZ (M.ab j).vo.p (M.ab j).bN ((M.ab j).bn.take 40)).1:=by rw[r];exact(D.2.2.1 c H).resolve_left e
   have u:¬ (AZ (M.ab j).vo.p (M.ab j).bN ((M.ab j).bn.take 40)).1=[]:=λg=>by rw[g]at o;cases o
   have v:∀ d∈(AZ (M.ab j).vo.p (M.ab j).bN ((M.ab j).bn.take 40)).1,d∈C:=λd w=>by
    rw[r]at w
    exact(h.cm.s.nd j x).wa d (mr (D.2.2.2 d w))
   by_cases A:j=i
   .subst A;refine .inl ?_;rw[Am,if_pos rfl];unfold Nod.hZ;rw[if_neg u,if_pos (by rw[r];exact t.hn)];have F:({ M.ab j with bN:=(AZ (M.ab j).vo.p (M.ab j).bN ((M.ab j).bn.take 40)).2 }:Nod).leads=true:=h.leads t;unfold Nod.dT;rw[if_pos F];exact PP t.hC _ _ E.qn (λd w=>(h.cm.s.nd j x).qu d w) v c o
   .refine .inr ?_;have G:¬ (M.ab j).vo.p.n=(j:Int):=by rw[r,t.hn];omega
    unfold Nod.hZ;rw[if_neg u,if_neg G];refine⟨_,mh _ (D'.2 rfl),rfl,?_,o⟩;show(M.ab j).vo.p.n.toNat=i;rw[r,t.hn];exact mW i
theorem QB(a:PhC C K B cov i b){n:Nat}{M:Meet}(E:MOk n M)(L:n+6<=1000000)(h:PhB C K B cov i b M)(q:QA i b M):PhB C K B cov i b (M.dc An)/\(∀ j,j<5->∀ c,((M.dc An).ab j).bN c=some b->c∈((M.dc An).ab i).av.ew)/\(M.dc An).br=[]/\MOk (n+6) (M.dc An):=by
 have v:∀ A N,TkS A N->PhB C K B cov i b A->PhB C K B cov i b N:=λA N s g=>g.step a s.qY;have z:=Bk (I:=λN=>PhB C K B cov i b N/\QA i b N) (λc A N s g=>⟨g.1.step a s.calm,g.2.step a s.calm g.1⟩) E (by omega) ⟨h,q⟩;rw[show An=Aw 3 5++[acN 7 0]from rfl,AB];generalize M.dc (Aw 3 5)=A at z ⊢;obtain⟨p,k,u⟩:=z;have y:=p.act (by omega) (x:=acN 7 0) (by rw[<- Dp];decide);have t:∀ j,j<5->∀ c,((A.act (acN 7 0)).ab j).bN c=some b->c∈((A.act (acN 7 0)).ab i).av.ew:=λj G c r=>by
  obtain⟨N,f,o,_⟩:=Co (I:=λN=>PhB C K B cov i b N/\(N.ab j).bN c=(A.ab j).bN c) (λD N s g=>⟨v D N s g.1,by
   obtain⟨l,_,w,_,rfl⟩:=s;rw[Am];split
   .rename_i e
    rw[(Ra (D.ab l.dst) l (g.1.ak _ w.2).qn).1.2.1,<- e];exact g.2
   .exact g.2⟩) p ⟨k,rfl⟩
  rw[f]at r
  have r:(N.ab j).bN c=some b:=r;rw[o.2]at r
  rcases u j G c r with g|⟨m,g1,g2,g3,g4⟩
  .obtain⟨N,f,o,_⟩:=Co (I:=λN=>c∈(N.ab i).av.ew) (λD N s g=>(s.qY.ev i).qu.subset g) p g;rw[f];exact o
  .obtain⟨N,f,_,k3,_⟩:=DD (I:=PhB C K B cov i b) (J:=λN=>c∈(N.ab i).av.ew) v (λD N s _ g=>(s.qY.ev i).qu.subset g) p k g1 (λN g=>g.cm.up _ (by rw[g3];exact a.hi)) (λN g e=>by
    have F:=(g.cm.s.lt m (by rw[e];exact g1)).wh;rw[g3,Am,if_pos rfl];have H:c∈((N.ab i).dT m.fa).av.ew:=by
     unfold Nod.dT;rw[if_pos (g.leads a)];exact PP a.hC _ _ (g.ak i a.hi).qn (λd w=>(g.cm.s.nd i a.hi).qu d w) F c g4
    unfold Nod.take;rw[g2];simp only;split<;>exact H)
   rw[f];exact k3
 obtain⟨N,f,o,_⟩:=Co (I:=PhB C K B cov i b) v p k;refine⟨?_,t,by rw[f],y⟩;rw[f];exact⟨o.cm.drop,o.ak,o.vi⟩
theorem VU(a:PhC C K B cov i b){n:Nat}{M:Meet}(t:MOk n M)(I:n+6<=1000000)(h:PhB C K B cov i b M){j:Nat}(y:j<5){H:List Vt}(E:Pend.prom i b H∈(M.ab j).bu):((M.dc An).ab i).av.qm j=true:=by
 have x:∀ A N,TkS A N->PhB C K B cov i b A->PhB C K B cov i b N:=λA N s g=>g.step a s.qY;have d:∀ c A N,Stp wh1 c A N->PhB C K B cov i b A->PhB C K B cov i b N:=λc A N s g=>g.step a s.calm;have f:=Bk d t (by omega) h;have q:=Fk (J:=λN=>∃ m∈N.br,m.kind=1/\m.src=j/\m.dst=i/\m.fv=b) d (λc A N s _ ⟨m,o,p⟩=>⟨m,s.calm.qL o,p⟩) (λA k g u=>⟨g.cm.up k u,g.cm.rC u⟩) t (by omega) h y E (λN l g _ _=>⟨_,mh _ (D'.2 rfl),rfl,rfl,rfl,rfl⟩);rw[show An=Aw 3 5++[acN 7 0]from rfl,AB];generalize M.dc (Aw 3 5)=A at f q ⊢;obtain⟨m,o,p,v,r,w⟩:=q;obtain⟨N,F,_,G,_⟩:=DD (J:=λN=>(N.ab i).av.qm j=true) x (λD N s _ g=>(s.qY.ev i).qm j g) f.1 f.2 o (λN g=>g.cm.up _ (by rw[r];exact a.hi)) (λN g e=>by
  rw[r,Am,if_pos rfl];have z:((N.ab i).jv 0 m.fa).leads=true:=g.leads a;unfold Nod.take;rw[p];simp only;rw[v,w];split
  .rename_i hc
   rcases hc with hc|hc|hc
   .rw[z]at hc;cases hc
   .exact absurd (show b=(N.ab i).av.fv by rw[g.cm.fv i a.hi,a.hB]) hc
   .exact hc
  .exact Da _ _ _)
 rw[F];exact G
end
theorem TP(i:Nat)(l:List Cmd)(p:Nod)(a:List Tol):(qD i l p a).1.av=p.av/\(qD i l p a).1.ae=p.ae:=by
 induction l generalizing p a with
 | nil=>exact⟨rfl,rfl⟩
 | cons c l ih =>
  rw[qD];split
  .exact⟨rfl,rfl⟩
  .have h1:=ih (Nod.gC { p with lr:=doS p.lr c,done:=p.done+1 } c) (if(p.bN c).isSome=true then a++[⟨i,c.c,c.s,doC p.lr c,doA p.lr c⟩]else a);have b:(Nod.gC { p with lr:=doS p.lr c,done:=p.done+1 } c).av=p.av/\(Nod.gC { p with lr:=doS p.lr c,done:=p.done+1 } c).ae=p.ae:=by unfold Nod.gC;split<;>exact⟨rfl,rfl⟩
   exact⟨h1.1.trans b.1,h1.2.trans b.2⟩
theorem H9{D:Wh}{i:Nat}(c:i<5){M:Meet}(t:(M.ab i).up=true):∃ M0,Sts D 0 M M0/\(M0.ab i).up=true/\(M0.ab i).av=(M.ab i).av/\(M0.ab i).ae=(M.ab i).ae /\
  ∃ M1,M1=M0.set i ((M0.ab i).hZ i).1 (M0.br++((M0.ab i).hZ i).2) M0.eo/\(M1.ab i).up=true/\Sts D 0 M0 M1/\Sts D 0 (M1.set i (M1.ab i).cn M1.br M1.eo) (M.act (acN 3 (i:Int))):=by
 rw[GP t];have w:Sts D 0 M (M.set i (M.ab i) M.br M.eo):=by rw[EC];exact .nil 0 M
 obtain⟨p,h⟩:=Sts.qD c _ (M.ab i) w t rfl;have q:=TP i ((M.ab i).ae.drop (M.ab i).done) (M.ab i) M.eo;unfold Nod.piece;simp only;generalize Go.Proofs.YtgbabbapcibnlabGreatDoor.qD i ((M.ab i).ae.drop (M.ab i).done) (M.ab i) M.eo=a at p h q ⊢;refine⟨_,p,by rw[Bu];exact h,by rw[Bu];exact q.1,by rw[Bu];exact q.2,?_⟩;have e:=Bu M i a.1 M.br a.2;have s:=Stp.ask (D:=D) (M.set i a.1 M.br a.2) i c (by rw[e];exact h);have l:=(Ii a.1 i).trans h;rw[e,Cc]at s
 refine⟨M.set i (a.1.hZ i).1 (M.br++(a.1.hZ i).2) a.2,by rw[e,Cc];rfl,by rw[Bu];exact l,s.s,?_⟩;show Sts D 0 ((M.set i (a.1.hZ i).1 (M.br++(a.1.hZ i).2) a.2).set i ((M.set i (a.1.hZ i).1 (M.br++(a.1.hZ i).2) a.2).ab i).cn (M.br++(a.1.hZ i).2) a.2) _;clear e s p;generalize (a.1.hZ i)=b at l ⊢;rw[Bu,Cc];have g:=(Ep b.1).trans l;show Sts D 0 (M.set i b.1.cn (M.br++b.2) a.2) _;generalize b.1.cn=r at g ⊢;generalize M.br++b.2=k at ⊢;have j:Sts D 0 (M.set i r k a.2) (M.set i (r.ni i k).1 (r.ni i k).2 a.2)/\(r.ni i k).1.up=true:=by
  unfold Nod.ni;split
  .exact⟨.nil 0 _,g⟩
  .rename_i hn
   have e:=Bu M i r k a.2;unfold Nod.qA;split
   .rename_i h1
    have m:CY r.d r.sy=0:=mg.1 λe=>hn ⟨h1,e⟩;have o:AP r.d r.sy:=by
     unfold CY at m;split at m
     .assumption
     .cases m
    have s:=Stp.qA (D:=D) (M.set i r k a.2) i c (by rw[e];exact g) (by rw[e];exact h1) (by rw[e];exact o);rw[e,Cc]at s
    have u:GY r.d r.sy=r.d:=if_pos o;have v:Ic r.d r.sy=(r.d.length:Int):=if_pos o;rw[u,v];have:=Sts.nn (D:=D) (n:=0) (M:=M.set i r k a.2) (ls:=k) (ts:=a.2) c r.bu { r with sy:=(r.d.length:Int),bu:=[] } (by rw[Cc];exact(Sts.nil 0 _).s0 s) g rfl (pV _);rw[Cc]at this
    exact this
   .rename_i h1
    have:=Sts.nn (D:=D) (n:=0) (M:=M.set i r k a.2) (ls:=k) (ts:=a.2) c r.bu { r with bu:=[] } (by rw[Cc];exact .nil 0 _) g rfl h1;rw[Cc]at this
    exact this
 generalize r.ni i k=f at j ⊢;unfold Nod.bw;split
 .rename_i hL
  have e:=Bu M i f.1 f.2 a.2;have s:=Stp.qx (D:=D) (M.set i f.1 f.2 a.2) i c (by rw[e];exact j.2) (by rw[e];exact hL);rw[e,Cc]at s
  exact j.1.s0 s
 .exact j.1
section
variable{C:List Cmd}{K:Int}{B:Nat->Bal}{cov:List (Bal × Nat)}{i:Nat}{b:Bal}
theorem dH(a:PhC C K B cov i b)(d:14*K+38*(cov.length:Int)<=99000){M:Meet}(h:PhB C K B cov i b M)(j:(M.ab i).av.qy=true)(n:(M.ab i).av.next<=(M.ab i).ae.length){c:Cmd}(f:(M.ab i).qo (M.ab i).ae.length=some c)(l:Ai ⟨((M.ab i).ae.length:Int),b,c⟩) :
  (M.ab i).cn.av.next=(M.ab i).ae.length+1/\Pend.prop ⟨((M.ab i).ae.length:Int),b,c⟩∈(M.ab i).cn.bu:=by
 have e:(M.ab i).av.fv=b:=(h.cm.fv i a.hi).trans a.hB;have k:=h.leads a;have m:=h.cm.ss d a.hi l (λg=>by
  have:b.lt (M.ab i).vo.p:=g;rw[h.vi]at this
  unfold Bal.lt at this;omega)
 unfold Nod.cn;rw[if_neg (λg=>by
  rcases g with g|g|g
  .rw[k]at g;cases g
  .rw[j]at g;cases g
  .omega),f]
 simp only;rw[e,if_neg (λg=>g m.1)];exact⟨rfl,mh _ (D'.2 rfl)⟩
theorem WL(f:PhC C K B cov i b)(e:14*K+38*(cov.length:Int)<=99000){M:Meet}(h:PhB C K B cov i b M){j:Nat}(a:j<5){v:Vt}(c:Ai v)(o:v.b=b){l:Let}(k:l.kind=3)(m:l.cl=v):Pend.voted l.src v∈((M.ab j).take l).bu:=by
 have n:=h.cm.le a;have d:=h.cm.ss e a c (by rw[EN c.2.1.pr (h.cm.acc a).1,o,f.hK];omega);unfold Nod.take;rw[k];simp only;rw[m,if_neg (λg=>g d.1)];exact mh _ (D'.2 rfl)
end
section
def NB(p:Nod):Prop:=∀ b vs,Pend.began b vs∉p.bu
variable{M N:Meet}{c j:Nat}{p q:Nod}{v:Vt}
theorem NB.snoc(h:NB p){x:Pend}(e:q.bu=p.bu++[x])(a:∀ b vs,Pend.began b vs≠x):NB q:=λb vs g=>by
 rw[e]at g
 rcases P'.1 g with g|g
 .exact h b vs g
 .exact a b vs (D'.1 g)
theorem NB.same(h:NB p)(e:q.bu=p.bu):NB q:=λb a g=>h b a (by rw[<- e];exact g)
theorem Zl(p:Nod)(b:Bal):(p.au b).1.bu=p.bu:=by
 unfold Nod.au;split
 .rfl
 .split
  .rfl
  .split<;>rfl
theorem Rl(p:Nod)(v:Vt):(p.cl v).1.bu=p.bu:=by
 unfold Nod.cl;split
 .rfl
 .split
  .rfl
  .split<;>rfl
theorem iu(p:Nod)(b:Bal):(p.au b).1.ae=p.ae:=by
 unfold Nod.au;split
 .rfl
 .split
  .rfl
  .split<;>rfl
theorem ja(p:Nod)(v:Vt):(p.cl v).1.ae=p.ae:=by
 unfold Nod.cl;split
 .rfl
 .split
  .rfl
  .split<;>rfl
theorem NB.ed(h:NB p)(to:Nat)(e:Int):NB (p.ed to e):=by
 unfold Nod.ed;split
 .exact h.snoc rfl (λ_ _ g=>by cases g)
 .exact h
theorem RF(p:Nod)(j:Nat)(v:Vt):(p.count j v).bu=p.bu:=by
 unfold Nod.count;split
 .rfl
 .split<;>rfl
theorem Nu(p:Nod)(l:List Cmd):(p.dT l).bu=p.bu:=by unfold Nod.dT;split<;>rfl
theorem NB.take(h:NB p)(l:Let):NB (p.take l):=by
 unfold Nod.take;split
 .split
  .exact h.ed _ _
  .exact h.snoc (by show(p.au l.fv).1.bu++_=_;rw[Zl]) (λ_ _ g=>by cases g)
 .simp only;split<;>exact h
 .exact h
 .split
  .exact h.ed _ _
  .exact h.snoc (by show(p.cl l.cl).1.bu++_=_;rw[Rl]) (λ_ _ g=>by cases g)
 .exact h.same (RF _ _ _)
 .split
  .exact h.snoc rfl (λ_ _ g=>by cases g)
  .exact h
 .simp only;split
  .exact h.snoc (by show((p.dT l.fa).bu)++_=_;rw[Nu]) (λ_ _ g=>by cases g)
  .exact h.same (Nu _ _)
 .exact h
theorem Stp.nb(s:Stp wh0 c M N){j:Nat}(h:NB (M.ab j)):NB (N.ab j):=by
 have put:∀ {i:Nat} {p:Nod} {a:List Let} {f:List Tol},(j=i->NB p)->NB ((M.set i p a f).ab j):=λ{i p a f} g=>by
  rw[Am];split
  .rename_i e;exact g e
  .exact h
 cases s with
 | take _ l hl hd hu ht=>exact put λe=>by rw[<- e];exact h.take l
 | br _ a hl hd=>exact False.elim hd
 | one _ i c hi hu hc he=>exact put λe=>(e▸h:NB (M.ab i)).same (G3 _ _).1
 | ask _ i hi hu=>exact put λe=>(e▸h:NB (M.ab i)).same (IV _ _).1
 | prop _ i hi hu =>
  refine put λe=>?_;have h:NB (M.ab i):=e▸h;unfold Nod.cn;split
  .exact h
  .split
   .exact h
   .split
    .exact h
    .exact h.snoc (by show((M.ab i).cl _).1.bu++_=_;rw[Rl]) (λ_ _ g=>by cases g)
 | qA _ i hi hu hs hT=>exact put λe=>(e▸h:NB (M.ab i)).same rfl
 | run _ i hi hu q l hp hs=>exact put λe b m g=>(e▸h:NB (M.ab i)) b m (by rw[hp];exact I' _ g)
 | qx _ i hi hu hL=>exact put λe=>(e▸h:NB (M.ab i)).same rfl
 | lead _ i hi hu hL=>exact False.elim hL
 | sub _ i d hi hu hD=>exact False.elim hD
 | kc _ i k hi hu hk hC=>exact False.elim hC
 | start _ i hi hu hs=>exact False.elim hs
theorem Ns{k:Nat}{u:Vt}(hv:v∈((p.count k u).av.an j).vs):v∈(p.av.an j).vs\/v.b=p.av.fv:=by
 unfold Nod.count at hv;split at hv
 .exact .inl hv
 .rename_i hb
  split at hv
  .exact .inl hv
  .rename_i a
   have a:=mg.1 a;have hv:v∈(upN p.av.an k ⟨BH (p.av.an k) u,Bq (p.av.an k) u⟩ j).vs:=hv;unfold upN at hv;split at hv
   .rename_i e
    have hv:v∈Bq (p.av.an k) u:=hv;unfold Bq at hv;rw[if_pos a,BB (Aq a).1.2.2]at hv
    rcases hv with hv|hv
    .exact .inr (by rw[hv];exact mg.1 hb)
    .exact .inl (by rw[e];exact hv.1)
   .exact .inl hv
theorem Stp.te(s:Stp wh0 c M N){i:Nat}(m:NB (M.ab i))(n:∀ j,j<5->(M.ab i).av.qm j=true){j:Nat}{v:Vt}(a:v∈((N.ab i).av.an j).vs):v∈((M.ab i).av.an j).vs\/v.b=(M.ab i).av.fv:=by
 have put:∀ {k:Nat} {p:Nod} {f:List Let} {h:List Tol},v∈(((M.set k p f h).ab i).av.an j).vs->(i=k->v∈(p.av.an j).vs->v∈((M.ab i).av.an j).vs\/v.b=(M.ab i).av.fv)->v∈((M.ab i).av.an j).vs\/v.b=(M.ab i).av.fv:=λ{k p f h} g e=>by
  rw[Am]at g
  split at g
  .rename_i e2;exact e e2 g
  .exact .inl g
 cases s with
 | take _ l hl hd hu ht =>
  refine put a λe g=>?_;rw[<- e]at g
  unfold Nod.take at g;split at g
  .split at g
   .unfold Nod.ed at g;split at g<;>exact .inl g
   .have g:v∈(((M.ab i).au l.fv).1.av.an j).vs:=g;rw[(Bh _ _).2]at g;exact .inl g
  .simp only at g;split at g
   .exact .inl g
   .rename_i hc
    exact absurd (.inr (.inr (n l.src hd.1))) hc
  .exact .inl g
  .split at g
   .unfold Nod.ed at g;split at g<;>exact .inl g
   .have g:v∈(((M.ab i).cl l.cl).1.av.an j).vs:=g;rw[(Cy _ _).2]at g;exact .inl g
  .exact Ns g
  .split at g<;>exact .inl g
  .simp only at g;unfold Nod.dT at g;split at g<;>split at g<;>exact .inl g
  .exact .inl g
 | br _ f hl hd=>exact False.elim hd
 | one _ k c hi hu hc he =>
  refine put a λe g=>?_;rw[<- e]at g
  unfold Nod.gC at g;split at g<;>exact .inl g
 | ask _ k hi hu =>
  refine put a λe g=>?_;rw[<- e]at g
  unfold Nod.hZ at g;split at g
  .exact .inl g
  .split at g
   .unfold Nod.dT at g;split at g<;>exact .inl g
   .exact .inl g
 | prop _ k hi hu =>
  refine put a λe g=>?_;rw[<- e]at g
  unfold Nod.cn at g;split at g
  .exact .inl g
  .split at g
   .exact .inl g
   .split at g<;>exact .inl g
 | qA _ k hi hu hs hT=>exact put a λe g=>by rw[<- e]at g;exact .inl g
 | run _ k hi hu q l hp2 hs =>
  refine put a λe g=>?_;rw[<- e]at g hp2
  have g:v∈(((M.ab i).ln i q).av.an j).vs:=g;cases q with
  | began b vs=>exact absurd (by rw[hp2];exact M') (m b vs)
  | prop u=>exact Ns g
  | _=>exact .inl g
 | qx _ k hi hu hL=>exact put a λe g=>by rw[<- e]at g;exact .inl g
 | lead _ k hi hu hL=>exact False.elim hL
 | sub _ k d hi hu hD=>exact False.elim hD
 | kc _ k y hi hu hk hC=>exact False.elim hC
 | start _ k hi hu hs=>exact False.elim hs
theorem Xg{b:Bal}(l:List Cmd){f:Cmd->Option Bal}(h:∀ c∈l,f c=some b):(AZ b f l).1=[]:=by
 induction l with
 | nil=>rfl
 | cons c l ih =>
  rw[AZ,if_neg (by rw[h c M'];exact λg=>g rfl)];exact ih λd a=>h d (I' _ a)
end
section
variable{C:List Cmd}{K:Int}{B:Nat->Bal}{cov:List (Bal × Nat)}{i:Nat}{b:Bal}
structure PhE(C:List Cmd)(K:Int)(B:Nat->Bal)(cov:List (Bal × Nat))(i:Nat)(b:Bal)(M:Meet):Prop where
 pb:PhB C K B cov i b M
 va:∀ j,j<5->(M.ab j).vo.p=b
 pr:∀ j,j<5->(M.ab i).av.qm j=true
 nb:NB (M.ab i)
 aw:∀ j,j<5->∀ c x,(M.ab j).bN c=some x->x=b
 l6:∀ m∈M.br,m.kind=6->m.fa=[]
 qw:∀ j,j<5->∀ c∈(M.ab j).bn,c∈(M.ab i).av.ew
theorem PhE.nil{M:Meet}(h:PhE C K B cov i b M){j:Nat}(a:j<5):(AZ (M.ab j).vo.p (M.ab j).bN ((M.ab j).bn.take 40)).1=[]:=by
 rw[h.va j a];refine Xg _ λc e=>?_;obtain⟨x,d⟩:=nh.1 (((h.pb.ak j a).wa c).1 (mr e));rw[d,h.aw j a c x d]
theorem PhE.hZ{M:Meet}(h:PhE C K B cov i b M){j:Nat}(a:j<5):(M.ab j).hZ j=({ M.ab j with bN:=(AZ (M.ab j).vo.p (M.ab j).bN ((M.ab j).bn.take 40)).2 },[]):=by
 unfold Nod.hZ;rw[if_pos (h.nil a)]
theorem D5{i:Nat}{l m:Let}{k:Nat}(h:m∈BT i l k):m.kind=l.kind/\m.fa=l.fa:=by
 unfold BT at h;obtain⟨j,_,rfl⟩:=mA.1 h;exact⟨rfl,rfl⟩
theorem PhE.step(r:PhC C K B cov i b){n:Nat}{M N:Meet}(s:Stp wh0 n M N)(h:PhE C K B cov i b M):PhE C K B cov i b N:=by
 refine⟨h.pb.step r s,λj a=>h.pb.cm.top r.hc s r.hb.pr r.hK a (h.va j a),λj a=>(s.ev i).qm j (h.pr j a),s.nb h.nb,λj a c x d=>?_,λm f o=>?_,λj a c u=>(s.ev i).qu.subset (h.qw j a c ((s.ev j).wa c u))⟩
 .rcases s.bN d with g|⟨_,rfl⟩
  .exact h.aw j a c x g
  .rw[Am,if_pos rfl,h.hZ a]at d
   have d:(AZ (M.ab j).vo.p (M.ab j).bN ((M.ab j).bn.take 40)).2 c=some x:=d;have t:b≠Bb:=λe=>by have:=r.hb;rw[e]at this;exact absurd this (by decide)
   rw[h.va j a]at d
   have f:=KN t ((M.ab j).bn.take 40) (M.ab j).bN;by_cases e:c∈(M.ab j).bn.take 40
   .rw[f.2.1 c e]at d;exact(mS d).symm
   .rw[f.1 c e]at d;exact h.aw j a c x d
 .have old:m∈M.br->m.fa=[]:=λg=>h.l6 m g o;cases s with
  | br _ ls hl hd=>exact False.elim hd
  | ask _ k hi hu =>
   rw[h.hZ hi]at f
   exact old (by simpa[Meet.set]using f)
  | run _ k hi hu q l hp hs =>
   rcases P'.1 f with g|g
   .exact old g
   .cases q with
    | began b vs =>
     unfold Nod.qt at g;simp only at g;split at g
     .cases g
     .have:=(D5 g).1;rw[o]at this;cases this
    | prop v=>have:=(D5 g).1;rw[o]at this;cases this
    | start=>exact(D5 g).2
    | askNews to=>rw[D'.1 g];rfl
    | _=>have e:=D'.1 g;rw[e]at o;cases o
  | qx _ k hi hu hL =>
   rcases P'.1 f with g|g
   .exact old g
   .have:=(J1 5 m g).1;omega
  | _=>exact old f
end
section
variable{C:List Cmd}{K:Int}{B:Nat->Bal}{cov:List (Bal × Nat)}{i:Nat}{b:Bal}{A:List Cmd}
section
structure Fin_(i:Nat)(A:List Cmd)(M:Meet):Prop where
 ag:(M.ab i).ae=A
 nx:(M.ab i).av.next<=A.length
 hd:A.length<40->∀ j,j<5->∀ v∈((M.ab i).av.an j).vs,v.bt≠(A.length:Int)
 qu:A.length<40->∀ c∈(M.ab i).av.ew,c∈A
variable{M:Meet}{k:Nat}{l:List Cmd}{σ:Gs}
theorem PhE.rd(a:PhC C K B cov i b){M:Meet}(h:PhE C K B cov i b M){σ:Gs}(g:AgI σ M):RdI σ i (M.ab i).av/\(M.ab i).av.fv=b:=by
 obtain⟨c,k⟩:=(g.nd i a.hi).up (h.pb.cm.up i a.hi);exact⟨k.rd,(h.pb.cm.fv i a.hi).trans a.hB⟩
theorem PhE.lt(d:PhC C K B cov i b){M:Meet}(h:PhE C K B cov i b M){σ:Gs}(g:AgI σ M){v:Vt}(a:σ.qZ v)(c:v.b=b):v.bt<((M.ab i).av.next:Int):=by
 have k:=h.rd d g;have:=k.1.next v.bt.toNat v.w (by rw[k.2,<- c];exact a.2);have:=a.1.1;omega
theorem PhE.held(a:PhC C K B cov i b){M:Meet}(h:PhE C K B cov i b M){σ:Gs}(g:AgI σ M){s:Nat}(o:(M.ab i).av.next<=s)(m:∀ j,j<5->∀ v∈((M.ab i).av.an j).vs,v.bt≠(s:Int)){q:Nat}(d:q<5){v:Vt}(l:σ.held q v):v.bt≠(s:Int):=by
 intro e;have k:=h.rd a g;have c:=g.gs.hv q v l;have n:=g.rD h.pb.cm.kb.2 c.1.2.1 (g.gs.w3 _ _ _ c.2);by_cases f:v.b.key<b.key
 .obtain⟨u,hu,eu,_⟩:=(k.1.prom q d (h.pr q d)).2 v l (by rw[k.2];exact f);exact m q d u hu (eu.trans e)
 .have e3:v.b=b:=D9 c.1.2.1.pr a.hb.pr (by rw[a.hK]at f ⊢;omega);have:=h.lt a g c e3;omega
theorem gl(g:GsI σ){s:Nat}{c:Cmd}(h:σ.rO s c):∃ q,q<5/\∃ v,σ.held q v/\v.bt=(s:Int)/\v.w=c/\s<40:=by
 obtain⟨k,Q,d,j⟩:=h;obtain⟨q,e,a,_⟩:=I0 Q Q d d;obtain⟨v,b,f,_,i⟩:=j q e a;have:=(g.hv q v b).1.1;exact⟨q,e,v,b,f,i,by omega⟩
theorem Fin_.none(k:PhC C K B cov i b){M:Meet}(h:PhE C K B cov i b M)(f:Fin_ i A M){σ:Gs}(g:AgI σ M)(c:Cmd):¬ σ.rO A.length c:=λe=>by
 obtain⟨q,l,v,a,d,_,j⟩:=gl g.gs e;exact h.held k g f.nx (f.hd j) l a d
theorem AgL.le{a:Nat}(h:AgL σ l k)(d:∀ c,¬ σ.rO a c)(f:k<=a):k+l.length<=a:=pB λe=>by
 have b:a-k<l.length:=by omega
 exact d _ (by rw[show a=k+(a-k)by omega];exact h (a-k) _ (G' b))
theorem Fin_.le(a:PhC C K B cov i b){M:Meet}(h:PhE C K B cov i b M)(f:Fin_ i A M){j:Nat}(c:j<5):(M.ab j).ae.length<=A.length:=by
 obtain⟨σ,g,_⟩:=h.pb.cm.ex;have:=(g.nd j c).ag.le (f.none a h g) (mH _);omega
theorem Fin_.qo(f:Fin_ i A M):(M.ab i).qo (M.ab i).ae.length=Option.none:=by
 unfold Nod.qo;rw[f.ag];split
 .rfl
 .rename_i b
  have b:=mg.1 b;have k:A.length<40:=by
   unfold Cd at b;split at b
   .cases b
   .omega
  have m:Ae ((M.ab i).av.hU.map (·.vs)).flatten (A.length:Int)=[]:=py.2 λv h=>by
   obtain⟨n,o⟩:=Bd.1 h;obtain⟨l,s,h⟩:=oC.1 n;obtain⟨a,d,rfl⟩:=mA.1 s;unfold Rnd.hU at d;have:∃ j,j<5/\a=(M.ab i).av.an j:=by
    simp only[mn,Q',or_false]at d;rcases d with e|e|e|e|e
    .exact⟨0,by omega,e⟩
    .exact⟨1,by omega,e⟩
    .exact⟨2,by omega,e⟩
    .exact⟨3,by omega,e⟩
    .exact⟨4,by omega,e⟩
   obtain⟨j,r,rfl⟩:=this;exact f.hd k j r v h o
  have p:DP ((M.ab i).av.hU.map (·.vs)) (A.length:Int)=false:=by
   unfold DP;rw[if_pos b];unfold FU;rw[m];rfl
  rw[if_neg (by rw[p];decide)];exact nu.2 λc q g=>absurd (f.qu k c q) (mI g)
theorem NI{a:List Cmd}(h:k+a.length<=l.length):l++a.drop (l.length-k)=l:=by rw[mP (by omega),mz]
theorem YG{r:Rnd}(k:Nat)(h:CV r.hU (l.length:Int)≠0):F8 k r l=l:=by
 cases k with
 | zero=>rfl
 | succ k=>rw[F8,if_neg h]
def T8(p q:Nod):Prop:=q.ae=p.ae/\q.av.next=p.av.next/\q.av.ew=p.av.ew
theorem Fin_.count(c:PhC C K B cov i b){M:Meet}(h:PhE C K B cov i b M)(f:Fin_ i A M){σ:Gs}(g:AgI σ M){j:Nat}{v:Vt}(m:σ.held j v):T8 (M.ab i) ((M.ab i).count j v):=by
 have k:=(h.rd c g).1;unfold Nod.count;split
 .exact⟨rfl,rfl,rfl⟩
 .rename_i hb
  split
  .exact⟨rfl,rfl,rfl⟩
  .rename_i he
   refine⟨YG _ λe=>?_,rfl,rfl⟩;have e:CV (Rnd.hU _) ((M.ab i).ae.length:Int)=0:=e;have a:=T9 (λq d u l=>((k.count (mg.1 hb) (mg.1 he) m).an q d u l).1) e;rw[f.ag]at a
   exact f.none c h g _ a
theorem Fin_.same(m:PhC C K B cov i b){n:Nat}{M N:Meet}(s:Stp wh0 n M N)(h:PhE C K B cov i b M)(f:Fin_ i A M):T8 (M.ab i) (N.ab i):=by
 obtain⟨σ,g,_⟩:=h.pb.cm.ex;have put:∀ {k:Nat} {p:Nod} {r:List Let} {t:List Tol},(i=k->T8 (M.ab i) p)->T8 (M.ab i) ((M.set k p r t).ab i):=λ{k p r t} e=>by
  rw[Am];split
  .rename_i e2;exact e e2
  .exact⟨rfl,rfl,rfl⟩
 have o:∀ {l:List Cmd} {k:Nat},AgL σ l k->k<=A.length->k+l.length<=(M.ab i).ae.length:=λa e=>by rw[f.ag];exact a.le (f.none m h g) e
 cases s with
 | take _ l hl2 hd hu ht =>
  refine put λe=>?_;rw[<- e];have lt:=g.lt l hl2;unfold Nod.take;split
  .split
   .unfold Nod.ed;split<;>exact⟨rfl,rfl,rfl⟩
   .exact⟨iu _ _,by show(Nod.au _ _).1.av.next=_;rw[(Bh _ _).2],by show(Nod.au _ _).1.av.ew=_;rw[(Bh _ _).2]⟩
  .rename_i hk
   simp only;rw[if_pos (.inr (.inr (h.pr l.src hd.1)))];exact⟨NI (o (lt.k1 hk).2.2 (mH _)),rfl,rfl⟩
  .exact⟨rfl,rfl,rfl⟩
  .split
   .unfold Nod.ed;split<;>exact⟨rfl,rfl,rfl⟩
   .exact⟨ja _ _,by show(Nod.cl _ _).1.av.next=_;rw[(Cy _ _).2],by show(Nod.cl _ _).1.av.ew=_;rw[(Cy _ _).2]⟩
  .rename_i hk
   exact f.count m h g (lt.k4 hk)
  .rename_i hk
   split
   .exact⟨rfl,rfl,rfl⟩
   .rename_i h5
    exact⟨NI (o (lt.k5 hk) (by rw[f.ag]at h5;omega)),rfl,rfl⟩
  .rename_i hk
   simp only;rw[h.l6 l hl2 hk];unfold Nod.dT;split<;>split<;>exact⟨rfl,rfl,rfl⟩
  .exact⟨rfl,rfl,rfl⟩
 | br _ r o hd=>exact False.elim hd
 | one _ k c hi hu hc he=>exact put λe=>by rw[<- e];unfold Nod.gC;split<;>exact⟨rfl,rfl,rfl⟩
 | ask _ k hi hu=>exact put λe=>by rw[h.hZ hi,<- e];exact⟨rfl,rfl,rfl⟩
 | prop _ k hi hu =>
  refine put λe=>?_;rw[<- e];unfold Nod.cn;split
  .exact⟨rfl,rfl,rfl⟩
  .rw[f.qo];exact⟨rfl,rfl,rfl⟩
 | qA _ k hi hu hs hT=>exact put λe=>by rw[<- e];exact⟨rfl,rfl,rfl⟩
 | run _ k hi hu q l hp hs =>
  refine put λe=>?_;rw[<- e]at hp hs ⊢
  cases q with
  | began b vs=>exact absurd (by rw[hp];exact M') (h.nb b vs)
  | prop v =>
   obtain⟨u,k⟩:=(g.nd i m.hi).up (h.pb.cm.up i m.hi);have:=f.count m h g (j:=i) (v:=v) (by
    have:=k.pe (.prop v) (by rw[hp];exact M');unfold Gs.held;rw[k.tp.all hs];exact this)
   exact this
  | _=>exact⟨rfl,rfl,rfl⟩
 | qx _ k hi hu hL=>exact put λe=>by rw[<- e];exact⟨rfl,rfl,rfl⟩
 | lead _ k hi hu hL=>exact False.elim hL
 | sub _ k d hi hu hD=>exact False.elim hD
 | kc _ k y hi hu hk hC=>exact False.elim hC
 | start _ k hi hu hs=>exact False.elim hs
theorem Fin_.step(a:PhC C K B cov i b){n:Nat}{M N:Meet}(s:Stp wh0 n M N)(h:PhE C K B cov i b M)(f:Fin_ i A M):Fin_ i A N:=by
 have e:=f.same a s h;have d:=h.step a s;obtain⟨τ,g,_⟩:=d.pb.cm.ex;refine⟨e.1.trans f.ag,by rw[e.2.1];exact f.nx,λl j m v o q=>?_,λl c p=>f.qu l c (by rw[<- e.2.2];exact p)⟩;rcases s.te h.nb h.pr o with k|k
 .exact f.hd l j m v k q
 .have:=d.lt a g (g.gs.hv j v ((d.rd a g).1.an j m v o).1) (k.trans ((h.pb.cm.fv i a.hi).trans a.hB));have:=e.2.1;have:=f.nx;omega
end
end
section
variable{j:Nat}{p:Nod}{r:Rnd}{v:Vt}
theorem YU{l:List Vt}(h:v∈l):1<=BK (Ae l v.bt) v:=pI.2 ⟨v,Bd.2 ⟨h,rfl⟩,O' rfl⟩
theorem Xu(k:∀ j,j<5->Ah (r.an j)){v:Vt}(o:0<=v.bt/\v.bt<=39)(p:∀ j,j<5->v∈(r.an j).vs):CV r.hU v.bt=0:=by
 have e:Dv r.hU v.bt=Ae (r.an 0).vs v.bt++(Ae (r.an 1).vs v.bt++(Ae (r.an 2).vs v.bt++(Ae (r.an 3).vs v.bt++Ae (r.an 4).vs v.bt))):=by
  unfold Dv Rnd.hU Ae;simp[List.filter_append]
 have g:∀ j,j<5->1<=BK (Ae (r.an j).vs v.bt) v:=λj l=>YU (p j l);have n:5<2*BK (Dv r.hU v.bt) v:=by
  rw[e,Cu,Cu,Cu,Cu];have:=g 0 (by omega);have:=g 1 (by omega);have:=g 2 (by omega);have:=g 3 (by omega);have:=g 4 (by omega);omega
 have m:v∈Dv r.hU v.bt:=by
  obtain⟨u,b,d⟩:=pI.1 (show 0<BK (Dv r.hU v.bt) v by omega);have c:u=v:=mI d;rw[c]at b;exact b
 have f:∀ a∈r.hU,Ah a:=λa h=>by
  unfold Rnd.hU at h;simp only[mn,Q',or_false]at h;rcases h with e|e|e|e|e<;>rw[e]<;>exact k _ (by omega)
 have i:(GS (Dv r.hU v.bt) r.hU.length).isSome=true:=List.find?_isSome.2 ⟨v,m,O' n⟩;unfold CV;rw[if_neg (λg=>g ⟨o,by show(1:Int)<=((5:Nat):Int)/\((5:Nat):Int)<=5;decide⟩),if_neg (λg=>g f),if_pos i]
theorem PI(c:v.b=p.av.fv)(a:Ah (p.av.an j))(e:Ai v)(f:(p.av.an j).p=p.av.fv):v∈((p.count j v).av.an j).vs:=by
 have d:AX (p.av.an j) v=0:=by
  unfold AX;rw[if_neg (λg=>g a),if_neg (λg=>g e),if_neg];rw[f,c];unfold Bal.lt;omega
 unfold Nod.count;rw[if_neg (λg=>g c),if_neg (λg=>g d)];show v∈(upN p.av.an j ⟨BH (p.av.an j) v,Bq (p.av.an j) v⟩ j).vs;rw[Da];show v∈Bq (p.av.an j) v;rw[(D8 d).2,BB a.2.2];exact .inl rfl
theorem RE{k:Nat}{u:Vt}(a:v∈(p.av.an k).vs)(g:u.b=p.av.fv->u.bt=v.bt->u=v):v∈((p.count j u).av.an k).vs:=by
 unfold Nod.count;split
 .exact a
 .rename_i hb
  split
  .exact a
  .rename_i c
   have c:=mg.1 c;show v∈(upN p.av.an j ⟨BH (p.av.an j) u,Bq (p.av.an j) u⟩ k).vs;unfold upN;split
   .rename_i e
    show v∈Bq (p.av.an j) u;rw[(D8 c).2,BB (Aq c).1.2.2];by_cases d:u.bt=v.bt
    .exact .inl (g (mg.1 hb) d).symm
    .exact .inr ⟨by rw[<- e];exact a,λf=>d f.symm⟩
   .exact a
theorem aT(h:(p.cl v).2=0):Ai v:=by
 unfold Nod.cl at h;split at h
 .rename_i h0;exact absurd h h0
 .rename_i h0;exact(Aq (mg.1 h0)).2.1
theorem V8{l:List Cmd}(k:Nat)(h:CV r.hU (l.length:Int)=0):l.length<(F8 (k+1) r l).length:=by
 rw[F8,if_pos h];have:=(Iz k r (l++[CM r.hU (l.length:Int)])).length_le;rw[H',m5]at this
 omega
end
section
variable{C:List Cmd}{K:Int}{B:Nat->Bal}{cov:List (Bal × Nat)}{i:Nat}{b:Bal}
theorem Stp.rE{n:Nat}{M N:Meet}(s:Stp wh0 n M N)(m:PhC C K B cov i b)(h:PhE C K B cov i b M){σ:Gs}(g:AgI σ M) :
  ((N.ab i).av.an=(M.ab i).av.an/\(N.ab i).av.next=(M.ab i).av.next)\/((N.ab i).av.an=(M.ab i).av.an/\(N.ab i).av.next=(M.ab i).ae.length+1/\(M.ab i).ae.length<40)\/∃ k u,k<5/\σ.held k u/\(N.ab i).av=((M.ab i).count k u).av/\(N.ab i).ae=((M.ab i).count k u).ae:=by
 have put:∀ {k:Nat} {p:Nod} {f:List Let} {j:List Tol},(i=k->p.av.an=(M.ab k).av.an/\p.av.next=(M.ab k).av.next)->((M.set k p f j).ab i).av.an=(M.ab i).av.an/\((M.set k p f j).ab i).av.next=(M.ab i).av.next:=λ{k p f j} e=>by
  rw[Am];split
  .rename_i e2;rw[e2];exact e e2
  .exact⟨rfl,rfl⟩
 cases s with
 | take _ l hl hd hu ht =>
  have lt:=g.lt l hl;by_cases a:l.kind=4/\i=l.dst
  .refine .inr (.inr ⟨l.src,l.cl,hd.1,lt.k4 a.1,?_⟩);rw[Am,if_pos a.2,<- a.2];unfold Nod.take;rw[a.1];exact⟨rfl,rfl⟩
  .refine .inl (put λe=>?_);rw[<- e];unfold Nod.take;split
   .split
    .unfold Nod.ed;split<;>exact⟨rfl,rfl⟩
    .show((M.ab i).au _).1.av.an=_/\((M.ab i).au _).1.av.next=_;rw[(Bh _ _).2];exact⟨rfl,rfl⟩
   .simp only;rw[if_pos (.inr (.inr (h.pr l.src hd.1)))];exact⟨rfl,rfl⟩
   .exact⟨rfl,rfl⟩
   .split
    .unfold Nod.ed;split<;>exact⟨rfl,rfl⟩
    .show((M.ab i).cl _).1.av.an=_/\((M.ab i).cl _).1.av.next=_;rw[(Cy _ _).2];exact⟨rfl,rfl⟩
   .rename_i hk;exact absurd ⟨hk,e⟩ a
   .split<;>exact⟨rfl,rfl⟩
   .simp only;unfold Nod.dT;split<;>split<;>exact⟨rfl,rfl⟩
   .exact⟨rfl,rfl⟩
 | br _ f hl hd=>exact False.elim hd
 | one _ k c hi hu hc he=>exact .inl (put λe=>by unfold Nod.gC;split<;>exact⟨rfl,rfl⟩)
 | ask _ k hi hu=>exact .inl (put λe=>by rw[h.hZ hi];exact⟨rfl,rfl⟩)
 | prop _ k hi hu =>
  by_cases e:i=k
  .subst e;rw[Am,if_pos rfl];unfold Nod.cn;split
   .exact .inl ⟨rfl,rfl⟩
   .split
    .exact .inl ⟨rfl,rfl⟩
    .split
     .exact .inl ⟨rfl,rfl⟩
     .rename_i he
      refine .inr (.inl ⟨rfl,rfl,?_⟩);have:=(aT (mg.1 he)).1.2;have:((M.ab i).ae.length:Int)<=39:=this;omega
  .refine .inl ?_;rw[Am,if_neg e];exact⟨rfl,rfl⟩
 | qA _ k hi hu hs hT=>exact .inl (put λe=>⟨rfl,rfl⟩)
 | run _ k hi hu q l hp hs =>
  by_cases e:i=k
  .subst e;cases q with
   | began b vs=>exact absurd (by rw[hp];exact M') (h.nb b vs)
   | prop v =>
    refine .inr (.inr ⟨i,v,hi,?_,?_⟩)
    .obtain⟨rs,k⟩:=(g.nd i hi).up hu;have:=k.pe (.prop v) (by rw[hp];exact M');unfold Gs.held;rw[k.tp.all hs];exact this
    .rw[Am,if_pos rfl];exact⟨rfl,rfl⟩
   | _=>exact .inl (put λ_=>⟨rfl,rfl⟩)
  .refine .inl ?_;rw[Am,if_neg e];exact⟨rfl,rfl⟩
 | qx _ k hi hu hL=>exact .inl (put λe=>⟨rfl,rfl⟩)
 | lead _ k hi hu hL=>exact False.elim hL
 | sub _ k d hi hu hD=>exact False.elim hD
 | kc _ k y hi hu hk hC=>exact False.elim hC
 | start _ k hi hu hs=>exact False.elim hs
structure PhL(C:List Cmd)(K:Int)(B:Nat->Bal)(cov:List (Bal × Nat))(i:Nat)(b:Bal)(M:Meet):Prop where
 pe:PhE C K B cov i b M
 ld:∀ v:Vt,v.b=b->(∀ j,j<5->v∈((M.ab i).av.an j).vs)->v.bt<((M.ab i).ae.length:Int)
 nx:(M.ab i).av.next<=(M.ab i).ae.length+1/\(M.ab i).av.next<=40
theorem PhE.acc(c:PhC C K B cov i b){M:Meet}(h:PhE C K B cov i b M){j:Nat}(a:j<5):Ah ((M.ab i).av.an j)/\((M.ab i).av.an j).p=b:=by
 obtain⟨σ,g,_⟩:=h.pb.cm.ex;have k:=h.rd c g;exact⟨(k.1.acc j a).1,((k.1.acc j a).2 (h.pr j a)).trans k.2⟩
theorem PhE.ov(m:PhC C K B cov i b){n:Nat}{M N:Meet}(s:Stp wh0 n M N)(h:PhE C K B cov i b M){v:Vt}(l:v.b=b){j:Nat}(r:j<5)(a:v∈((M.ab i).av.an j).vs):v∈((N.ab i).av.an j).vs:=by
 obtain⟨σ,g,_⟩:=h.pb.cm.ex;have k:=h.rd m g;rcases s.rE m h g with e|e|⟨q,u,hq,hu,e,_⟩
 .rw[e.1];exact a
 .rw[e.1];exact a
 .rw[e];refine RE a λc d=>?_;have o:=g.gs.hv q u hu;have p:=g.gs.hv j v (k.1.an j r v a).1;have f:=o.2;rw[c,k.2,d,<- l]at f
  exact(Vt.eq_iff u v).1 ⟨d,(c.trans k.2).trans l.symm,g.gs.w1 _ _ _ _ f p.2⟩
theorem PhL.step(d:PhC C K B cov i b){n:Nat}{M N:Meet}(s:Stp wh0 n M N)(h:PhL C K B cov i b M):PhL C K B cov i b N:=by
 have f:=h.pe.step d s;have x:=(s.ev i).ag.length_le;obtain⟨σ,g,_⟩:=h.pe.pb.cm.ex;have p:(N.ab i).av.next<=(N.ab i).ae.length+1/\(N.ab i).av.next<=40:=by
  have:=h.nx;rcases s.rE d h.pe g with e|e|⟨q,u,hq,hu,e,_⟩
  .rw[e.2];omega
  .rw[e.2.1];omega
  .have o:((M.ab i).count q u).av.next=(M.ab i).av.next:=by
    unfold Nod.count;split
    .rfl
    .split<;>rfl
   rw[e,o];omega
 refine⟨f,λv t a=>?_,p⟩;by_cases l:∀ j,j<5->v∈((M.ab i).av.an j).vs
 .have:=h.ld v t l;omega
 .obtain⟨τ,g2,_⟩:=f.pb.cm.ex;have z:=f.rd d g2;have m:=g2.gs.hv 0 v (z.1.an 0 (by omega) v (a 0 (by omega))).1;have k:=f.lt d g2 m t;rcases s.rE d h.pe g with e|e|⟨q,u,hq,hu,e,ea⟩
  .rw[e.1]at a;exact absurd a l
  .rw[e.1]at a;exact absurd a l
  .have hm:=m.1.1;rw[e]at a k
   rw[ea];have c:∀ j,j<5->Ah ((N.ab i).av.an j):=λj y=>(f.acc d y).1;rw[e]at c
   have A:=h.nx;have o:((M.ab i).count q u).av.next=(M.ab i).av.next:=by
    unfold Nod.count;split
    .rfl
    .split<;>rfl
   rw[o]at k
   unfold Nod.count at a c ⊢;split at a
   .exact absurd a l
   .split at a
    .exact absurd a l
    .rename_i h3 h4
     rw[if_neg h3,if_neg h4]at c ⊢
     by_cases w:v.bt<((M.ab i).ae.length:Int)
     .exact Int.lt_of_lt_of_le w (Int.ofNat_le.2 (Iz 41 _ _).length_le)
     .have e6:v.bt=((M.ab i).ae.length:Int):=by omega
      have r:=Xu c hm a;rw[e6]at r ⊢
      exact Int.ofNat_lt.2 (V8 40 r)
end
section
variable{I J:Meet->Prop}
theorem Mc(j:∀ c M N,Stp wh1 c M N->I M->I N)(p:∀ c M N,Stp wh1 c M N->I M->J M->J N){n:Nat}{M:Meet}(q:MOk n M)(u:n+5<=1000000)(h:I M){i:Nat}(r:i<5)(d:∀ N m,MOk m N->m+1<=1000000->I N->N.ab i=M.ab i->J (N.act (acN 3 (i:Int)))):J (M.dc (Aw 3 5)):=by
 have d:∀ k,k<=5->MOk (n+k) (M.dc (Aw 3 k))/\I (M.dc (Aw 3 k))/\(k<=i->(M.dc (Aw 3 k)).ab i=M.ab i)/\(i<k->J (M.dc (Aw 3 k))):=by
  intro k;induction k with
  | zero=>exact λ_=>⟨q,h,λ_=>rfl,λe=>absurd e (nQ _)⟩
  | succ k ih =>
   intro t;obtain⟨a,b,f,o⟩:=ih (by omega);rw[BE,AB];refine⟨a.act (by omega) (FL (by omega)),Cw j a (by omega) b,λe=>by rw[Es _ (by omega)];exact f (by omega),λe=>?_⟩;by_cases l:i<k
   .exact(Cw (I:=λN=>I N/\J N) (λc A B s g=>⟨j c A B s g.1,p c A B s g.1 g.2⟩) a (by omega) ⟨b,o l⟩).2
   .obtain rfl:k=i:=by omega
    exact d _ _ a (by omega) b (f (A' _))
 exact(d 5 (A' _)).2.2.2 r
end
theorem Ia(M:Meet){i:Nat}(d:i<5):∃ N:Meet,N.ab i=M.ab i/\N=M.dc (Aw 3 i)/\(M.dc (Aw 3 5)).ab i=(N.act (acN 3 (i:Int))).ab i:=by
 have b:∀ k,k<=i->(M.dc (Aw 3 k)).ab i=M.ab i:=by
  intro k;induction k with
  | zero=>exact λ_=>rfl
  | succ k ih=>exact λa=>by rw[BE,AB,Es _ (by omega)];exact ih (by omega)
 refine⟨_,b i (A' _),rfl,?_⟩;have c:∀ k,i<k->(M.dc (Aw 3 k)).ab i=((M.dc (Aw 3 i)).act (acN 3 (i:Int))).ab i:=by
  intro k a;induction k with
  | zero=>exact absurd a (nQ _)
  | succ k ih =>
   rw[BE,AB];by_cases e:k=i
   .rw[e]
   .rw[Es _ (Ne.symm e)];exact ih (by omega)
 exact c 5 d
theorem Stp.ri{M N:Meet}(s:Stp wh0 0 M N)(i:Nat):(N.ab i).av.next=(M.ab i).av.next:=by
 have put:∀ {k:Nat} {p:Nod} {a:List Let} {g:List Tol},p.av.next=(M.ab k).av.next->((M.set k p a g).ab i).av.next=(M.ab i).av.next:=λ{k p a g} e=>by
  rw[Am];split
  .rename_i e2;rw[e2];exact e
  .rfl
 have f:∀ (p:Nod) (j:Nat) (v:Vt),(p.count j v).av.next=p.av.next:=λp j v=>by
  unfold Nod.count;split
  .rfl
  .split<;>rfl
 cases s with
 | take _ l hl hd hu ht =>
  refine put ?_;unfold Nod.take;split
  .split
   .unfold Nod.ed;split<;>rfl
   .show((M.ab l.dst).au _).1.av.next=_;rw[(Bh _ _).2]
  .simp only;split<;>rfl
  .rfl
  .split
   .unfold Nod.ed;split<;>rfl
   .show((M.ab l.dst).cl _).1.av.next=_;rw[(Cy _ _).2]
  .exact f _ _ _
  .split<;>rfl
  .simp only;unfold Nod.dT;split<;>split<;>rfl
  .rfl
 | br _ a hl hd=>exact False.elim hd
 | one _ k c hi hu hc he=>exact put (by unfold Nod.gC;split<;>rfl)
 | ask _ k hi hu =>
  refine put ?_;unfold Nod.hZ;split
  .rfl
  .split
   .unfold Nod.dT;split<;>rfl
   .rfl
 | qA _ k hi hu hs hT=>exact put rfl
 | run _ k hi hu q l hp hs =>
  refine put ?_;show((M.ab k).ln k q).av.next=_;cases q with
  | began b vs=>simp only[Nod.ln];split<;>rfl
  | prop v=>exact f _ _ _
  | _=>rfl
 | qx _ k hi hu hL=>exact put rfl
 | lead _ k hi hu hL=>exact False.elim hL
 | sub _ k d hi hu hD=>exact False.elim hD
 | kc _ k y hi hu hk hC=>exact False.elim hC
 | start _ k hi hu hs=>exact False.elim hs
theorem Sts.ri{M N:Meet}(s:Sts wh1 0 M N)(i:Nat):(N.ab i).av.next=(M.ab i).av.next:=by
 generalize a:0=z at s;induction s with
 | nil=>rfl
 | @snoc n c m A B E h s hm ih =>
  obtain rfl:c=0:=by omega
  exact(s.calm.ri i).trans (ih (by omega))
theorem S5{p q:Nod}(a:q.av=p.av)(b:q.ae=p.ae)(s:Nat):q.qo s=p.qo s:=by unfold Nod.qo;rw[a,b]
section
variable{C:List Cmd}{K:Int}{B:Nat->Bal}{cov:List (Bal × Nat)}{i:Nat}{b:Bal}
def J3(i:Nat)(v:Vt)(N:Meet):Prop:=v∈((N.ab i).av.an i).vs/\∀ j,j<5->j≠i->({ BC 3 with cl:=v,src:=i,dst:=j }:Let)∈N.br
theorem J3.step(a:PhC C K B cov i b){n:Nat}{M N:Meet}(s:Stp wh0 n M N)(h:PhE C K B cov i b M){v:Vt}(c:v.b=b)(k:J3 i v M):J3 i v N:=⟨h.ov a s c a.hi k.1,λj d e=>s.qL (k.2 j d e)⟩
theorem PhE.qy{M:Meet}(h:PhE C K B cov i b M):(M.ab i).av.qy=true:=by
 unfold Rnd.qy IZ;rw[h.pr 0 (by omega),h.pr 1 (by omega),h.pr 2 (by omega),h.pr 3 (by omega),h.pr 4 (by omega)];decide
theorem Og(a:PhC C K B cov i b)(H:14*K+38*(cov.length:Int)<=99000)(q:∀ c∈C,c.e=0){M:Meet}(h:PhL C K B cov i b M)(S:(M.ab i).ae.length<40)(L:(M.ab i).av.next<=(M.ab i).ae.length){c:Cmd}(z:(M.ab i).qo (M.ab i).ae.length=some c) :
  J3 i ⟨((M.ab i).ae.length:Int),b,c⟩ (M.act (acN 3 (i:Int)))/\((M.act (acN 3 (i:Int))).ab i).av.next=(M.ab i).ae.length+1:=by
 have E:=h.pe.pb.cm.up i a.hi;obtain⟨R,s0,T,O,a0,n,G,Q,P,F⟩:=H9 (D:=wh1) a.hi E;have r:∀ c A N,Stp wh1 c A N->PhL C K B cov i b A->PhL C K B cov i b N:=λc A N s g=>g.step a s.calm;have x:=s0.inv r h;have o:=P.inv r x;have f:(n.ab i).av=(M.ab i).av/\(n.ab i).ae=(M.ab i).ae:=by
  rw[G,Bu,x.pe.hZ a.hi];exact⟨O,a0⟩
 have u:Ai ⟨((M.ab i).ae.length:Int),b,c⟩:=⟨by show(0:Int)<=((M.ab i).ae.length:Int)/\((M.ab i).ae.length:Int)<=39;omega,a.hb,q c (KA (h.pe.pb.cm.s.nd i a.hi) z)⟩;generalize w:(⟨((M.ab i).ae.length:Int),b,c⟩:Vt)=v at u;have m:v.b=b:=by rw[<- w]
 have t:=dH a H o.pe.pb o.pe.qy (by rw[f.1,f.2];exact L) (c:=c) (by rw[S5 f.1 f.2,f.2];exact z) (by rw[f.2,w];exact u);rw[f.2,w]at t
 have p:=(Stp.prop (D:=wh1) n i a.hi Q).calm;have p:=o.step a p;have k:=F.inv (I:=λN=>PhL C K B cov i b N/\(Pend.prop v∈(N.ab i).bu\/J3 i v N)) (λd A N s g=>⟨r d A N s g.1,by
  rcases g.2 with g2|g2
  .rcases NR s.calm g2 with g3|⟨l,g3,rfl⟩
   .exact .inl g3
   .refine .inr ⟨?_,λj J e=>mh _ (LW { BC 3 with cl:=v } J e)⟩;rw[Am,if_pos rfl];have ac:=g.1.pe.acc a a.hi;have y:(A.ab i).av.fv=b:=(g.1.pe.pb.cm.fv i a.hi).trans a.hB;exact PI (m.trans y.symm) ac.1 u (ac.2.trans y.symm)
  .exact .inr (g2.step a s.calm g.1.pe m)⟩) ⟨p,.inl (by rw[Bu];exact t.2)⟩
 refine⟨k.2.resolve_left λg=>?_,by rw[F.ri i,Bu];exact t.1⟩;rw[GP E,Am,if_pos rfl,H4 (h.pe.pb.cm.rC a.hi)]at g
 cases g
theorem Wn(a:PhC C K B cov i b){M:Meet}(h:PhL C K B cov i b M)(m:(M.ab i).ae.length<(M.ab i).av.next):((M.act (acN 3 (i:Int))).ab i).av.next=(M.ab i).av.next:=by
 have l:=h.pe.pb.cm.up i a.hi;obtain⟨p,s0,r,n,a0,e,f,t,q,o⟩:=H9 (D:=wh1) a.hi l;have k:∀ c A N,Stp wh1 c A N->PhL C K B cov i b A->PhL C K B cov i b N:=λc A N s g=>g.step a s.calm;have j:=s0.inv k h;have d:(e.ab i).av=(M.ab i).av/\(e.ab i).ae=(M.ab i).ae:=by
  rw[f,Bu,j.pe.hZ a.hi];exact⟨n,a0⟩
 rw[o.ri i,Bu];unfold Nod.cn;rw[if_pos (.inr (.inr (by rw[d.1,d.2];exact m))),d.1]
def Bz(i:Nat)(v:Vt)(N:Meet):Prop:=v∈((N.ab i).av.an i).vs/\∀ j,j<5->j≠i->Pend.voted i v∈(N.ab j).bu
theorem PhL.drop{N:Meet}(h:PhL C K B cov i b N):PhL C K B cov i b { N with br:=[] } :=
 ⟨⟨⟨h.pe.pb.cm.drop,h.pe.pb.ak,h.pe.pb.vi⟩,h.pe.va,h.pe.pr,h.pe.nb,h.pe.aw,λm a=>(by cases a),h.pe.qw⟩,h.ld,h.nx⟩
theorem E4(M:Meet):M.dc An=(M.dc (Aw 3 5)).act (acN 7 0):=by rw[show An=Aw 3 5++[acN 7 0]from rfl,AB]
theorem PhL.round(f:PhC C K B cov i b){n:Nat}{M:Meet}(k:MOk n M)(m:n+6<=1000000)(h:PhL C K B cov i b M):PhL C K B cov i b (M.dc An)/\MOk (n+6) (M.dc An)/\(M.dc An).br=[]/\(∀ j,Ev (M.ab j) ((M.dc An).ab j))/\((M.dc An).ab i).av.next=((M.dc (Aw 3 5)).ab i).av.next:=by
 have d:=Bk (I:=λN=>PhL C K B cov i b N/\∀ j,Ev (M.ab j) (N.ab j)) (λc A N s g=>⟨g.1.step f s.calm,λj=>(g.2 j).trans (s.calm.ev j)⟩) k (by omega) ⟨h,λj=>.refl _⟩;rw[E4];obtain⟨N,l,e,_⟩:=Co (I:=λN=>PhL C K B cov i b N/\(∀ j,Ev (M.ab j) (N.ab j))/\(N.ab i).av.next=((M.dc (Aw 3 5)).ab i).av.next) (λA N s g=>⟨g.1.step f s.qY,λj=>(g.2.1 j).trans (s.qY.ev j),(s.qY.ri i).trans g.2.2⟩) d.1 ⟨d.2.1,d.2.2,rfl⟩;have a:=d.1.act (x:=acN 7 0) (by omega) (by rw[<- Dp];decide);rw[l]at a ⊢
 exact⟨e.1.drop,a,rfl,e.2.1,e.2.2⟩
theorem Th(a:PhC C K B cov i b)(u:14*K+38*(cov.length:Int)<=99000)(f:∀ c∈C,c.e=0){n:Nat}{M:Meet}(r:MOk n M)(P:n+6<=1000000)(h:PhL C K B cov i b M)(F:(M.ab i).ae.length<40)(H:(M.ab i).av.next<=(M.ab i).ae.length){c:Cmd}(x:(M.ab i).qo (M.ab i).ae.length=some c) :
  Bz i ⟨((M.ab i).ae.length:Int),b,c⟩ (M.dc An)/\((M.dc An).ab i).av.next=(M.ab i).ae.length+1:=by
 have G:Ai ⟨((M.ab i).ae.length:Int),b,c⟩:=⟨by show(0:Int)<=((M.ab i).ae.length:Int)/\((M.ab i).ae.length:Int)<=39;omega,a.hb,f c (KA (h.pe.pb.cm.s.nd i a.hi) x)⟩;have w:∀ c A N,Stp wh1 c A N->PhL C K B cov i b A->PhL C K B cov i b N:=λc A N s g=>g.step a s.calm;have E:∀ A N,TkS A N->PhL C K B cov i b A->PhL C K B cov i b N:=λA N s g=>g.step a s.qY;have Q:=h.round a r P;have q:=Mc (J:=λN=>J3 i ⟨((M.ab i).ae.length:Int),b,c⟩ N) w (λd A N s g k=>k.step a s.calm g.pe rfl) r (by omega) h a.hi (λN m _ _ g e=>by
  have:=(Og a u f g (by rw[e];exact F) (by rw[e];exact H) (c:=c) (by rw[e];exact x)).1;rw[e]at this;exact this)
 obtain⟨N,t,S,T⟩:=Ia M a.hi;have p:=Bk w r (by omega) h;have O:PhL C K B cov i b N:=by
  rw[S];have R:∀ k,k<=5->MOk (n+k) (M.dc (Aw 3 k))/\PhL C K B cov i b (M.dc (Aw 3 k)):=by
   intro k;induction k with
   | zero=>exact λ_=>⟨r,h⟩
   | succ k ih =>
    intro U;obtain⟨D,L⟩:=ih (by omega);rw[BE,AB];exact⟨D.act (by omega) (FL (by omega)),Cw w D (by omega) L⟩
  have:=a.hi;exact(R i (by omega)).2
 have z:=(Og a u f O (by rw[t];exact F) (by rw[t];exact H) (c:=c) (by rw[t];exact x)).2;refine⟨?_,by rw[Q.2.2.2.2,T,z,t]⟩;have o:(⟨((M.ab i).ae.length:Int),b,c⟩:Vt).b=b:=rfl;generalize (⟨((M.ab i).ae.length:Int),b,c⟩:Vt)=v at G q o ⊢;rw[E4];generalize M.dc (Aw 3 5)=A at p q ⊢;refine⟨?_,λj y e=>?_⟩
 .obtain⟨N,k1,k2,_⟩:=Co (I:=λN=>PhL C K B cov i b N/\v∈((N.ab i).av.an i).vs) (λA N s g=>⟨E A N s g.1,g.1.pe.ov a s.qY o a.hi g.2⟩) p.1 ⟨p.2,q.1⟩;rw[k1];exact k2.2
 .obtain⟨N,k1,_,k3,_⟩:=DD (J:=λN=>Pend.voted i v∈(N.ab j).bu) E (λA N s _ g=>by
   obtain⟨l,_,_,_,rfl⟩:=s;rw[Am];split
   .rename_i e3;rw[<- e3];exact GQ g
   .exact g) p.1 p.2 (q.2 j y e) (λN g=>g.pe.pb.cm.up j y) (λN g _=>by
   rw[Am,if_pos rfl];exact WL a u g.pe.pb y G o (l:={ BC 3 with cl:=v,src:=i,dst:=j }) rfl rfl)
  rw[k1];exact k3
end
theorem lV(q:Nod){i j:Nat}(b:j<5)(c:j≠i) :
  (q.ae.length<=q.av.bw j/\(Eu q i 5).av.bw j=q.av.bw j)\/(q.av.bw j<q.ae.length/\(Eu q i 5).av.bw j=q.ae.length/\({ BC 5 with src:=i,dst:=j,bt:=q.av.bw j,fa:=q.ae.drop (q.av.bw j) }:Let)∈Dl q i 5):=by
 have hin:∀ k,j<k->Mk q i j=true->({ BC 5 with src:=i,dst:=j,bt:=q.av.bw j,fa:=q.ae.drop (q.av.bw j) }:Let)∈Dl q i k:=by
  intro k;induction k with
  | zero=>exact λh=>absurd h (nQ _)
  | succ k ih =>
   intro f a;rw[Dl];by_cases e:j=k
   .rw[<- e,a,if_pos rfl];exact mh _ (D'.2 rfl)
   .exact mi _ (ih (by omega) a)
 have d:(Eu q i 5).av.bw j=if decide (j<5)&&Mk q i j then q.ae.length else q.av.bw j:=rfl;by_cases h:q.av.bw j<q.ae.length
 .have a:Mk q i j=true:=O' ⟨c,h⟩;exact .inr ⟨h,by rw[d,a,O' b];rfl,hin 5 b a⟩
 .have a:Mk q i j=false:=E' λe=>h e.2;exact .inl ⟨by omega,by rw[d,a,O' b];rfl⟩
theorem SZ(p:Nod)(i:Nat)(d:List Let)(c:List Tol):∃ (q:Nod) (ks:List Let),(p.piece i d c).1=(q.bw i ks).1/\(p.piece i d c).2.1=(q.bw i ks).2/\q.av.bw=p.av.bw:=by
 unfold Nod.piece;simp only;have e:=TP i (p.ae.drop p.done) p c;generalize qD i (p.ae.drop p.done) p c=a at e ⊢;have f:(a.1.hZ i).1.av.bw=a.1.av.bw:=by
  unfold Nod.hZ;split
  .rfl
  .split
   .unfold Nod.dT;split<;>rfl
   .rfl
 generalize a.1.hZ i=b at f ⊢;have g:b.1.cn.av.bw=b.1.av.bw:=by
  unfold Nod.cn;split
  .rfl
  .split
   .rfl
   .split<;>rfl
 generalize b.1.cn=r at g ⊢;have h:(r.ni i (d++b.2)).1.av.bw=r.av.bw:=by
  have j:∀ (l:List Pend) (x:Nod) (k:List Let),(nn i l x k).1.av.bw=x.av.bw:=by
   intro l;induction l with
   | nil=>exact λx k=>rfl
   | cons y l ih =>
    intro x k;rw[nn,ih];cases y with
    | began b vs=>simp only[Nod.ln];split<;>rfl
    | prop v =>
     simp only[Nod.ln,Nod.count];split
     .rfl
     .split<;>rfl
    | _=>rfl
  unfold Nod.ni;split
  .rfl
  .rw[j];unfold Nod.qA;split<;>rfl
 exact⟨_,_,rfl,rfl,by rw[h,g,f,e.1]⟩
section
variable{C:List Cmd}{K:Int}{B:Nat->Bal}{cov:List (Bal × Nat)}{i:Nat}{b:Bal}
theorem PhE.tk{M N:Meet}(s:TkS M N)(h:PhE C K B cov i b M):(N.ab i).av.bw=(M.ab i).av.bw:=by
 obtain⟨l,c,a,d,rfl⟩:=s;rw[Am];split
 .rename_i e
  rw[<- e];unfold Nod.take;split
  .split
   .unfold Nod.ed;split<;>rfl
   .show((M.ab i).au _).1.av.bw=_;rw[(Bh _ _).2]
  .simp only;rw[if_pos (.inr (.inr (h.pr l.src a.1)))];rfl
  .rfl
  .split
   .unfold Nod.ed;split<;>rfl
   .show((M.ab i).cl _).1.av.bw=_;rw[(Cy _ _).2]
  .unfold Nod.count;split
   .rfl
   .split<;>rfl
  .split<;>rfl
  .simp only;unfold Nod.dT;split<;>split<;>rfl
  .rfl
 .rfl
def TT0(i:Nat)(M:Meet):Prop:=∀ j,j<5->j≠i->(M.ab i).av.bw j<=(M.ab j).ae.length
def TTx(i a0:Nat)(N:Meet):Prop:=∀ j,j<5->j≠i->a0<=(N.ab i).av.bw j/\((N.ab i).av.bw j<=(N.ab j).ae.length\/∃ m∈N.br,m.kind=5/\m.dst=j/\m.bt<=(N.ab j).ae.length/\(N.ab i).av.bw j<=m.bt+m.fa.length)
theorem Tq(k:PhC C K B cov i b){n:Nat}{M:Meet}(z:MOk n M)(F:n+1<=1000000)(h:PhL C K B cov i b M)(t:TT0 i M):TTx i (M.ab i).ae.length (M.act (acN 3 (i:Int))):=by
 have E:=h.pe.pb.cm.up i k.hi;have u:=Cw (I:=λN=>PhL C K B cov i b N/\Ev (M.ab i) (N.ab i)) (λc A N s g=>⟨g.1.step k s.calm,g.2.trans (s.calm.ev i)⟩) z k.hi ⟨h,.refl _⟩;have l:=u.1.pe.pb.leads k;have d:=u.2.ag.length_le;intro j v a;have o:=Es M (i:=i) a;have f:=t j v a;have e:M.act (acN 3 (i:Int))=M.set i ((M.ab i).piece i M.br M.eo).1 ((M.ab i).piece i M.br M.eo).2.1 ((M.ab i).piece i M.br M.eo).2.2:=GP E;obtain⟨q,w,x,y,r⟩:=SZ (M.ab i) i M.br M.eo;rw[o];rw[e,Bu,x]at l d ⊢
 have D:q.leads=true:=by
  refine mR λg=>?_;unfold Nod.bw at l;rw[if_neg g]at l
  exact g l
 have p:q.bw i w=(Eu q i 5,w++Dl q i 5):=by unfold Nod.bw;rw[if_pos D]
 rw[p]at d ⊢
 have d:(M.ab i).ae.length<=q.ae.length:=d;show _<=(Eu q i 5).av.bw j/\((Eu q i 5).av.bw j<=_\/∃ m∈((M.ab i).piece i M.br M.eo).2.1,_/\_/\_/\(Eu q i 5).av.bw j<=_);rw[y,p];rcases lV q v a with⟨g1,g2⟩|⟨g1,g2,g3⟩
 .rw[g2];exact⟨by omega,.inl (by rw[r];exact f)⟩
 .rw[g2];refine⟨d,.inr ⟨_,mh _ g3,rfl,rfl,by show q.av.bw j<=_;rw[r];exact f,?_⟩⟩;show q.ae.length<=q.av.bw j+(q.ae.drop (q.av.bw j)).length;rw[mm];omega
theorem Mn(u:PhC C K B cov i b){n:Nat}{M:Meet}(E:MOk n M)(L:n+6<=1000000)(h:PhL C K B cov i b M)(t:TT0 i M):TT0 i (M.dc An)/\∀ j,j<5->(M.ab i).ae.length<=((M.dc An).ab j).ae.length:=by
 have G:∀ c A N,Stp wh1 c A N->PhL C K B cov i b A->PhL C K B cov i b N:=λc A N s g=>g.step u s.calm;have O:∀ k,k<=5->MOk (n+k) (M.dc (Aw 3 k))/\PhL C K B cov i b (M.dc (Aw 3 k))/\(∀ j,Ev (M.ab j) ((M.dc (Aw 3 k)).ab j))/\(k<=i->(M.dc (Aw 3 k)).ab i=M.ab i)/\(i<k->TTx i (M.ab i).ae.length (M.dc (Aw 3 k))):=by
  intro k;induction k with
  | zero=>exact λ_=>⟨E,h,λj=>.refl _,λ_=>rfl,λe=>absurd e (nQ _)⟩
  | succ k ih =>
   intro P;obtain⟨d,o,r,y,p⟩:=ih (by omega);rw[BE,AB];generalize M.dc (Aw 3 k)=A at d o r y p ⊢;have q:=Cw (I:=λN=>(∀ j,Ev (A.ab j) (N.ab j))/\∀ m∈A.br,m∈N.br) (λc X N s g=>⟨λj=>(g.1 j).trans (s.calm.ev j),λm z=>s.calm.qL (g.2 m z)⟩) d (show k<5 by omega) ⟨λj=>.refl _,λm z=>z⟩;refine⟨d.act (by omega) (FL (by omega)),Cw G d (by omega) o,λj=>(r j).trans (q.1 j),λe=>by rw[Es _ (by omega)];exact y (by omega),λe=>?_⟩;by_cases F:i<k
   .intro j f a;obtain⟨x,l⟩:=p F j f a;rw[Es A (i:=k) (j:=i) (by omega)];have:=(q.1 j).ag.length_le;refine⟨x,?_⟩;rcases l with l|⟨m,l,g3,g4,g5,g6⟩
    .exact .inl (by omega)
    .exact .inr ⟨m,q.2 m l,g3,g4,by omega,g6⟩
   .obtain rfl:k=i:=by omega
    have D:=y (A' _);have:=Tq u d (by omega) o (λj f a=>by
     have:=(r j).ag.length_le;have:=t j f a;rw[D];omega)
    rw[D]at this;exact this
 obtain⟨d,o,r,_,p⟩:=O 5 (A' _);have p:=p u.hi;rw[E4];generalize M.dc (Aw 3 5)=A at d o r p ⊢;have key:∀ j,j<5->j≠i->((A.act (acN 7 0)).ab i).av.bw j<=((A.act (acN 7 0)).ab j).ae.length/\(M.ab i).ae.length<=((A.act (acN 7 0)).ab i).av.bw j:=λj f a=>by
  obtain⟨x,l⟩:=p j f a;rcases l with l|⟨m,l,g3,g4,g5,g6⟩
  .obtain⟨N,w,v,_⟩:=Co (I:=λN=>PhL C K B cov i b N/\(N.ab i).av.bw=(A.ab i).av.bw/\Ev (A.ab j) (N.ab j)) (λX N s g=>⟨g.1.step u s.qY,(g.1.pe.tk s).trans g.2.1,g.2.2.trans (s.qY.ev j)⟩) d ⟨o,rfl,.refl _⟩;rw[w];show(N.ab i).av.bw j<=(N.ab j).ae.length/\_<=(N.ab i).av.bw j;have:=v.2.2.ag.length_le;rw[v.2.1];omega
  .obtain⟨N,w,v,k3,_⟩:=DD (I:=λN=>PhL C K B cov i b N/\(N.ab i).av.bw=(A.ab i).av.bw/\Ev (A.ab j) (N.ab j)) (J:=λN=>(A.ab i).av.bw j<=(N.ab j).ae.length) (λX N s g=>⟨g.1.step u s.qY,(g.1.pe.tk s).trans g.2.1,g.2.2.trans (s.qY.ev j)⟩) (λX N s g k=>by have:=(s.qY.ev j).ag.length_le;omega) d ⟨o,rfl,.refl _⟩ l (λN g=>by rw[g4];exact g.1.pe.pb.cm.up j f) (λN g _=>by
    have H:=g.2.2.ag.length_le;rw[g4,Am,if_pos rfl];unfold Nod.take;rw[g3];simp only;rw[if_neg (by omega)];show _<=((N.ab j).ae++m.fa.drop ((N.ab j).ae.length-m.bt)).length;rw[H',mm];omega)
   rw[w];show(N.ab i).av.bw j<=(N.ab j).ae.length/\_<=(N.ab i).av.bw j;rw[v.2.1];exact⟨k3,x⟩
 refine⟨λj f a=>(key j f a).1,λj f=>?_⟩;by_cases e:j=i
 .subst e;have:=h.round u E L;rw[E4]at this
  obtain⟨N,w,v,_⟩:=Co (I:=λN=>Ev (A.ab j) (N.ab j)) (λX N s g=>g.trans (s.qY.ev j)) d (.refl _);rw[w];exact((r j).trans v).ag.length_le
 .have:=key j f e;omega
def K1(M:Meet):Prop:=∀ m∈M.br,m.kind=1->m.fa.length<=(M.ab m.src).ae.length
theorem K1.step{c:Nat}{M N:Meet}(s:Stp wh0 c M N)(h:K1 M):K1 N:=by
 have f:∀ m∈M.br,m.kind=1->m.fa.length<=(N.ab m.src).ae.length:=λm i a=>me (h m i a) (s.ev m.src).ag.length_le;intro m i a;cases s with
 | br _ ls hl hd=>exact False.elim hd
 | ask _ k hi hu =>
  rcases P'.1 i with g|g
  .exact f m g a
  .unfold Nod.hZ at g;split at g
   .cases g
   .split at g
    .cases g
    .rw[D'.1 g]at a;cases a
 | run _ k hi hu q l hp hs =>
  rcases P'.1 i with g|g
  .exact f m g a
  .cases q with
   | began b vs =>
    unfold Nod.qt at g;simp only at g;split at g
    .cases g
    .have:=(D5 g).1;rw[a]at this;cases this
   | prop v=>have:=(D5 g).1;rw[a]at this;cases this
   | start=>have:=(D5 g).1;rw[a]at this;cases this
   | prom to b vs =>
    rw[D'.1 g];show(M.ab k).ae.length<=((M.set k { (M.ab k).ln k (.prom to b vs)with bu:=l } _ _).ab k).ae.length;rw[Bu];exact A' _
   | _=>have e:=D'.1 g;rw[e]at a;cases a
 | qx _ k hi hu hL =>
  rcases P'.1 i with g|g
  .exact f m g a
  .have:=(J1 5 m g).1;omega
 | lead _ k hi hu hL=>exact False.elim hL
 | sub _ k d hi hu hD=>exact False.elim hD
 | kc _ k x hi hu a hC=>exact False.elim hC
 | start _ k hi hu hs=>exact False.elim hs
 | _=>exact f m i a
end
section
variable{C:List Cmd}{K:Int}{B:Nat->Bal}{cov:List (Bal × Nat)}{i:Nat}{b:Bal}
theorem Ti(a:PhC C K B cov i b){n:Nat}{M:Meet}(o:MOk n M)(O:n+6<=1000000)(h:PhL C K B cov i b M){v:Vt}(L:Ai v)(d:v.b=b)(z:Bz i v M)(Q:(M.ab i).ae.length<(M.ab i).av.next) :
  v.bt<(((M.dc An).ab i).ae.length:Int)/\((M.dc An).ab i).av.next=(M.ab i).av.next:=by
 have q:∀ c A N,Stp wh1 c A N->PhL C K B cov i b A->PhL C K B cov i b N:=λc A N s g=>g.step a s.calm;have x:∀ A N,TkS A N->PhL C K B cov i b A->PhL C K B cov i b N:=λA N s g=>g.step a s.qY;have E:=h.round a o O;have m:=Bk q o (by omega) h;have t:((M.dc (Aw 3 5)).ab i).av.next=(M.ab i).av.next:=by
  obtain⟨N,F,S,T⟩:=Ia M a.hi;have H:PhL C K B cov i b N:=by
   rw[S];have P:∀ k,k<=5->MOk (n+k) (M.dc (Aw 3 k))/\PhL C K B cov i b (M.dc (Aw 3 k)):=by
    intro k;induction k with
    | zero=>exact λ_=>⟨o,h⟩
    | succ k ih =>
     intro r;obtain⟨w,G⟩:=ih (by omega);rw[BE,AB];exact⟨w.act (by omega) (FL (by omega)),Cw q w (by omega) G⟩
   have:=a.hi;exact(P i (by omega)).2
  rw[T,Wn a H (by rw[F];exact Q),F]
 refine⟨?_,by rw[E.2.2.2.2,t]⟩;have p:=Bk (I:=λN=>PhL C K B cov i b N/\v∈((N.ab i).av.an i).vs) (λc A N s g=>⟨q c A N s g.1,g.1.pe.ov a s.calm d a.hi g.2⟩) o (by omega) ⟨h,z.1⟩;have D:∀ j,j<5->j≠i->({ BC 4 with cl:=v,src:=j,dst:=i }:Let)∈(M.dc (Aw 3 5)).br:=λj f e =>
  Fk (J:=λN=>({ BC 4 with cl:=v,src:=j,dst:=i }:Let)∈N.br) q (λc A N s _ g=>s.calm.qL g) (λA k g r=>⟨g.pe.pb.cm.up k r,g.pe.pb.cm.rC r⟩) o (by omega) h f (z.2 j f e) λN l g _ _=>mh _ (D'.2 rfl)
 refine E.1.ld v d λj f=>?_;rw[E4];generalize M.dc (Aw 3 5)=A at m D p ⊢;by_cases e:j=i
 .subst e;obtain⟨N,u,R,_⟩:=Co (I:=λN=>PhL C K B cov j b N/\v∈((N.ab j).av.an j).vs) (λA N s g=>⟨x A N s g.1,g.1.pe.ov a s.qY d f g.2⟩) m.1 ⟨m.2,p.2.2⟩;rw[u];exact R.2
 .obtain⟨N,u,_,k3,_⟩:=DD (J:=λN=>v∈((N.ab i).av.an j).vs) x (λA N s g k=>g.pe.ov a s.qY d f k) m.1 m.2 (D j f e) (λN g=>g.pe.pb.cm.up i a.hi) (λN g _=>by
   rw[Am,if_pos rfl];have ac:=g.pe.acc a f;have y:(N.ab i).av.fv=b:=(g.pe.pb.cm.fv i a.hi).trans a.hB;exact PI (d.trans y.symm) ac.1 L (ac.2.trans y.symm))
  rw[u];exact k3
def mu(i:Nat)(M:Meet):Nat:=2*(40-(M.ab i).ae.length)+(if(M.ab i).av.next<=(M.ab i).ae.length then 1 else 0)
def Zz(i:Nat)(b:Bal)(M:Meet):Prop:=(M.ab i).av.next<=(M.ab i).ae.length\/∃ v:Vt,Ai v/\v.b=b/\v.bt=((M.ab i).ae.length:Int)/\Bz i v M
theorem gB(q:PhC C K B cov i b){M:Meet}(h:PhL C K B cov i b M)(x:(M.ab i).av.next<=(M.ab i).ae.length)(d:(M.ab i).ae.length<40->(M.ab i).qo (M.ab i).ae.length=Option.none):Fin_ i (M.ab i).ae M:=by
 refine⟨rfl,x,λf j s v t e=>?_,λf c n=>mR λe=>?_⟩
 .have d:=d f;unfold Nod.qo at d;have p:∀ l∈(M.ab i).av.hU.map (·.vs),∀ u∈l,Ai u:=λl o u k=>by
   obtain⟨a,f,rfl⟩:=mA.1 o;unfold Rnd.hU at f;simp only[mn,Q',or_false]at f;rcases f with e|e|e|e|e<;>(rw[e]at k;exact((h.pe.acc q (by omega)).1.2.1 u k).1)
  have m:Cd ((M.ab i).av.hU.map (·.vs)) ((M.ab i).ae.length:Int)=0:=by unfold Cd;rw[if_neg (λg=>g (by omega)),if_pos p]
  have r:DP ((M.ab i).av.hU.map (·.vs)) ((M.ab i).ae.length:Int)=true:=by
   unfold DP;rw[if_pos m];have:v∈Ae ((M.ab i).av.hU.map (·.vs)).flatten ((M.ab i).ae.length:Int):=Bd.2 ⟨oC.2 ⟨((M.ab i).av.an j).vs,mA.2 ⟨(M.ab i).av.an j,by unfold Rnd.hU;rcases qq s with rfl|rfl|rfl|rfl|rfl<;>simp,rfl⟩,t⟩,e⟩;unfold FU;generalize Ae _ _=l at this;have key:∀ (l:List Vt) (u:Vt),(BQ l (some u)).isSome=true:=by
    intro l;induction l with
    | nil=>exact λu=>rfl
    | cons w l ih=>intro u;rw[BQ];split<;>exact ih _
   cases l with
   | nil=>cases this
   | cons w l=>exact key l w
  rw[if_neg (λg=>g m),if_pos r]at d
  cases d
 .have d:=d f;unfold Nod.qo at d;have p:∀ l∈(M.ab i).av.hU.map (·.vs),∀ u∈l,Ai u:=λl o u k=>by
   obtain⟨a,f,rfl⟩:=mA.1 o;unfold Rnd.hU at f;simp only[mn,Q',or_false]at f;rcases f with e|e|e|e|e<;>(rw[e]at k;exact((h.pe.acc q (by omega)).1.2.1 u k).1)
  have m:Cd ((M.ab i).av.hU.map (·.vs)) ((M.ab i).ae.length:Int)=0:=by unfold Cd;rw[if_neg (λg=>g (by omega)),if_pos p]
  rw[if_neg (λg=>g m)]at d
  split at d
  .cases d
  .exact absurd (nu.1 d c n) (by simpa using e)
theorem Lh(m:Nat):An++Af m=Af (m+1):=by
 induction m with
 | zero=>rfl
 | succ m ih=>show An++(Af m++An)=Af (m+1)++An;rw[<- mf,ih]
theorem gR(a:PhC C K B cov i b)(A:14*K+38*(cov.length:Int)<=99000)(j:∀ c∈C,c.e=0)(k:Nat){n:Nat}{M:Meet}(d:MOk n M)(H:n+6*k<=999000)(h:PhL C K B cov i b M)(z:Zz i b M)(t:TT0 i M)(f:mu i M<=k) :
  ∃ m,m<=k/\Fin_ i ((M.dc (Af m)).ab i).ae (M.dc (Af m))/\PhL C K B cov i b (M.dc (Af m))/\TT0 i (M.dc (Af m))/\MOk (n+6*m) (M.dc (Af m)):=by
 induction k generalizing n M with
 | zero =>
  have:=h.nx;unfold mu at f;split at f<;>omega
 | succ k ih =>
  have F:=h.nx;have D:=(d.ab i a.hi).ag;by_cases o:(M.ab i).av.next<=(M.ab i).ae.length
  .by_cases hf:(M.ab i).ae.length<40->(M.ab i).qo (M.ab i).ae.length=Option.none
   .exact⟨0,mH _,gB a h o hf,h,t,d⟩
   .obtain⟨ha,p⟩:=Classical.not_imp.1 hf;obtain⟨c,p⟩:=nR.1 p;have g:=h.round a d (by omega);have l:=Th a A j d (by omega) h ha o p;have E:=(g.2.2.2.1 i).ag.length_le;have q:Ai ⟨((M.ab i).ae.length:Int),b,c⟩:=⟨by show(0:Int)<=((M.ab i).ae.length:Int)/\((M.ab i).ae.length:Int)<=39;omega,a.hb,j c (KA (h.pe.pb.cm.s.nd i a.hi) p)⟩;obtain⟨m,y,r,u,x,w⟩:=ih (M:=M.dc An) (n:=n+6) g.2.1 (by omega) g.1 (by
     by_cases e:((M.dc An).ab i).ae.length=(M.ab i).ae.length
     .exact .inr ⟨_,q,rfl,by rw[e],l.1⟩
     .exact .inl (by rw[l.2];omega)) (Mn a d (by omega) h t).1 (by
     unfold mu at f ⊢;rw[if_pos o]at f
     split<;>omega)
    refine⟨m+1,by omega,?_⟩;rw[<- Lh,AC];exact⟨r,u,x,by rw[show n+6*(m+1)=n+6+6*m by omega];exact w⟩
  .rcases z with z|⟨v,q,hvb,hs,z⟩
   .exact absurd z o
   .have g:=h.round a d (by omega);have l:=Ti a d (by omega) h q hvb z (by omega);rw[hs]at l
    have G:=q.1.2;obtain⟨m,y,r,u,x,w⟩:=ih (M:=M.dc An) (n:=n+6) g.2.1 (by omega) g.1 (.inl (by rw[l.2];omega)) (Mn a d (by omega) h t).1 (by
     unfold mu at f ⊢;rw[if_neg o]at f
     split<;>omega)
    refine⟨m+1,by omega,?_⟩;rw[<- Lh,AC];exact⟨r,u,x,by rw[show n+6*(m+1)=n+6+6*m by omega];exact w⟩
end
section
variable{C:List Cmd}{K:Int}{B:Nat->Bal}{cov:List (Bal × Nat)}{i:Nat}{b:Bal}
def AW(b:Bal)(j:Nat)(N:Meet):Prop:=(N.ab j).vo.p=b/\∀ c x,(N.ab j).bN c=some x->x=b
theorem TC(d:b≠Bb){p:Nod}{j:Nat}(g:p.vo.p=b){c:Cmd}{x:Bal}(a:(p.hZ j).1.bN c=some x):x=b\/(p.bN c=some x/\c∉p.bn.take 40):=by
 have a:(AZ p.vo.p p.bN (p.bn.take 40)).2 c=some x:=by
  unfold Nod.hZ at a;split at a
  .exact a
  .split at a
   .unfold Nod.dT at a;split at a<;>exact a
   .exact a
 rw[g]at a
 have f:=KN d (p.bn.take 40) p.bN;by_cases e:c∈p.bn.take 40
 .rw[f.2.1 c e]at a;exact .inl (mS a).symm
 .rw[f.1 c e]at a;exact .inr ⟨a,e⟩
theorem PhC.b0(a:PhC C K B cov i b):b≠Bb:=λe=>by have:=a.hb;rw[e]at this;exact absurd this (by decide)
theorem AW.step(d:PhC C K B cov i b){n:Nat}{M N:Meet}(s:Stp wh0 n M N)(h:PhB C K B cov i b M){j:Nat}(f:j<5)(a:AW b j M):AW b j N:=by
 refine⟨h.cm.top d.hc s d.hb.pr d.hK f a.1,λc x e=>?_⟩;rcases s.bN e with g|⟨_,rfl⟩
 .exact a.2 c x g
 .rw[Am,if_pos rfl]at e
  exact(TC d.b0 a.1 e).elim id λg=>a.2 c x g.1
theorem el(a:PhC C K B cov i b){M:Meet}(h:PhB C K B cov i b M){j:Nat}(d:j<5)(w:(M.ab j).vo.p=b):AW b j (M.act (acN 3 (j:Int))):=by
 have v:=h.cm.up j d;obtain⟨k,s0,J,H,a0,l,q,F,z,E⟩:=H9 (D:=wh1) d v;have m:∀ c A N,Stp wh1 c A N->(PhB C K B cov i b A/\(A.ab j).vo.p=b)->PhB C K B cov i b N/\(N.ab j).vo.p=b:=λc A N s g=>⟨g.1.step a s.calm,(s.sq j).trans g.2⟩;have e:=s0.inv m ⟨h,w⟩;have f:=z.inv m e;have n:=e.1.ak j d;have G:=OK n.nd λc r=>(e.1.cm.s.nd j d).wa c r;have t:=a.hC;have u:(k.ab j).bn.take 40=(k.ab j).bn:=mq (by omega);have y:AW b j l:=⟨f.2,λc x o=>by
  rw[q,Bu]at o
  refine(TC a.b0 e.2 o).elim id λg=>absurd ?_ g.2;rw[u,n.wa c,g.1];rfl⟩
 have s3:=Stp.prop (D:=wh1) l j d F;exact(E.inv (I:=λN=>PhB C K B cov i b N/\AW b j N) (λc A N s g=>⟨g.1.step a s.calm,g.2.step a s.calm g.1 d⟩) ⟨f.1.step a s3.calm,y.step a s3.calm f.1 d⟩).2
def T1(i:Nat)(N:Meet):Prop:=∀ j,j<5->j≠i->(N.ab i).av.qm j=true->(N.ab i).av.bw j<=(N.ab j).ae.length
theorem T1.tk{M N:Meet}(s:TkS M N)(k:K1 M)(t:T1 i M):T1 i N:=by
 intro j n d f;have p:=(s.qY.ev j).ag.length_le;have a:(N.ab i).av.bw j=(M.ab i).av.bw j->(N.ab i).av.qm j=(M.ab i).av.qm j->(N.ab i).av.bw j<=(N.ab j).ae.length:=λq h=>by
  have:=t j n d (by rw[<- h];exact f);omega
 obtain⟨l,o,r,u,rfl⟩:=s;by_cases e:i=l.dst
 .have en:((M.set l.dst ((M.ab l.dst).take l) M.br M.eo).ab i)=(M.ab i).take l:=by rw[Am,if_pos e,<- e]
  by_cases c:l.kind=1
  .rw[en]at a f ⊢
   have m:(M.ab i).take l=if((M.ab i).jv 0 l.fa).leads=false\/l.fv≠(M.ab i).av.fv\/(M.ab i).av.qm l.src=true then(M.ab i).jv 0 l.fa else Nod.qv { (M.ab i).jv 0 l.fa with av:={ (M.ab i).av.qJ l.src l.lp with bw:=upN (M.ab i).av.bw l.src l.fa.length } }:=by
    unfold Nod.take;rw[c];rfl
   rw[m]at a f ⊢
   split
   .rename_i hc
    rw[if_pos hc]at a
    exact a rfl rfl
   .rename_i hc
    rw[if_neg hc]at a
    show upN (M.ab i).av.bw l.src l.fa.length j<=_;by_cases b:j=l.src
    .rw[<- b,Da];have:=k l o c;rw[<- b]at this
     omega
    .rw[Ds _ _ b];have:=a (by show upN (M.ab i).av.bw l.src l.fa.length j=_;rw[Ds _ _ b]) (by show upN (M.ab i).av.qm l.src true j=_;rw[Ds _ _ b]);have g:upN (M.ab i).av.bw l.src l.fa.length j<=_:=this;rw[Ds _ _ b]at g
     exact g
  .have:((M.ab i).take l).av.bw=(M.ab i).av.bw/\((M.ab i).take l).av.qm=(M.ab i).av.qm:=by
    unfold Nod.take;split
    .split
     .unfold Nod.ed;split<;>exact⟨rfl,rfl⟩
     .show((M.ab i).au _).1.av.bw=_/\((M.ab i).au _).1.av.qm=_;rw[(Bh _ _).2];exact⟨rfl,rfl⟩
    .rename_i hk;exact absurd hk c
    .exact⟨rfl,rfl⟩
    .split
     .unfold Nod.ed;split<;>exact⟨rfl,rfl⟩
     .show((M.ab i).cl _).1.av.bw=_/\((M.ab i).cl _).1.av.qm=_;rw[(Cy _ _).2];exact⟨rfl,rfl⟩
    .unfold Nod.count;split
     .exact⟨rfl,rfl⟩
     .split<;>exact⟨rfl,rfl⟩
    .split<;>exact⟨rfl,rfl⟩
    .simp only;unfold Nod.dT;split<;>split<;>exact⟨rfl,rfl⟩
    .exact⟨rfl,rfl⟩
   exact a (by rw[en,this.1]) (by rw[en,this.2])
 .have en:((M.set l.dst ((M.ab l.dst).take l) M.br M.eo).ab i)=M.ab i:=by rw[Am,if_neg e]
  exact a (by rw[en]) (by rw[en])
theorem dD(f:PhC C K B cov i b){n:Nat}{M:Meet}(u:MOk n M)(U:n+6<=1000000)(h:PhB C K B cov i b M)(q:QA i b M)(y:∀ j,j<5->(M.ab j).vo.p=b)(hp:(M.ab i).av.qm i=true)(hw:∀ j,j<5->j≠i->∃ vs,Pend.prom i b vs∈(M.ab j).bu)(o:P1 i (M.ab i))(hl:M.br=[]) :
  PhL C K B cov i b (M.dc An)/\Zz i b (M.dc An)/\TT0 i (M.dc An)/\MOk (n+6) (M.dc An):=by
 have hP:∀ A N,TkS A N->PhB C K B cov i b A->PhB C K B cov i b N:=λA N s g=>g.step f s.qY;have T:∀ c A N,Stp wh1 c A N->PhB C K B cov i b A->PhB C K B cov i b N:=λc A N s g=>g.step f s.calm;have hq:=QB f u U h q;have d:∀ j,j<5->j≠i->((M.dc An).ab i).av.qm j=true:=λj a l=>by
  obtain⟨vs,g⟩:=hw j a l;exact VU f u U h a g
 have Q:=Bk (I:=λN=>PhB C K B cov i b N/\(∀ j,j<5->(N.ab j).vo.p=b)/\P1 i (N.ab i)/\K1 N/\(N.ab i).av.qm i=true) (λc A N s g=>⟨T c A N s g.1,λj a=>(s.sq j).trans (g.2.1 j a),s.p1 g.2.2.1,g.2.2.2.1.step s.calm,(s.calm.ev i).qm i g.2.2.2.2⟩) u (by omega) ⟨h,y,o,λm w=>by rw[hl]at w;(cases w),hp⟩;have R:∀ j,j<5->AW b j (M.dc (Aw 3 5)):=λj a=>Mc (I:=λN=>PhB C K B cov i b N/\(N.ab j).vo.p=b) (J:=AW b j) (λc A N s g=>⟨T c A N s g.1,(s.sq j).trans g.2⟩) (λc A N s g k=>k.step f s.calm g.1 a) u (by omega) ⟨h,y j a⟩ a λN m _ _ g _=>el f g.1 a g.2;have S:NB ((M.dc (Aw 3 5)).ab i):=by
  obtain⟨N,W,n2,n3⟩:=Ia M f.hi;rw[n3,GP (by rw[W];exact h.cm.up i f.hi),Am,if_pos rfl];intro x vs g;rw[H4 (by rw[W];exact h.cm.rC f.hi)]at g
  cases g
 obtain⟨z,D,L,E⟩:=hq;rw[E4]at z D L E d ⊢
 generalize M.dc (Aw 3 5)=A at Q R S z D L E d ⊢;obtain⟨Y,Z,a0,o,F,G⟩:=Q;obtain⟨N,k1,k2,_⟩:=Co (I:=λN=>PhB C K B cov i b N/\(∀ j,j<5->AW b j N)/\NB (N.ab i)/\(N.ab i).av.qm i=true/\(N.ab i).av.next=0/\K1 N/\T1 i N) (λX N s g=>⟨hP X N s g.1,λj a=>(g.2.1 j a).step f s.qY g.1 a,s.qY.nb g.2.2.1,(s.qY.ev i).qm i g.2.2.2.1,(s.qY.ri i).trans g.2.2.2.2.1,g.2.2.2.2.2.1.step s.qY,g.2.2.2.2.2.2.tk s g.2.2.2.2.2.1⟩) Y ⟨Z,R,S,G,o.1,F,λj a l e=>by rw[o.2 j l]at e;cases e⟩;rw[k1]at z D L E d ⊢
 obtain⟨r1,O,r3,r4,P,r6,r7⟩:=k2;have d:∀ j,j<5->(N.ab i).av.qm j=true:=λj a=>by
  by_cases e:j=i
  .rw[e];exact r4
  .exact d j a e
 have t:PhE C K B cov i b { N with br:=[] }:=⟨z,λj a=>(O j a).1,d,r3,λj a=>(O j a).2,λm w=>(by cases w),λj a c hc=>by
  have ha:=((r1.ak j a).wa c).1 hc;obtain⟨x,V⟩:=nh.1 ha;exact D j a c (by rw[show((({ N with br:=[] }:Meet).ab j).bN c)=some x from V,(O j a).2 c x V])⟩
 refine⟨⟨t,λv H y=>?_,by show(N.ab i).av.next<=_/\(N.ab i).av.next<=40;rw[P];omega⟩,.inl (by show(N.ab i).av.next<=_;rw[P];exact mH _),λj a l=>r7 j a l (d j a),E⟩;obtain⟨σ,g,_⟩:=t.pb.cm.ex;have r:=g.gs.hv 0 v ((t.rd f g).1.an 0 (by omega) v (y 0 (by omega))).1;have:=t.lt f g r H;have e:(({ N with br:=[] }:Meet).ab i).av.next=0:=P;rw[e]at this
 have:=r.1.1;omega
end
end Go.Proofs.YtgbabbapcibnlabGreatDoor
