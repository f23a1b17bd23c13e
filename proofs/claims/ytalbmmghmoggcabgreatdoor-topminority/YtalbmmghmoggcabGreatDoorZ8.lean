/- Part 8 of the walk. -/
import Derived.Test.YtalbmmghmoggcabGreatDoorZ7
set_option maxRecDepth 100000
set_option maxHeartbeats 4000000
open Go.Proofs.Tryz
set_option linter.unusedVariables false
namespace Go.Proofs.YtalbmmghmoggcabGreatDoor
section
open Go.RowKit
def CR(d:List Int)(s:Int):Prop:=d.length<=100000/\0<=s/\s<=(d.length:Int)
instance (d:List Int) (s:Int):Decidable (CR d s):=by unfold CR;exact inferInstance
def CY(d:List Int)(s:Int):Int:=if CR d s then 0 else 5
def Jh(d:List Int)(s:Int):List Int:=if CR d s then d else[]
def K5(d:List Int)(s:Int):Int:=if CR d s then(d.length:Int)else 0
def Ss(d:List Int)(s k:Int):Int:=if k<(d.length:Int)-s then s+k else(d.length:Int)
def KS(d:List Int)(s k:Int):Int:=if ¬ CR d s then 5 else if k<0 then 2 else 0
def Nv(d:List Int)(s k:Int):List Int:=if KS d s k=0 then d.take (Ss d s k).toNat else[]
def Nx(d:List Int)(s k:Int):Int:=if KS d s k=0 then Ss d s k else 0
def tpA(x:Value)(s:Int):Array Value:=#[x,.int .i64 s]
theorem KB:(prog.info? 93).map (·.size)=some 2:=by kernel_rfl
theorem WR(x:Option Addr)(n c:Nat)(s:Int):(#[.slice x n c,.int .i64 s]:Array Value).all (·.oneCell')=true:=by simp[Value.oneCell']
end
section
section
def D9(b:List Int):List Int:=(b.length:Int)::b
def BH(b:List Int):List Int:=D9 b++(dig (D9 b)).take 4
theorem GC(b:List Int):(D9 b).length=b.length+1:=rfl
theorem GZ(b:List Int):(BH b).length=b.length+5:=by
 unfold BH;rw[N',GC,fx,Ay];omega
def BA(b:Bal):List Int:=1::(Ag b.r++Ag b.n)
def B1(v:Vt):List Int:=2::(Ag v.slot++(Ag v.b.r++(Ag v.b.n++H7 v.w.k v.w.c v.w.s v.w.n v.w.v)))
theorem Pc(v:Vt):(B1 v).length=33:=rfl
theorem Tj(b:Bal):∀ x∈BA b,0<=x/\x<256:=by
 intro x hx;rcases fD.1 hx with rfl|hx
 .omega
 .rcases Y'.1 hx with hx|hx
  .exact AM _ x hx
  .exact AM _ x hx
theorem TS(v:Vt):∀ x∈B1 v,0<=x/\x<256:=by
 intro x hx;rcases fD.1 hx with rfl|hx
 .omega
 .rcases Y'.1 hx with hx|hx
  .exact AM _ x hx
  .rcases Y'.1 hx with hx|hx
   .exact AM _ x hx
   .rcases Y'.1 hx with hx|hx
    .exact AM _ x hx
    .exact Lt _ _ _ _ _ x hx
variable{b c:Acc}{k m n:Nat}{r:List Int}
theorem JP{b:List Int}(hb:∀ x∈b,0<=x/\x<256)(hl:b.length<=255):∀ x∈D9 b,0<=x/\x<256:=by
 intro x hx;rcases fD.1 hx with rfl|hx
 .omega
 .exact hb x hx
theorem Ku{b:List Int}(hb:∀ x∈b,0<=x/\x<256)(hl:b.length<=255):∀ x∈BH b,0<=x/\x<256:=by
 intro x hx;rcases Y'.1 hx with hx|hx
 .exact JP hb hl x hx
 .exact CU _ x (fK hx)
def dh(l:List Int):Cmd:=⟨Ab l 0,Ab l 4,Ab l 8,Ab l 12,Ab l 16⟩
def G0(b:List Int):Bal:=⟨Ab b 1,Ab b 5⟩
def FM(b:List Int):Vt:=⟨Ab b 1,⟨Ab b 5,Ab b 9⟩,dh (b.drop 13)⟩
def G9(a:Acc)(b:List Int):Option Acc :=
 if b.length=9/\b.getD 0 0=1 then(if BN a (G0 b)=0 then some ⟨G0 b,a.vs⟩else none)
 else if b.length=33/\b.getD 0 0=2 then(if BY (b.drop 13)=0 then(if AX a (FM b)=0 then some ⟨(FM b).b,Bk a.vs (FM b)⟩else none)else none)
 else none
def EL(r:List Int)(a:Acc):Option (Acc × Nat) :=
 if r=[]then none
 else if r.length<(r.getD 0 0).toNat+5 then none
 else if(dig (r.take ((r.getD 0 0).toNat+1))).take 4≠(r.drop ((r.getD 0 0).toNat+1)).take 4 then none
 else(G9 a ((r.take ((r.getD 0 0).toNat+1)).drop 1)).map λx=>(x,(r.getD 0 0).toNat+5)
def a0:Acc:=⟨⟨0,0⟩,[]⟩
def Kf(r:List Int)(p:Nat × Acc):Nat × Acc:=match EL (r.drop p.1) p.2 with
 | none=>p
 | some (c,m)=>(p.1+m,c)
def itR(r:List Int):Nat->Nat × Acc
 | 0=>(0,a0)
 | k+1=>Kf r (itR r k)
def E8(r:List Int):Nat × Acc:=itR r r.length
theorem W7{a:Acc}(h:EL r a=some (c,m)):5<=m/\m<=r.length:=by
 unfold EL at h;split at h
 .cases h
 .split at h
  .cases h
  .split at h
   .cases h
   .obtain⟨x,_,e⟩:=im.1 h;injection e with e1 e2
    omega
theorem Qg{p:Nat × Acc}(h:EL (r.drop p.1) p.2=none):Kf r p=p:=by
 unfold Kf;rw[h]
theorem Qh(h:EL (r.drop n) b=some (c,m)):Kf r (n,b)=(n+m,c):=by
 unfold Kf;rw[show EL (r.drop (n,b).1) (n,b).2=some (c,m)from h]
theorem SI(h:itR r k=(n,b))(hs:EL (r.drop n) b=none)(j:Nat):itR r (k+j)=(n,b):=by
 induction j with
 | zero=>exact h
 | succ j ih =>
  rw[<- go,itR,ih];exact Qg hs
theorem RD(h:itR r k=(n,b))(hk:k<=r.length)(hs:EL (r.drop n) b=none):E8 r=(n,b):=by
 have:=SI h hs (r.length-k);rw[show k+(r.length-k)=r.length by omega]at this
 exact this
theorem aO(r:List Int)(k:Nat):(itR r k).1<=r.length:=by
 induction k with
 | zero=>exact fP _
 | succ k ih =>
  rw[itR];unfold Kf;split
  .exact ih
  .rename_i c m h
   have:=(W7 h).2;rw[fA]at this
   show(itR r k).1+m<=r.length;omega
theorem Y4(r:List Int):(E8 r).1<=r.length:=aO r r.length
end
end
section
open Go.RowKit
def fbO(r:List Int):Option (List Int) :=
 if r=[]then none
 else if r.length<(r.getD 0 0).toNat+5 then none
 else if(dig (r.take ((r.getD 0 0).toNat+1))).take 4≠(r.drop ((r.getD 0 0).toNat+1)).take 4 then none
 else some ((r.take ((r.getD 0 0).toNat+1)).drop 1)
theorem Rm{r b:List Int}(h:fbO r=some b):b.length+5<=r.length/\b.length=(r.getD 0 0).toNat:=by
 unfold fbO at h;split at h
 .cases h
 .split at h
  .cases h
  .split at h
   .cases h
   .injection h with h
    subst h;rw[fA,fx];omega
theorem K4(r:List Int)(a:Acc):EL r a=(fbO r).bind λb=>(G9 a b).map λc=>(c,b.length+5):=by
 have hl:∀ b,fbO r=some b->b.length=(r.getD 0 0).toNat:=λb h=>(Rm h).2;unfold EL;unfold fbO at hl ⊢;by_cases h0:r=[]
 .rw[if_pos h0,if_pos h0];rfl
 .rw[if_neg h0]at hl ⊢
  rw[if_neg h0];by_cases h1:r.length<(r.getD 0 0).toNat+5
  .rw[if_pos h1,if_pos h1];rfl
  .rw[if_neg h1]at hl ⊢
   rw[if_neg h1];by_cases h2:(dig (r.take ((r.getD 0 0).toNat+1))).take 4≠(r.drop ((r.getD 0 0).toNat+1)).take 4
   .rw[if_pos h2,if_pos h2];rfl
   .rw[if_neg h2]at hl ⊢
    rw[if_neg h2];have e:=hl _ rfl;show _=(G9 a _).map _;rw[e]
theorem CG(l:List Int)(n i:Nat):Ab (l.drop n) i=Ab l (n+i):=by
 unfold Ab;simp only[fY,gh,go]
def Gc(a:Acc)(b:List Int):Int :=
 if b.length=9/\b.getD 0 0=1 then BN a (G0 b)
 else if b.length=33/\b.getD 0 0=2 then(if BY (b.drop 13)=0 then AX a (FM b)else BY (b.drop 13))
 else 3
def EW(a:Acc)(b:List Int):Acc :=
 if b.length=9/\b.getD 0 0=1 then⟨EO a (G0 b),EN a (G0 b)⟩
 else if b.length=33/\b.getD 0 0=2 then(if BY (b.drop 13)=0 then⟨BX a (FM b),Dc a (FM b)⟩else a0)
 else a0
theorem NB(a:Acc)(b:List Int):G9 a b=if Gc a b=0 then some (EW a b)else none:=by
 unfold G9 Gc EW;by_cases h1:b.length=9/\b.getD 0 0=1
 .rw[if_pos h1,if_pos h1,if_pos h1];by_cases h2:BN a (G0 b)=0
  .rw[if_pos h2,if_pos h2];unfold EO EN;rw[if_pos h2,if_pos h2]
  .rw[if_neg h2,if_neg h2]
 .rw[if_neg h1,if_neg h1,if_neg h1];by_cases h2:b.length=33/\b.getD 0 0=2
  .rw[if_pos h2,if_pos h2,if_pos h2];by_cases h3:BY (b.drop 13)=0
   .rw[if_pos h3,if_pos h3,if_pos h3];by_cases h4:AX a (FM b)=0
    .rw[if_pos h4,if_pos h4];unfold BX Dc;rw[if_pos h4,if_pos h4]
    .rw[if_neg h4,if_neg h4]
   .rw[if_neg h3,if_neg h3,if_neg h3]
  .rw[if_neg h2,if_neg h2,if_neg h2,if_neg (by decide)]
def voV(l:List Int):Vt:=if BY (l.drop 12)=0 then⟨Ab l 0,⟨Ab l 4,Ab l 8⟩,dh (l.drop 12)⟩else⟨0,⟨0,0⟩,⟨0,0,0,0,0⟩⟩
theorem Ze{l:List Int}(h:BY (l.drop 12)=0):∃ m0 m1 m2 m3 m4:Int,IW (l.drop 12)=#[.int .i64 m0,.int .i64 m1,.int .i64 m2,.int .i64 m3,.int .i64 m4]/\voV l=⟨Ab l 0,⟨Ab l 4,Ab l 8⟩,⟨m0,m1,m2,m3,m4⟩⟩:=by
 refine⟨Ab (l.drop 12) 0,Ab (l.drop 12) 4,Ab (l.drop 12) 8,Ab (l.drop 12) 12,Ab (l.drop 12) 16,?_,?_⟩
 .unfold IW;rw[if_pos h];rfl
 .unfold voV;rw[if_pos h];rfl
theorem Zd{l:List Int}(h:¬ BY (l.drop 12)=0):IW (l.drop 12)=zV5/\voV l=⟨0,⟨0,0⟩,⟨0,0,0,0,0⟩⟩:=by
 unfold voV IW;rw[if_neg h,if_neg h];exact⟨rfl,rfl⟩
theorem Pb(b:List Int)(h:BY (b.drop 13)=0):voV (b.drop 1)=FM b:=by
 unfold voV FM;rw[iC,if_pos h,CG,CG,CG]
theorem J7(b:List Int):(⟨Ab (b.drop 1) 0,Ab (b.drop 1) 4⟩:Bal)=G0 b:=by
 unfold G0;rw[CG,CG]
def Gq(d:List Int)(s:Int):Acc:=if CR d s then(E8 d).2 else a0
def O9(d:List Int)(s:Int):Int:=if CR d s then((E8 d).1:Int)else 0
def OC(d:List Int)(s:Int):List Int:=if CR d s then d.take (E8 d).1 else[]
def QD(d:List Int)(s:Int):Int:=if CR d s then(if((E8 d).1:Int)<s then((E8 d).1:Int)else s)else 0
end
section
def Je(d:List Int)(s:Int)(k:Nat):Int:=if ¬ CR d s then 5 else if 100000<d.length+k then 8 else 0
def CN(d:List Int)(s:Int)(may:Prop)[Decidable may] (b:List Int):Int:=if Je d s (b.length+5)≠0 then Je d s (b.length+5)else if may then 0 else 2
def Gy(d:List Int)(s:Int)(may:Prop)[Decidable may] (b:List Int):List Int:=if CN d s may b=0 then d++BH b else[]
def Iw(d:List Int)(s:Int)(may:Prop)[Decidable may] (b:List Int):Int:=if CN d s may b=0 then s else 0
theorem Yy(b:Bal):BN a0 b=if Ad b then 0 else 2:=by
 have h0:AC a0:=⟨.inr ⟨rfl,rfl⟩,λv hv=>(H' hv).elim,trivial⟩;unfold BN;rw[if_neg (λg=>g h0)];by_cases h:Ad b
 .rw[if_neg (λg=>g h),if_pos h,if_neg];intro g;unfold Ad at h;unfold Bal.lt a0 at g;simp only at g;omega
 .rw[if_pos h,if_neg h]
theorem Zf(v:Vt):AX a0 v=if Am v then 0 else 2:=by
 have h0:AC a0:=⟨.inr ⟨rfl,rfl⟩,λv hv=>(H' hv).elim,trivial⟩;unfold AX;rw[if_neg (λg=>g h0)];by_cases h:Am v
 .rw[if_neg (λg=>g h),if_pos h,if_neg];intro g;have hb:=h.2.1;unfold Ad at hb;unfold Bal.lt a0 at g;simp only at g;omega
 .rw[if_pos h,if_neg h]
end
section
open Go.RowKit
section
def Bd{α:Type}(f:Nat->α)(i:Nat)(x:α):Nat->α:=λj=>if j=i then x else f j
structure Sto where
 V:Nat->Int
 L:Nat->Int
 C:Nat->Int
 A:Nat->Int
 R:Nat->Bool
def Fq:Sto:=⟨λ_=>0,λ_=>0,λ_=>0,λ_=>0,λ_=>false⟩
def ClB(l c a:Int):Prop:=(0<=l/\l<=1048577)/\(l=0->c=0/\a=0)
instance (l c a:Int):Decidable (ClB l c a):=by unfold ClB;exact inferInstance
def VaB(v:Int):Prop:=0<=v/\v<=1073741824
instance (v:Int):Decidable (VaB v):=by unfold VaB;exact inferInstance
def RX(s:Sto):Prop:=(∀ i,i<8->VaB (s.V i))/\∀ i,i<8->ClB (s.L i) (s.C i) (s.A i)
noncomputable instance (s:Sto):Decidable (RX s):=Classical.propDecidable _
noncomputable def Lj(s:Sto):Int:=if RX s then 0 else 5
variable{m:Cmd}{s:Sto}
theorem YL(h:RX s):Lj s=0:=if_pos h
theorem Jv(h:¬ RX s):Lj s=5:=if_neg h
def Lb(s:Sto)(m:Cmd):Int:=if m.k=1 then m.v else if m.k=2 then s.V m.n.toNat else 0
def M0(s:Sto)(m:Cmd):Sto :=
 ⟨if m.k=1 then Bd s.V m.n.toNat m.v else s.V,Bd s.L m.c.toNat (m.s+1),Bd s.C m.c.toNat 0,Bd s.A m.c.toNat (Lb s m),if m.k=3 then Bd s.R m.n.toNat true else s.R⟩
def dnS(s:Sto)(m:Cmd):Sto:=if m.k≠0/\¬ m.s<s.L m.c.toNat/\s.R m.c.toNat=false then M0 s m else s
def dnC(s:Sto)(m:Cmd):Int :=
 if m.k=0 then 0 else if s.L m.c.toNat=m.s+1 then s.C m.c.toNat else if m.s<s.L m.c.toNat then 7 else if s.R m.c.toNat=true then 11 else 0
def dnA(s:Sto)(m:Cmd):Int :=
 if m.k=0 then 0 else if s.L m.c.toNat=m.s+1 then s.A m.c.toNat else if m.s<s.L m.c.toNat then 0 else if s.R m.c.toNat=true then 0 else Lb s m
noncomputable def doE(s:Sto)(m:Cmd):Int:=if RX s then m.e else 5
noncomputable def doS(s:Sto)(m:Cmd):Sto:=if doE s m=0 then dnS s m else Fq
noncomputable def doC(s:Sto)(m:Cmd):Int:=if doE s m=0 then dnC s m else 0
noncomputable def doA(s:Sto)(m:Cmd):Int:=if doE s m=0 then dnA s m else 0
theorem aC(h:doE s m=0):doS s m=dnS s m:=if_pos h
theorem aw(h:doE s m=0):doC s m=dnC s m:=if_pos h
theorem aq(h:doE s m=0):doA s m=dnA s m:=if_pos h
theorem UF(h:doE s m≠0):doS s m=Fq:=if_neg h
theorem UC(h:doE s m≠0):doC s m=0:=if_neg h
theorem Xx(h:m.e=0):(0<=m.k/\m.k<=3)/\InC m.c m.s m.n m.v:=F5 h
end
end
section
def Xy(Q:Nat->Bool):Nat:=(Q 0).toNat+(Q 1).toNat+(Q 2).toNat+(Q 3).toNat+(Q 4).toNat
end
section
def upN{α:Type}(f:Nat->α)(n:Nat)(x:α):Nat->α:=λi=>if i=n then x else f i
theorem cE{α:Type}(f:Nat->α)(n:Nat)(x:α):upN f n x n=x:=if_pos rfl
theorem cG{α:Type}(f:Nat->α){n i:Nat}(x:α)(h:i≠n):upN f n x i=f i:=if_neg h
end
section
end
section
def Cr:Bal:=⟨0,0⟩
def Sj:Cmd:=⟨0,0,0,0,0⟩
def vtz:Vt:=⟨0,Cr,Sj⟩
def DL:Acc:=⟨Cr,[]⟩
structure Let where
 kind:Nat
 src:Nat
 dst:Nat
 bal:Bal
 vote:Vt
 votes:List Vt
 slot:Nat
 what:List Cmd
def Ca(k:Nat):Let:=⟨k,0,0,Cr,vtz,[],0,[]⟩
inductive Pend where
 | began (b:Bal) (vs:List Vt)
 | prom (to:Nat) (b:Bal) (vs:List Vt)
 | voted (to:Nat) (v:Vt)
 | refuse (to:Nat) (b:Bal)
 | prop (v:Vt)
 | askNews (to:Nat)
 | start
 | tell (to:Nat) (slot:Nat)
structure Rnd where
 bal:Bal
 pro:Nat->Bool
 heard:Nat->Acc
 taught:Nat->Nat
 next:Nat
 queue:List Cmd
def ef:Rnd:=⟨Cr,λ_=>false,λ_=>DL,λ_=>0,0,[]⟩
structure Tol where
 n:Nat
 c:Int
 s:Int
 e:Int
 a:Int
structure Nod where
 up:Bool
 d:List Int
 sy:Int
 bad:Nat
 vo:Acc
 pend:List Pend
 rounds:Int
 rnd:Rnd
 agreed:List Cmd
 done:Nat
 sto:Sto
 wants:List Cmd
 asked:Cmd->Option Bal
structure Meet where
 node:Nat->Nod
 lets:List Let
 told:List Tol
def Nod.bare(N:Nod)(up:Bool)(d:List Int)(sy:Int)(vo:Acc)(p:List Pend):Nod :=
 ⟨up,d,sy,N.bad,vo,p,0,ef,[],0,Fq,[],λ_=>none⟩
def Bg:Nod:=⟨true,[],0,0,DL,[],0,ef,[],0,Fq,[],λ_=>none⟩
def Cb:Meet:=⟨λ_=>Bg,[],[]⟩
def Meet.put(M:Meet)(i:Nat)(N:Nod):Meet:={ M with node:=upN M.node i N }
def Nod.promise(N:Nod)(b:Bal):Nod × List Vt × Int :=
 if BN N.vo b≠0 then(N,[],BN N.vo b)
 else if b=N.vo.p then({ N with vo:=⟨b,N.vo.vs⟩ },N.vo.vs,0)
 else if CN N.d N.sy (Ad b) (BA b)≠0 then(N,[],CN N.d N.sy (Ad b) (BA b))
 else({ N with d:=Gy N.d N.sy (Ad b) (BA b),sy:=Iw N.d N.sy (Ad b) (BA b),vo:=⟨b,N.vo.vs⟩ },N.vo.vs,0)
def Nod.vote(N:Nod)(v:Vt):Nod × Int :=
 if AX N.vo v≠0 then(N,AX N.vo v)
 else if v∈N.vo.vs then({ N with vo:=⟨v.b,Bk N.vo.vs v⟩ },0)
 else if CN N.d N.sy (Am v) (B1 v)≠0 then(N,CN N.d N.sy (Am v) (B1 v))
 else({ N with d:=Gy N.d N.sy (Am v) (B1 v),sy:=Iw N.d N.sy (Am v) (B1 v),vo:=⟨v.b,Bk N.vo.vs v⟩ },0)
def Nod.wait(N:Nod)(p:Pend):Nod:={ N with pend:=N.pend++[p] }
def Nod.refuse(N:Nod)(to:Nat)(e:Int):Nod:=if e=7 then N.wait (.refuse to N.vo.p)else N
def Nod.leads(N:Nod):Bool:=decide (N.rnd.bal≠Cr/\N.rnd.bal=N.vo.p)
def Rnd.enough(r:Rnd):Bool:=decide (5<2*Xy r.pro)
def FQ(a:Acc):List Vt->Acc
 | []=>a
 | v::l=>FQ (if AX a v=0 then⟨BX a v,Dc a v⟩else a) l
def Rnd.hear(r:Rnd)(j:Nat)(vs:List Vt):Rnd:={ r with pro:=upN r.pro j true,heard:=upN r.heard j (FQ ⟨r.bal,vs⟩ (r.heard j).vs) }
def Rnd.accs(r:Rnd):List Acc:=[r.heard 0,r.heard 1,r.heard 2,r.heard 3,r.heard 4]
def Ja:Nat->Rnd->List Cmd->List Cmd
 | 0,_,l=>l
 | k+1,r,l=>if CD r.accs (l.length:Int)=0 then Ja k r (l++[Ct r.accs (l.length:Int)])else l
def Nod.learnC(N:Nod):Nod:={ N with agreed:=Ja 41 N.rnd N.agreed }
def Nod.learn(N:Nod)(slot:Nat)(what:List Cmd):Nod:={ N with agreed:=N.agreed++what.drop (N.agreed.length-slot) }
def Nod.count(N:Nod)(j:Nat)(v:Vt):Nod :=
 if v.b≠N.rnd.bal then N
 else if AX (N.rnd.heard j) v≠0 then N
 else Nod.learnC { N with rnd:={ N.rnd with heard:=upN N.rnd.heard j ⟨BX (N.rnd.heard j) v,Dc (N.rnd.heard j) v⟩ } }
def NE(q:List Cmd):List Cmd->List Cmd
 | []=>q
 | c::l=>NE (if q.length<40/\c∉q then q++[c]else q) l
def Nod.enqueue(N:Nod)(what:List Cmd):Nod:=if N.leads then{ N with rnd:={ N.rnd with queue:=NE N.rnd.queue what } }else N
def DU(f:Cmd->Option Bal)(c:Cmd)(b:Option Bal):Cmd->Option Bal:=λx=>if x=c then b else f x
def Nod.want(N:Nod)(c:Cmd):Nod:=if(N.asked c).isSome then N else{ N with wants:=N.wants++[c],asked:=DU N.asked c (some Cr) }
def Nod.unwant(N:Nod)(c:Cmd):Nod:=if(N.asked c).isSome then{ N with wants:=N.wants.erase c,asked:=DU N.asked c none }else N
def CS(b:Bal)(f:Cmd->Option Bal):List Cmd->List Cmd × (Cmd->Option Bal)
 | []=>([],f)
 | c::l=>if(f c).getD Cr≠b then(c::(CS b (DU f c (some b)) l).1,(CS b (DU f c (some b)) l).2)else CS b f l
def Nod.take(N:Nod)(l:Let):Nod :=
 match l.kind with
 | 0=>if(N.promise l.bal).2.2≠0 then N.refuse l.src (N.promise l.bal).2.2 else(N.promise l.bal).1.wait (.prom l.src l.bal (N.promise l.bal).2.1)
 | 1=>let K:=N.learn 0 l.what
  if K.leads=false\/l.bal≠K.rnd.bal\/K.rnd.pro l.src=true then K
  else Nod.learnC { K with rnd:={ K.rnd.hear l.src l.votes with taught:=upN K.rnd.taught l.src l.what.length } }
 | 2=>{ N with rounds:=max N.rounds l.bal.r }
 | 3=>if(N.vote l.vote).2≠0 then N.refuse l.src (N.vote l.vote).2 else(N.vote l.vote).1.wait (.voted l.src l.vote)
 | 4=>N.count l.src l.vote
 | 5=>if N.agreed.length<l.slot then N.wait (.askNews l.src)else N.learn l.slot l.what
 | 6=>let K:=N.enqueue l.what
  if l.slot<K.agreed.length then K.wait (.tell l.src l.slot)else K
 | _=>N
def Meet.come(M:Meet)(l:Let):Meet:=if(M.node l.dst).up then M.put l.dst ((M.node l.dst).take l)else M
def Nod.nextC(N:Nod)(slot:Nat):Option Cmd :=
 if Co (N.rnd.accs.map (·.vs)) (slot:Int)≠0 then none
 else if FT (N.rnd.accs.map (·.vs)) (slot:Int)then some (GU (N.rnd.accs.map (·.vs)) (slot:Int))
 else N.rnd.queue.find? λc=>decide (c∉N.agreed)
def Nod.propose(N:Nod):Nod :=
 if N.leads=false\/N.rnd.enough=false\/N.agreed.length<N.rnd.next then N
 else match N.nextC N.agreed.length with
  | none=>N
  | some c =>
   if(N.vote ⟨(N.agreed.length:Int),N.rnd.bal,c⟩).2≠0 then N
   else Nod.wait { (N.vote ⟨(N.agreed.length:Int),N.rnd.bal,c⟩).1 with rnd:={ N.rnd with next:=N.agreed.length+1 } } (.prop ⟨(N.agreed.length:Int),N.rnd.bal,c⟩)
def Nod.lead(N:Nod)(i:Nat):Nod :=
 let b:Bal:=⟨max N.rounds N.vo.p.r+1,(i:Int)⟩
 if(N.promise b).2.2≠0 then N
 else Nod.wait { (N.promise b).1 with rnd:=⟨b,λ_=>false,λ_=>DL,λ_=>N.agreed.length,0,[]⟩ } (.began b (N.promise b).2.1)
def Nod.crash(N:Nod)(k:Int):Nod:=if KS N.d N.sy k≠0 then N else N.bare false (Nv N.d N.sy k) (Nx N.d N.sy k) DL []
def Nod.start(N:Nod):Nod :=
 if CY N.d N.sy≠0 then N
 else if O9 N.d N.sy<(N.d.length:Int)then N.bare true (OC N.d N.sy) (QD N.d N.sy) (Gq N.d N.sy) [.start]
 else N.bare true N.d N.sy (Gq N.d N.sy) [.start]
def Meet.move(M:Meet)(k:Int)(at_:Nat):Meet :=
 match M.lets[at_%M.lets.length]? with
 | none=>M
 | some l =>
  let A:=if k≠6 then{ M with lets:=M.lets.eraseIdx (at_%M.lets.length) }else M
  if k≠5 then A.come l else A
def Meet.comeAll(M:Meet):Meet:=M.lets.foldl (λM l=>M.come l) { M with lets:=[] }
end
section
open Go.RowKit
section
def stA(s:Sto):Array Value:=#[.int .i64 (s.V 0),.int .i64 (s.V 1),.int .i64 (s.V 2),.int .i64 (s.V 3),.int .i64 (s.V 4),.int .i64 (s.V 5),.int .i64 (s.V 6),.int .i64 (s.V 7),.int .i64 (s.L 0),.int .i64 (s.L 1),.int .i64 (s.L 2),.int .i64 (s.L 3),.int .i64 (s.L 4),.int .i64 (s.L 5),.int .i64 (s.L 6),.int .i64 (s.L 7),.int .i64 (s.C 0),.int .i64 (s.A 0),.int .i64 (s.C 1),.int .i64 (s.A 1),.int .i64 (s.C 2),.int .i64 (s.A 2),.int .i64 (s.C 3),.int .i64 (s.A 3),.int .i64 (s.C 4),.int .i64 (s.A 4),.int .i64 (s.C 5),.int .i64 (s.A 5),.int .i64 (s.C 6),.int .i64 (s.A 6),.int .i64 (s.C 7),.int .i64 (s.A 7),.bool (s.R 0),.bool (s.R 1),.bool (s.R 2),.bool (s.R 3),.bool (s.R 4),.bool (s.R 5),.bool (s.R 6),.bool (s.R 7)]
theorem en(s:Sto)(i:Nat)(h:i<8):(stA s)[i]?=some (.int .i64 (s.V i)):=by
 rcases(by omega:i=0\/i=1\/i=2\/i=3\/i=4\/i=5\/i=6\/i=7)with rfl|rfl|rfl|rfl|rfl|rfl|rfl|rfl<;>rfl
theorem el(s:Sto)(i:Nat)(h:i<8):(stA s)[8+i]?=some (.int .i64 (s.L i)):=by
 rcases(by omega:i=0\/i=1\/i=2\/i=3\/i=4\/i=5\/i=6\/i=7)with rfl|rfl|rfl|rfl|rfl|rfl|rfl|rfl<;>rfl
theorem ej(s:Sto)(i:Nat)(h:i<8):(stA s)[16+i*2]?=some (.int .i64 (s.C i)):=by
 rcases(by omega:i=0\/i=1\/i=2\/i=3\/i=4\/i=5\/i=6\/i=7)with rfl|rfl|rfl|rfl|rfl|rfl|rfl|rfl<;>rfl
theorem ei(s:Sto)(i:Nat)(h:i<8):(stA s)[16+i*2+1]?=some (.int .i64 (s.A i)):=by
 rcases(by omega:i=0\/i=1\/i=2\/i=3\/i=4\/i=5\/i=6\/i=7)with rfl|rfl|rfl|rfl|rfl|rfl|rfl|rfl<;>rfl
def Bs(w:World)(g:Nat)(s:Sto):Prop:=w.heap[g]?=some (.cells (stA s) 87)
variable{g:Nat}{s:Sto}{w:World}
theorem Bs.cellV(h:Bs w g s)(i:Nat)(hi:i<8):w.cell? ⟨g,i,none⟩=some (.int .i64 (s.V i)):=(cell_of_row _ _ i _ _ _ h).trans (en s i hi)
theorem Bs.cellL(h:Bs w g s)(i:Nat)(hi:i<8):w.cell? ⟨g,8+i,none⟩=some (.int .i64 (s.L i)):=(cell_of_row _ _ (8+i) _ _ _ h).trans (el s i hi)
theorem Bs.cellC(h:Bs w g s)(i:Nat)(hi:i<8):w.cell? ⟨g,16+i*2,none⟩=some (.int .i64 (s.C i)):=(cell_of_row _ _ (16+i*2) _ _ _ h).trans (ej s i hi)
theorem Bs.cellA(h:Bs w g s)(i:Nat)(hi:i<8):w.cell? ⟨g,16+i*2+1,none⟩=some (.int .i64 (s.A i)):=(cell_of_row _ _ (16+i*2+1) _ _ _ h).trans (ei s i hi)
theorem aZ(a b a' b':Int):∀ w,(binOp .neq 83 (.agg #[.int .i64 a,.int .i64 b]) (.agg #[.int .i64 a',.int .i64 b'])).run prog w=.ok (.bool (!decide (a=a'/\b=b'))) w:=by
 intro w;rw[run_neq_struct,run_equalIn_agg w 9999 _ _ _ (by kernel_rfl) (by kernel_rfl)];unfold Program.fieldsOf;rw[underlying83];have h3:=underlying3;have hE:=underlying43;simp[Op.eqFields,go_sem,h3,hE]
 repeat' split
 all_goals simp_all
theorem Yk(a b:Int):∀ w,(binOp .neq 83 (.agg #[.int .i64 a,.int .i64 b]) (.agg #[.int .i64 0,.int .i64 0])).run prog w=.ok (.bool (!decide (a=0/\b=0))) w:=aZ a b 0 0
def vaL(f:Nat->Int):List Value:=[.int .i64 (f 0),.int .i64 (f 1),.int .i64 (f 2),.int .i64 (f 3),.int .i64 (f 4),.int .i64 (f 5),.int .i64 (f 6),.int .i64 (f 7)]
def vaA(f:Nat->Int):Array Value:=(vaL f).toArray
theorem WX(f:Nat->Int)(j:Nat)(u:Value)(h:(vaL f)[j]?=some u):j<8/\u=.int .i64 (f j):=by
 have hj:j<8:=(P'.1 h).1;refine⟨hj,?_⟩;rcases(by omega:j=0\/j=1\/j=2\/j=3\/j=4\/j=5\/j=6\/j=7)with rfl|rfl|rfl|rfl|rfl|rfl|rfl|rfl<;>(simp[vaL]at h;exact h.symm)
theorem Bs.rangeV(h:Bs w g s):w.rangeAt g 0 (vaL s.V):=by
 intro j u hj;obtain⟨h1,rfl⟩:=WX _ _ _ hj;rw[fV];exact h.cellV j h1
theorem Bs.rangeL(h:Bs w g s):w.rangeAt g 8 (vaL s.L):=by
 intro j u hj;obtain⟨h1,rfl⟩:=WX _ _ _ hj;exact h.cellL j h1
theorem cJ(f:Nat->Int):(prog.info? 81).map (·.size)=some (vaL f).length:=by show _=some 8;kernel_rfl
theorem Fy{ops:Array Oper}{rest:List Oper}{op:Oper}{a:Act}{Q:Exit->Act->World->Prop}(hgd:op.guard=none)(x:Operand)(ho:op.op=.load 81 x)(b o:Nat)(hx:a.eval x=.pointer (some ⟨b,o,none⟩))(f:Nat->Int)(hc:w.rangeAt b o (vaL f))(h:wpList prog ops Q rest (a.put op.dst (.agg (vaA f))) w):wpList prog ops Q (op::rest) a w :=
 wpList_load_mid hgd 81 x ho b o hx (vaL f) _ hc underlying81 rfl (cJ f) h
theorem RQ(f:Nat->Int)(i:Nat)(hi:i<8)(w:World):(Instr.index 81 (.agg (vaA f)) (.int .i64 (i:Int))).run prog w=.ok (.int .i64 (f i)) w:=by
 rcases(by omega:i=0\/i=1\/i=2\/i=3\/i=4\/i=5\/i=6\/i=7)with rfl|rfl|rfl|rfl|rfl|rfl|rfl|rfl<;>kernel_rfl
structure NX where
 tape:S3
 votes:S3
 synced:S3
 queue:S3
 agreed:S3
 wants:S3
 hv:Nat->S3
 asked:Option Nat
def Ax(i ob:Nat)(p:Nod)(x:NX):Array Value:=([iv (i:Int),.bool p.up,S3.v x.tape,iv p.sy,iv (p.bad:Int),pt ob 0,iv p.vo.p.r,iv p.vo.p.n,S3.v x.votes,S3.v x.synced,iv p.rounds,iv p.rnd.bal.r,iv p.rnd.bal.n,.bool (p.rnd.pro 0),.bool (p.rnd.pro 1),.bool (p.rnd.pro 2),.bool (p.rnd.pro 3),.bool (p.rnd.pro 4),iv ((p.rnd.heard 0).p.r),iv ((p.rnd.heard 0).p.n),S3.v (x.hv 0),iv ((p.rnd.heard 1).p.r),iv ((p.rnd.heard 1).p.n),S3.v (x.hv 1),iv ((p.rnd.heard 2).p.r),iv ((p.rnd.heard 2).p.n),S3.v (x.hv 2),iv ((p.rnd.heard 3).p.r),iv ((p.rnd.heard 3).p.n),S3.v (x.hv 3),iv ((p.rnd.heard 4).p.r),iv ((p.rnd.heard 4).p.n),S3.v (x.hv 4),iv (p.rnd.taught 0:Int),iv (p.rnd.taught 1:Int),iv (p.rnd.taught 2:Int),iv (p.rnd.taught 3:Int),iv (p.rnd.taught 4:Int),iv (p.rnd.next:Int),S3.v x.queue,S3.v x.agreed,iv (p.done:Int)]++((stA p.sto).toList++[S3.v x.wants,.map x.asked])).toArray
def Ev(l:Let)(vs wh:S3):Array Value:=#[iv (l.kind:Int),iv (l.src:Int),iv (l.dst:Int),iv l.bal.r,iv l.bal.n,iv l.vote.slot,iv l.vote.b.r,iv l.vote.b.n,iv l.vote.w.k,iv l.vote.w.c,iv l.vote.w.s,iv l.vote.w.n,iv l.vote.w.v,S3.v vs,iv (l.slot:Int),S3.v wh]
def EE(t:Tol):List Value:=[iv (t.n:Int),iv t.c,iv t.s,iv t.e,iv t.a]
def cmV(c:Cmd):List Value:=[iv c.k,iv c.c,iv c.s,iv c.n,iv c.v]
def cmL(l:List Cmd):List Value:=l.flatMap cmV
theorem BK(l m:List Cmd):cmL (l++m)=cmL l++cmL m:=by simp[cmL]
theorem Bi(l:List Cmd):(cmL l).length=l.length*5:=by
 induction l with
 | nil=>rfl
 | cons c l ih=>rw[cmL,hY,N'];show 5+(cmL l).length=_;rw[ih,fR];omega
theorem Mn(l:List Cmd):∀ u∈cmL l,u.oneCell'=true:=by
 intro u hu;obtain⟨c,_,hc⟩:=ja.1 hu;simp only[cmV,fD,H',or_false]at hc;rcases hc with rfl|rfl|rfl|rfl|rfl<;>rfl
theorem Mm{l:List Cmd}{k:Nat}{c:Cmd}(h:l[k]?=some c){j:Nat}{u:Value}(hj:(cmV c)[j]?=some u):(cmL l)[5*k+j]?=some u:=by
 induction l generalizing k with
 | nil=>cases h
 | cons d l ih =>
  rw[cmL,hY];cases k with
  | zero =>
   simp only[gp,U']at h;subst h;rw[fC (by have:=(P'.1 hj).1;omega)];simpa using hj
  | succ k =>
   rw[fI (by show 5<=_;omega),show 5*(k+1)+j-(cmV d).length=5*k+j by show 5*(k+1)+j-5=_;omega];exact ih (by simpa using h)
theorem JE(l:List Cmd)(k:Nat):(cmL l).drop (5*k)=cmL (l.drop k):=by
 induction l generalizing k with
 | nil=>simp[cmL]
 | cons c l ih =>
  cases k with
  | zero=>simp
  | succ k =>
   show(cmV c++cmL l).drop (5*(k+1))=cmL (l.drop k);rw[<- ih k,List.drop_append,show(cmV c).drop (5*(k+1))=[]from ga (by show 5<=_;omega),it,show 5*(k+1)-(cmV c).length=5*k by show 5*(k+1)-5=_;omega]
def Frz(g:Gh)(x:S3):Prop:=∀ a,x.a=some a->g.t a.block=.z
structure FSl(g:Gh)(w:World)(x:S3)(l:List Int):Prop where
 s:Sl w x.v l
 z:l≠[]->Frz g x
structure FSv(g:Gh)(w:World)(x:S3)(l:List Vt):Prop where
 s:Sv w x.v l
 z:l≠[]->Frz g x
end
section
variable{B:Nat}{T:List Tg}{g g':Gh}{w w':World}
section
variable{b i nb ob r:Nat}{bs:List Nat}{f:Cmd->Option Bal}{l:List Let}{x:S3}
theorem Cg.zc(c:Cg B T g w g' w')(hz:Tg.z∉T)(hb:b<w.heap.size)(ht:g.t b=.z):w'.heap[b]?=w.heap[b]?:=c.same b hb (by rw[ht];exact hz) (λh=>by rw[ht]at h;cases h)
theorem FSl.ch{l:List Int}(h:FSl g w x l)(c:Cg B T g w g' w')(hz:Tg.z∉T:=by simp):FSl g' w' x l:=by
 obtain⟨⟨⟨a,cap,hv,hc,hn,h1⟩,h2,h3⟩,h4⟩:=h;simp only[Value.slice.injEq]at hv;obtain⟨rfl,hxn,rfl⟩:=hv;rcases h1 with h1|⟨b,off,ha,hbs,hcell⟩
 .exact⟨⟨⟨_,_,by simp only[Value.slice.injEq,and_true,true_and];exact hxn,hc,hn,.inl h1⟩,h2,h3⟩,λh=>absurd h1 h⟩
 .have hne:∀ _:l≠[],g.t b=.z:=λh=>h4 h _ ha;by_cases hl:l=[]
  .exact⟨⟨⟨_,_,by simp only[Value.slice.injEq,and_true,true_and];exact hxn,hc,hn,.inl hl⟩,h2,h3⟩,λh=>absurd hl h⟩
  .refine⟨⟨⟨_,_,by simp only[Value.slice.injEq,and_true,true_and];exact hxn,hc,hn,.inr ⟨b,off,ha,Z' hbs c.size,λi hi=>?_⟩⟩,h2,h3⟩,λ_ a' ha'=>?_⟩
   .rw[World.cell?_of_block (w:=w) (c.zc hz hbs (hne hl))];exact hcell i hi
   .rw[ha]at ha';simp only[U']at ha';subst ha';rw[c.tag hbs (λh=>absurd ((hne hl).symm.trans h) (by simp))];exact hne hl
theorem FSv.ch{l:List Vt}(h:FSv g w x l)(c:Cg B T g w g' w')(hz:Tg.z∉T:=by simp):FSv g' w' x l:=by
 obtain⟨⟨⟨a,cap,hv,hc,hn,h1⟩,h2⟩,h4⟩:=h;simp only[Value.slice.injEq]at hv;obtain⟨rfl,hxn,rfl⟩:=hv;rcases h1 with h1|⟨b,off,ha,hbs,hcell⟩
 .exact⟨⟨⟨_,_,by simp only[Value.slice.injEq,and_true,true_and];exact hxn,hc,hn,.inl h1⟩,h2⟩,λh=>absurd h1 h⟩
 .by_cases hl:l=[]
  .exact⟨⟨⟨_,_,by simp only[Value.slice.injEq,and_true,true_and];exact hxn,hc,hn,.inl hl⟩,h2⟩,λh=>absurd hl h⟩
  .have hzb:g.t b=.z:=h4 hl _ ha;refine⟨⟨⟨_,_,by simp only[Value.slice.injEq,and_true,true_and];exact hxn,hc,hn,.inr ⟨b,off,ha,Z' hbs c.size,λi v hi j u hj=>?_⟩⟩,h2⟩,λ_ a' ha'=>?_⟩
   .rw[World.cell?_of_block (w:=w) (c.zc hz hbs hzb)];exact hcell i v hi j u hj
   .rw[ha]at ha';simp only[U']at ha';subst ha';rw[c.tag hbs (λh=>absurd (hzb.symm.trans h) (by simp))];exact hzb
structure Rc(g:Gh)(w:World)(x:S3)(l:List Cmd):Prop where
 len:x.n=l.length
 cap:x.n<=x.c
 nul:x.a=none->x.c=0
 ex:l=[]\/∃ b off,x.a=some ⟨b,off,none⟩/\b<w.heap.size/\(∀ j u,(cmL l)[j]?=some u->w.cell? ⟨b,off+j,none⟩=some u)/\(g.t b=.z\/off+5*l.length<=g.k b)
theorem Rc.nil(g:Gh)(w:World):Rc g w s30 []:=⟨rfl,A' _,λ_=>rfl,.inl rfl⟩
theorem Rc.ch{l:List Cmd}(h:Rc g w x l)(c:Cg B T g w g' w')(hz:Tg.z∉T:=by simp):Rc g' w' x l:=by
 refine⟨h.len,h.cap,h.nul,?_⟩;rcases h.ex with h1|⟨b,off,h1,h2,h3,h4⟩
 .exact .inl h1
 .refine .inr ⟨b,off,h1,Z' h2 c.size,λj u hj=>?_,?_⟩
  .rcases h4 with h4|h4
   .rw[World.cell?_of_block (w:=w) (c.zc hz h2 h4)];exact h3 j u hj
   .have hjl:j<(cmL l).length:=(P'.1 hj).1;rw[Bi]at hjl
    rw[c.pref b h2 (off+j) (by omega)];exact h3 j u hj
  .rcases h4 with h4|h4
   .exact .inl ((c.tag h2 (by rw[h4];intro h;cases h)).trans h4)
   .exact .inr (fy h4 (c.kap b h2))
structure Box(g:Gh)(w:World)(b:Nat)(cs:Array Value)(t:TypeId):Prop where
 r:w.heap[b]?=some (.cells cs t)
 z:g.t b=.z
theorem Box.ch{cs:Array Value}{t:TypeId}(h:Box g w b cs t)(c:Cg B T g w g' w')(hz:Tg.z∉T:=by simp):Box g' w' b cs t:=⟨(c.zc hz (rl h.r) h.z).trans h.r,(c.tag (rl h.r) (by rw[h.z];intro h;cases h)).trans h.z⟩
def BW(g:Gh)(w:World)(b:Nat)(l:Let):Prop:=∃ vs wh,Box g w b (Ev l vs wh) 140/\FSv g w vs l.votes/\Rc g w wh l.what
theorem BW.ch{l:Let}(h:BW g w b l)(c:Cg B T g w g' w')(hz:Tg.z∉T:=by simp):BW g' w' b l:=let ⟨vs,wh,h1,h2,h3⟩:=h;⟨vs,wh,h1.ch c hz,h2.ch c hz,h3.ch c hz⟩
def J0(g:Gh)(w:World)(nb:Nat)(v:Value):Pend->Prop
 | .began b vs=>∃ b1 b2 b3 x,v=.func (.func 55) #[] #[pt b1 0,pt b2 0,pt b3 0]/\Box g w b1 #[pt nb 0] 68/\Box g w b2 #[iv b.r,iv b.n] 73/\Box g w b3 #[S3.v x] 74/\FSv g w x vs
 | .prom to b vs=>∃ b1 b2 b3 x lb l,v=.func (.func 80) #[] #[pt b1 0,pt b2 0,pt b3 0]/\Box g w b1 #[pt nb 0] 68/\Box g w b2 #[pt lb 0] 141/\Box g w b3 #[S3.v x] 74/\FSv g w x vs/\BW g w lb l/\l.src=to/\l.bal=b
 | .voted to u=>∃ b1 b2 lb l,v=.func (.func 86) #[] #[pt b1 0,pt b2 0]/\Box g w b1 #[pt nb 0] 68/\Box g w b2 #[pt lb 0] 141/\BW g w lb l/\l.src=to/\l.vote=u
 | .refuse to b=>∃ b1 b2 b3,v=.func (.func 119) #[] #[pt b1 0,pt b2 0,pt b3 0]/\Box g w b1 #[pt nb 0] 68/\Box g w b2 #[iv (to:Int)] 3/\Box g w b3 #[iv b.r,iv b.n] 73
 | .prop u=>∃ b1 b2,v=.func (.func 103) #[] #[pt b1 0,pt b2 0]/\Box g w b1 #[pt nb 0] 68/\Box g w b2 (vtA u) 138
 | .askNews to=>∃ b1 b2 lb l,v=.func (.func 88) #[] #[pt b1 0,pt b2 0]/\Box g w b1 #[pt nb 0] 68/\Box g w b2 #[pt lb 0] 141/\BW g w lb l/\l.src=to
 | .start=>∃ b1,v=.func (.func 68) #[] #[pt b1 0]/\Box g w b1 #[pt nb 0] 68
 | .tell to slot=>∃ b1 b2 lb l,v=.func (.func 90) #[] #[pt b1 0,pt b2 0]/\Box g w b1 #[pt nb 0] 68/\Box g w b2 #[pt lb 0] 141/\BW g w lb l/\l.src=to/\l.slot=slot
theorem J0.ch{v:Value}{q:Pend}(h:J0 g w nb v q)(c:Cg B T g w g' w')(hz:Tg.z∉T:=by simp):J0 g' w' nb v q:=by
 cases q with
 | began b vs=>obtain⟨b1,b2,b3,x,e,h1,h2,h3,h4⟩:=h;exact⟨b1,b2,b3,x,e,h1.ch c hz,h2.ch c hz,h3.ch c hz,h4.ch c hz⟩
 | prom to b vs=>obtain⟨b1,b2,b3,x,lb,l,e,h1,h2,h3,h4,h5,h6⟩:=h;exact⟨b1,b2,b3,x,lb,l,e,h1.ch c hz,h2.ch c hz,h3.ch c hz,h4.ch c hz,h5.ch c hz,h6⟩
 | voted to u=>obtain⟨b1,b2,lb,l,e,h1,h2,h3,h4⟩:=h;exact⟨b1,b2,lb,l,e,h1.ch c hz,h2.ch c hz,h3.ch c hz,h4⟩
 | refuse to b=>obtain⟨b1,b2,b3,e,h1,h2,h3⟩:=h;exact⟨b1,b2,b3,e,h1.ch c hz,h2.ch c hz,h3.ch c hz⟩
 | prop u=>obtain⟨b1,b2,e,h1,h2⟩:=h;exact⟨b1,b2,e,h1.ch c hz,h2.ch c hz⟩
 | askNews to=>obtain⟨b1,b2,lb,l,e,h1,h2,h3,h4⟩:=h;exact⟨b1,b2,lb,l,e,h1.ch c hz,h2.ch c hz,h3.ch c hz,h4⟩
 | start=>obtain⟨b1,e,h1⟩:=h;exact⟨b1,e,h1.ch c hz⟩
 | tell to slot=>obtain⟨b1,b2,lb,l,e,h1,h2,h3,h4⟩:=h;exact⟨b1,b2,lb,l,e,h1.ch c hz,h2.ch c hz,h3.ch c hz,h4⟩
def mkA(x:Cmd × Bal × Nat):MapEntry:={ key:=.agg (cmV x.1).toArray,val:=.agg #[iv x.2.1.r,iv x.2.1.n],born:=x.2.2 }
structure AskAt(g:Gh)(w:World)(τ:Tg)(b:Nat)(f:Cmd->Option Bal):Prop where
 t:g.t b=τ
 k:g.k b=0
 ex:∃ (es:List (Cmd × Bal × Nat)) (clock:Nat),w.heap[b]?=some (.map (es.map mkA).toArray clock)/\(∀ x∈es,x.2.2<clock)/\(es.map (·.2.2)).Nodup/\(es.map (·.1)).Nodup/\∀ c,f c=(es.find? λx=>decide (c=x.1)).map (·.2.1)
def TV(g:Gh)(w:World)(i:Nat)(f:Cmd->Option Bal):Option Nat->Prop
 | some b=>AskAt g w (.n 5 i) b f
 | none=>f=λ_=>none
structure Pends(g:Gh)(w:World)(nb:Nat)(vs:List Value)(l:List Pend):Prop where
 len:vs.length=l.length
 at_:∀ (k:Nat) (v:Value) (q:Pend),vs[k]?=some v->l[k]?=some q->J0 g w nb v q
structure NodeAt(g:Gh)(w:World)(i nb ob:Nat)(x:NX)(p:Nod):Prop where
 row:w.heap[nb]?=some (.cells (Ax i ob p x) 95)
 tag:g.t nb=.n 0 i
 kap:g.k nb=0
 tape:FSl g w x.tape p.d
 votes:FSv g w x.votes p.vo.vs
 heard:∀ j,j<5->FSv g w (x.hv j) (p.rnd.heard j).vs
 pend:∃ vs,OwnS g w (.n 1 i) true 1 1 x.synced vs/\Pends g w nb vs p.pend
 queue:OwnS g w (.n 2 i) false 53 5 x.queue (cmL p.rnd.queue)
 agreed:OwnS g w (.n 3 i) true 53 5 x.agreed (cmL p.agreed)
 wants:OwnS g w (.n 4 i) false 53 5 x.wants (cmL p.wants)
 asked:TV g w i p.asked x.asked
 upm:p.up=true->∃ b,x.asked=some b
structure Lets(g:Gh)(w:World)(bs:List Nat)(l:List Let):Prop where
 len:bs.length=l.length
 at_:∀ (k b:Nat) (m:Let),bs[k]?=some b->l[k]?=some m->BW g w b m
structure OutAt(g:Gh)(w:World)(ob:Nat)(lt tl:S3)(ls:List Let)(ts:List Tol):Prop where
 row:w.heap[ob]?=some (.cells #[lt.v,tl.v] 65)
 tag:g.t ob=.n 50 0
 kap:g.k ob=0
 lets:∃ bs,OwnS g w (.n 51 0) false 141 1 lt (bs.map (pt · 0))/\Lets g w bs ls
 told:OwnS g w (.n 52 0) false 101 5 tl (ts.flatMap EE)
theorem Pends.ch{vs:List Value}{l:List Pend}(h:Pends g w nb vs l)(c:Cg B T g w g' w')(hz:Tg.z∉T:=by simp):Pends g' w' nb vs l:=⟨h.len,λk v q h1 h2=>(h.at_ k v q h1 h2).ch c hz⟩
theorem Lets.ch(h:Lets g w bs l)(c:Cg B T g w g' w')(hz:Tg.z∉T:=by simp):Lets g' w' bs l:=⟨h.len,λk v q h1 h2=>(h.at_ k v q h1 h2).ch c hz⟩
theorem Lets.snoc{m:Let}(h:Lets g w bs l)(hm:BW g w b m):Lets g w (bs++[b]) (l++[m]):=by
 refine⟨by simp[h.len],λk c q h1 h2=>?_⟩;by_cases hk:k<bs.length
 .rw[fC hk]at h1
  rw[fC (by rw[<- h.len];exact hk)]at h2
  exact h.at_ k c q h1 h2
 .rw[fI (by omega)]at h1
  rw[fI (by rw[<- h.len];omega),<- h.len]at h2
  cases hx:k-bs.length with
  | zero=>rw[hx]at h1 h2;simp at h1 h2;subst h1 h2;exact hm
  | succ n=>rw[hx]at h1;simp at h1
theorem Cg.rc(c:Cg B T g w g' w'){o:Obj}(h:w.heap[b]?=some o)(ht:g.t b=.n r i)(hn:Tg.n r i∉T):w'.heap[b]?=some o/\g'.t b=.n r i/\g'.k b=g.k b :=
 ⟨(c.same b (rl h) (by rw[ht];exact hn) (λh=>by rw[ht]at h;cases h)).trans h,(c.tag (rl h) (by rw[ht];intro h;cases h)).trans ht,c.kat b (rl h) (by rw[ht];exact hn) (by rw[ht];intro h;cases h)⟩
theorem AskAt.ch(h:AskAt g w (.n r i) b f)(c:Cg B T g w g' w')(hn:Tg.n r i∉T:=by simp):AskAt g' w' (.n r i) b f:=by
 obtain⟨h1,h2,es,k,h3,h4⟩:=h;have h5:=c.rc h3 h1 hn;exact⟨h5.2.1,h5.2.2.trans h2,es,k,h5.1,h4⟩
theorem TV.ch{a:Option Nat}(h:TV g w i f a)(c:Cg B T g w g' w')(hn:Tg.n 5 i∉T:=by simp):TV g' w' i f a:=by
 cases a with
 | none=>exact h
 | some b=>exact AskAt.ch h c hn
theorem NodeAt.ch{x:NX}{p:Nod}(h:NodeAt g w i nb ob x p)(c:Cg B T g w g' w')(hz:Tg.z∉T:=by simp)(hn:∀ r,r<6->Tg.n r i∉T:=by simp):NodeAt g' w' i nb ob x p:=by
 have h1:=c.rc h.row h.tag (hn 0 (by omega));obtain⟨vs,h2,h3⟩:=h.pend;exact⟨h1.1,h1.2.1,h1.2.2.trans h.kap,h.tape.ch c hz,h.votes.ch c hz,λj hj=>(h.heard j hj).ch c hz,⟨vs,h2.ch c (hn 1 (by omega)) (by simp),h3.ch c hz⟩,h.queue.ch c (hn 2 (by omega)) (by simp),h.agreed.ch c (hn 3 (by omega)) (by simp),h.wants.ch c (hn 4 (by omega)) (by simp),h.asked.ch c (hn 5 (by omega)),h.upm⟩
theorem OutAt.ch{lt tl:S3}{ls:List Let}{ts:List Tol}(h:OutAt g w ob lt tl ls ts)(c:Cg B T g w g' w')(hz:Tg.z∉T:=by simp)(hn:∀ r,50<=r->Tg.n r 0∉T:=by simp):OutAt g' w' ob lt tl ls ts:=by
 have h1:=c.rc h.row h.tag (hn 50 (by omega));obtain⟨bs,h2,h3⟩:=h.lets;exact⟨h1.1,h1.2.1,h1.2.2.trans h.kap,⟨bs,h2.ch c (hn 51 (by omega)) (by simp),h3.ch c hz⟩,h.told.ch c (hn 52 (by omega)) (by simp)⟩
end
end
section
def TN(i:Nat):List Tg:=[.n 0 i,.n 1 i,.n 2 i,.n 3 i,.n 4 i,.n 5 i,.n 50 0,.n 51 0,.n 52 0,.n 60 0]
theorem AW(i:Nat):Tg.z∉TN i:=by simp[TN]
def NS(i nb ob:Nat)(g:Gh)(w:World)(p:Nod)(ls:List Let)(ts:List Tol):Prop:=∃ x lt tl,NodeAt g w i nb ob x p/\OutAt g w ob lt tl ls ts/\Hs g w
variable{B i nb ob:Nat}{T:List Tg}{e:TypeId}{g g':Gh}{l:List Pend}{ls:List Let}{p:Nod}{ts:List Tol}{w w':World}{x:S3}{τ:Tg}
theorem nsC{B':Nat}{x:NX}{lt tl:S3}{L:List Sh}(hN:NodeAt g w i nb ob x p)(hO:OutAt g w ob lt tl ls ts)(C:Cg B T g w g' w')(K:Kn B' g' w' L)(hz:Tg.z∉T:=by simp)(hn:∀ r,r<6->Tg.n r i∉T:=by simp)(ho:∀ r,50<=r->Tg.n r 0∉T:=by simp):NS i nb ob g' w' p ls ts:=⟨x,lt,tl,hN.ch C hz hn,hO.ch C hz ho,K.new⟩
def NP(i nb ob:Nat)(g:Gh)(w:World)(v:Value)(p:Nod)(ls:List Let)(ts:List Tol):Ending->World->Prop:=λe w'=>∃ g',e=.returned v/\NS i nb ob g' w' p ls ts/\Cg w.heap.size (TN i) g w g' w'
theorem NS.new(h:NS i nb ob g w p ls ts):Hs g w:=let ⟨_,_,_,_,_,h⟩:=h;h
theorem NS.below(h:NS i nb ob g w p ls ts)(b:Bw w w'):NS i nb ob g w' p ls ts :=
 let ⟨x,lt,tl,h1,h2,h3⟩:=h
 have c:=Cg.ofBelow (B:=0) (T:=[]) (g:=g) b
 ⟨x,lt,tl,h1.ch c,h2.ch c,λk hk=>h3 k (fy b.size hk)⟩
theorem NS.ch0(h:NS i nb ob g w p ls ts)(c:Cg B [] g w g' w')(hn:Hs g' w'):NS i nb ob g' w' p ls ts :=
 let ⟨x,lt,tl,h1,h2,_⟩:=h
 ⟨x,lt,tl,h1.ch c,h2.ch c,hn⟩
theorem NodeAt.askSome{b:Nat}{x:NX}(h:NodeAt g w i nb ob x p)(hx:x.asked=some b):AskAt g w (.n 5 i) b p.asked:=by have:=h.asked;rw[hx]at this;exact this
theorem B0(h:∃ vs,OwnS g w (.n 1 i) true 1 1 x vs/\Pends g w nb vs l)(c:Cg B T g w g' w')(hz:Tg.z∉T:=by simp)(hn:Tg.n 1 i∉T:=by simp):∃ vs,OwnS g' w' (.n 1 i) true 1 1 x vs/\Pends g' w' nb vs l :=
 let ⟨vs,h1,h2⟩:=h
 ⟨vs,h1.ch c hn (by simp),h2.ch c hz⟩
theorem Dd{l:List Let}(h:∃ bs:List Nat,OwnS g w (.n 51 0) false 141 1 x (bs.map (pt · 0))/\Lets g w bs l)(c:Cg B T g w g' w')(hz:Tg.z∉T:=by simp)(hn:Tg.n 51 0∉T:=by simp):∃ bs:List Nat,OwnS g' w' (.n 51 0) false 141 1 x (bs.map (pt · 0))/\Lets g' w' bs l :=
 let ⟨bs,h1,h2⟩:=h
 ⟨bs,h1.ch c hn (by simp),h2.ch c hz⟩
theorem Ba{hv:Nat->S3}{f:Nat->Acc}(h:∀ j,j<5->FSv g w (hv j) (f j).vs)(c:Cg B T g w g' w')(hz:Tg.z∉T:=by simp):∀ j,j<5->FSv g' w' (hv j) (f j).vs:=λj hj=>(h j hj).ch c hz
theorem Pends.snoc{vs:List Value}{v:Value}{q:Pend}(h:Pends g w nb vs l)(hm:J0 g w nb v q):Pends g w nb (vs++[v]) (l++[q]):=by
 refine⟨by simp[h.len],λk c m h1 h2=>?_⟩;by_cases hk:k<vs.length
 .rw[fC hk]at h1
  rw[fC (by rw[<- h.len];exact hk)]at h2
  exact h.at_ k c m h1 h2
 .rw[fI (by omega)]at h1
  rw[fI (by rw[<- h.len];omega),<- h.len]at h2
  cases hx:k-vs.length with
  | zero=>rw[hx]at h1 h2;simp at h1 h2;subst h1 h2;exact hm
  | succ n=>rw[hx]at h1;simp at h1
theorem OwnS.num{kp:Bool}{l:List Cmd}(h:OwnS g w τ kp e 5 x (cmL l)):x.n=l.length:=by have:=h.len;rw[Bi]at this;omega
theorem OwnS.rc{l:List Cmd}(h:OwnS g w τ true e 5 x (cmL l)):Rc g w x l:=by
 have hn:=h.num;rcases h.ex with⟨h1,h2,h3⟩|⟨b,cur,h1,h2,h3,h4,h5,h6,h7,h8⟩
 .exact⟨hn,by omega,λ_=>h3,.inl (fw (by omega))⟩
 .refine⟨hn,h3,λh=>(by rw[h1]at h;cases h),.inr ⟨b,0,h1,rl h2,λj u hj=>?_,.inr ?_⟩⟩
  .obtain⟨b',hb',_,hc⟩:=h.cell hj;rw[h1]at hb'
   simp only[U',Addr.mk.injEq,and_true]at hb';subst hb';rw[fV];exact hc
  .rw[h8,Bi];simp;omega
end
end
end Go.Proofs.YtalbmmghmoggcabGreatDoor
