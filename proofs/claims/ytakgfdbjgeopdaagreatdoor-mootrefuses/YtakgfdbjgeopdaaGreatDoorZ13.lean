/- Part 13 of the walk: what the functions of the program do, one by one. -/
import Derived.Test.YtakgfdbjgeopdaaGreatDoorZ12
set_option maxRecDepth 100000
set_option maxHeartbeats 4000000
open Go.Proofs.Tryz
set_option linter.unusedVariables false
namespace Go.Proofs.YtakgfdbjgeopdaaGreatDoor
def D6(b:List Int):List Int:=(b.length:Int)::b
def BF(b:List Int):List Int:=D6 b++(dig (D6 b)).take 4
theorem Gu(b:List Int):(D6 b).length=b.length+1:=rfl
theorem GI(b:List Int):(BF b).length=b.length+5:=by
 unfold BF;rw[List.length_append,Gu,List.length_take,AA];omega
def Bb(b:Bal):List Int:=1::(Aw b.r++Aw b.n)
def Be(v:Vt):List Int:=2::(Aw v.slot++(Aw v.b.r++(Aw v.b.n++Jm v.w.k v.w.c v.w.s v.w.n v.w.v)))
theorem I8(v:Vt):(Be v).length=33:=rfl
theorem Hu(b:Bal):∀ x∈Bb b,0≤x∧x<256:=by
 intro x hx;rcases List.mem_cons.1 hx with rfl|hx
 ·omega
 ·rcases List.mem_append.1 hx with hx|hx
  ·exact Bk _ x hx
  ·exact Bk _ x hx
theorem Id(v:Vt):∀ x∈Be v,0≤x∧x<256:=by
 intro x hx;rcases List.mem_cons.1 hx with rfl|hx
 ·omega
 ·rcases List.mem_append.1 hx with hx|hx
  ·exact Bk _ x hx
  ·rcases List.mem_append.1 hx with hx|hx
   ·exact Bk _ x hx
   ·rcases List.mem_append.1 hx with hx|hx
    ·exact Bk _ x hx
    ·exact KV _ _ _ _ _ x hx
theorem Jv{b:List Int}(hb:∀ x∈b,0≤x∧x<256)(hl:b.length≤255):∀ x∈D6 b,0≤x∧x<256:=by
 intro x hx;rcases List.mem_cons.1 hx with rfl|hx
 ·omega
 ·exact hb x hx
theorem JL{b:List Int}(hb:∀ x∈b,0≤x∧x<256)(hl:b.length≤255):∀ x∈BF b,0≤x∧x<256:=by
 intro x hx;rcases List.mem_append.1 hx with hx|hx
 ·exact Jv hb hl x hx
 ·exact CL _ x (List.mem_of_mem_take hx)
def ZF(l:List Int):Cmd:=⟨Ad l 0,Ad l 4,Ad l 8,Ad l 12,Ad l 16⟩
def Gk(b:List Int):Bal:=⟨Ad b 1,Ad b 5⟩
def F9(b:List Int):Vt:=⟨Ad b 1,⟨Ad b 5,Ad b 9⟩,ZF (b.drop 13)⟩
def Gq(a:Acc)(b:List Int):Option Acc :=
 if b.length=9∧b.getD 0 0=1 then(if BN a (Gk b)=0 then some ⟨Gk b,a.vs⟩else none)
 else if b.length=33∧b.getD 0 0=2 then(if BY (b.drop 13)=0 then(if AW a (F9 b)=0 then some ⟨(F9 b).b,Bo a.vs (F9 b)⟩else none)else none)
 else none
def E8(r:List Int)(a:Acc):Option (Acc × Nat) :=
 if r=[]then none
 else if r.length<(r.getD 0 0).toNat+5 then none
 else if(dig (r.take ((r.getD 0 0).toNat+1))).take 4≠(r.drop ((r.getD 0 0).toNat+1)).take 4 then none
 else(Gq a ((r.take ((r.getD 0 0).toNat+1)).drop 1)).map fun x=>(x,(r.getD 0 0).toNat+5)
def a0:Acc:=⟨⟨0,0⟩,[]⟩
def JB(r:List Int)(p:Nat × Acc):Nat × Acc:=match E8 (r.drop p.1) p.2 with
 | none=>p
 | some (c,m)=>(p.1+m,c)
def itR(r:List Int):Nat→Nat × Acc
 | 0=>(0,a0)
 | k+1=>JB r (itR r k)
def Ey(r:List Int):Nat × Acc:=itR r r.length
theorem Vk{r:List Int}{a c:Acc}{m:Nat}(h:E8 r a=some (c,m)):5≤m∧m≤r.length:=by
 unfold E8 at h;split at h
 ·cases h
 ·split at h
  ·cases h
  ·split at h
   ·cases h
   ·obtain⟨x,_,e⟩:=Option.map_eq_some_iff.1 h;injection e with e1 e2
    omega
theorem P4{r:List Int}{p:Nat × Acc}(h:E8 (r.drop p.1) p.2=none):JB r p=p:=by
 unfold JB;rw[h]
theorem P5{r:List Int}{n:Nat}{b c:Acc}{m:Nat}(h:E8 (r.drop n) b=some (c,m)):JB r (n,b)=(n+m,c):=by
 unfold JB;rw[show E8 (r.drop (n,b).1) (n,b).2=some (c,m)from h]
theorem RH{r:List Int}{k n:Nat}{b:Acc}(h:itR r k=(n,b))(hs:E8 (r.drop n) b=none)(j:Nat):itR r (k+j)=(n,b):=by
 induction j with
 | zero=>exact h
 | succ j ih =>
  rw[← Nat.add_assoc,itR,ih];exact P4 hs
theorem QN{r:List Int}{k n:Nat}{b:Acc}(h:itR r k=(n,b))(hk:k≤r.length)(hs:E8 (r.drop n) b=none):Ey r=(n,b):=by
 have:=RH h hs (r.length-k);rw[show k+(r.length-k)=r.length by omega]at this
 exact this
theorem Yz(r:List Int)(k:Nat):(itR r k).1≤r.length:=by
 induction k with
 | zero=>exact Nat.zero_le _
 | succ k ih =>
  rw[itR];unfold JB;split
  ·exact ih
  ·rename_i c m h
   have:=(Vk h).2;rw[List.length_drop]at this
   show(itR r k).1+m≤r.length;omega
theorem Xb(r:List Int):(Ey r).1≤r.length:=Yz r r.length
end Go.Proofs.YtakgfdbjgeopdaaGreatDoor
namespace Go.Proofs.YtakgfdbjgeopdaaGreatDoor
open Go.RowKit
def fbO(r:List Int):Option (List Int) :=
 if r=[]then none
 else if r.length<(r.getD 0 0).toNat+5 then none
 else if(dig (r.take ((r.getD 0 0).toNat+1))).take 4≠(r.drop ((r.getD 0 0).toNat+1)).take 4 then none
 else some ((r.take ((r.getD 0 0).toNat+1)).drop 1)
theorem Q4{r b:List Int}(h:fbO r=some b):b.length+5≤r.length∧b.length=(r.getD 0 0).toNat:=by
 unfold fbO at h;split at h
 ·cases h
 ·split at h
  ·cases h
  ·split at h
   ·cases h
   ·injection h with h
    subst h;rw[List.length_drop,List.length_take];omega
theorem JV(r:List Int)(a:Acc):E8 r a=(fbO r).bind fun b=>(Gq a b).map fun c=>(c,b.length+5):=by
 have hl:∀ b,fbO r=some b→b.length=(r.getD 0 0).toNat:=fun b h=>(Q4 h).2;unfold E8;unfold fbO at hl ⊢;by_cases h0:r=[]
 ·rw[if_pos h0,if_pos h0];rfl
 ·rw[if_neg h0]at hl ⊢
  rw[if_neg h0];by_cases h1:r.length<(r.getD 0 0).toNat+5
  ·rw[if_pos h1,if_pos h1];rfl
  ·rw[if_neg h1]at hl ⊢
   rw[if_neg h1];by_cases h2:(dig (r.take ((r.getD 0 0).toNat+1))).take 4≠(r.drop ((r.getD 0 0).toNat+1)).take 4
   ·rw[if_pos h2,if_pos h2];rfl
   ·rw[if_neg h2]at hl ⊢
    rw[if_neg h2];have e:=hl _ rfl;show _=(Gq a _).map _;rw[e]
theorem CE(l:List Int)(n i:Nat):Ad (l.drop n) i=Ad l (n+i):=by
 unfold Ad;simp only[List.getD_eq_getElem?_getD,List.getElem?_drop,Nat.add_assoc]
def FP(a:Acc)(b:List Int):Int :=
 if b.length=9∧b.getD 0 0=1 then BN a (Gk b)
 else if b.length=33∧b.getD 0 0=2 then(if BY (b.drop 13)=0 then AW a (F9 b)else BY (b.drop 13))
 else 3
def EI(a:Acc)(b:List Int):Acc :=
 if b.length=9∧b.getD 0 0=1 then⟨Ew a (Gk b),Ev a (Gk b)⟩
 else if b.length=33∧b.getD 0 0=2 then(if BY (b.drop 13)=0 then⟨BT a (F9 b),CO a (F9 b)⟩else a0)
 else a0
theorem Nc(a:Acc)(b:List Int):Gq a b=if FP a b=0 then some (EI a b)else none:=by
 unfold Gq FP EI;by_cases h1:b.length=9∧b.getD 0 0=1
 ·rw[if_pos h1,if_pos h1,if_pos h1];by_cases h2:BN a (Gk b)=0
  ·rw[if_pos h2,if_pos h2];unfold Ew Ev;rw[if_pos h2,if_pos h2]
  ·rw[if_neg h2,if_neg h2]
 ·rw[if_neg h1,if_neg h1,if_neg h1];by_cases h2:b.length=33∧b.getD 0 0=2
  ·rw[if_pos h2,if_pos h2,if_pos h2];by_cases h3:BY (b.drop 13)=0
   ·rw[if_pos h3,if_pos h3,if_pos h3];by_cases h4:AW a (F9 b)=0
    ·rw[if_pos h4,if_pos h4];unfold BT CO;rw[if_pos h4,if_pos h4]
    ·rw[if_neg h4,if_neg h4]
   ·rw[if_neg h3,if_neg h3,if_neg h3]
  ·rw[if_neg h2,if_neg h2,if_neg h2,if_neg (by decide)]
def voV(l:List Int):Vt:=if BY (l.drop 12)=0 then⟨Ad l 0,⟨Ad l 4,Ad l 8⟩,ZF (l.drop 12)⟩else⟨0,⟨0,0⟩,⟨0,0,0,0,0⟩⟩
theorem X2{l:List Int}(h:BY (l.drop 12)=0):∃ m0 m1 m2 m3 m4:Int,ID (l.drop 12)=#[.int .i64 m0,.int .i64 m1,.int .i64 m2,.int .i64 m3,.int .i64 m4]∧voV l=⟨Ad l 0,⟨Ad l 4,Ad l 8⟩,⟨m0,m1,m2,m3,m4⟩⟩:=by
 refine⟨Ad (l.drop 12) 0,Ad (l.drop 12) 4,Ad (l.drop 12) 8,Ad (l.drop 12) 12,Ad (l.drop 12) 16,?_,?_⟩
 ·unfold ID;rw[if_pos h];rfl
 ·unfold voV;rw[if_pos h];rfl
theorem X1{l:List Int}(h:¬ BY (l.drop 12)=0):ID (l.drop 12)=#[.int .i64 0,.int .i64 0,.int .i64 0,.int .i64 0,.int .i64 0]∧voV l=⟨0,⟨0,0⟩,⟨0,0,0,0,0⟩⟩:=by
 unfold voV ID;rw[if_neg h,if_neg h];exact⟨rfl,rfl⟩
theorem O5(b:List Int)(h:BY (b.drop 13)=0):voV (b.drop 1)=F9 b:=by
 unfold voV F9;rw[List.drop_drop,if_pos h,CE,CE,CE]
theorem Je(b:List Int):(⟨Ad (b.drop 1) 0,Ad (b.drop 1) 4⟩:Bal)=Gk b:=by
 unfold Gk;rw[CE,CE]
def Gb(d:List Int)(s:Int):Acc:=if CN d s then(Ey d).2 else a0
def Oi(d:List Int)(s:Int):Int:=if CN d s then((Ey d).1:Int)else 0
def Ol(d:List Int)(s:Int):List Int:=if CN d s then d.take (Ey d).1 else[]
def Qa(d:List Int)(s:Int):Int:=if CN d s then(if((Ey d).1:Int)<s then((Ey d).1:Int)else s)else 0
end Go.Proofs.YtakgfdbjgeopdaaGreatDoor
namespace Go.Proofs.YtakgfdbjgeopdaaGreatDoor
def DH(d:List Int)(s:Int)(k:Nat):Int:=if ¬ CN d s then 5 else if 100000<d.length+k then 8 else 0
def BH(d:List Int)(s:Int)(may:Prop)[Decidable may] (b:List Int):Int:=if DH d s (b.length+5)≠0 then DH d s (b.length+5)else if may then 0 else 2
def Da(d:List Int)(s:Int)(may:Prop)[Decidable may] (b:List Int):List Int:=if BH d s may b=0 then d++BF b else[]
def EB(d:List Int)(s:Int)(may:Prop)[Decidable may] (b:List Int):Int:=if BH d s may b=0 then s else 0
theorem WV(b:Bal):BN a0 b=if Af b then 0 else 2:=by
 have h0:AE a0:=⟨.inr ⟨rfl,rfl⟩,fun v hv=>(List.not_mem_nil hv).elim,trivial⟩;unfold BN;rw[if_neg (fun g=>g h0)];by_cases h:Af b
 ·rw[if_neg (fun g=>g h),if_pos h,if_neg];intro g;unfold Af at h;unfold Bal.lt a0 at g;simp only at g;omega
 ·rw[if_pos h,if_neg h]
theorem X3(v:Vt):AW a0 v=if Ah v then 0 else 2:=by
 have h0:AE a0:=⟨.inr ⟨rfl,rfl⟩,fun v hv=>(List.not_mem_nil hv).elim,trivial⟩;unfold AW;rw[if_neg (fun g=>g h0)];by_cases h:Ah v
 ·rw[if_neg (fun g=>g h),if_pos h,if_neg];intro g;have hb:=h.2.1;unfold Af at hb;unfold Bal.lt a0 at g;simp only at g;omega
 ·rw[if_pos h,if_neg h]
end Go.Proofs.YtakgfdbjgeopdaaGreatDoor
namespace Go.Proofs.YtakgfdbjgeopdaaGreatDoor
open Go.RowKit
def Bd{α:Type}(f:Nat→α)(i:Nat)(x:α):Nat→α:=fun j=>if j=i then x else f j
structure Sto where
 V:Nat→Int
 L:Nat→Int
 C:Nat→Int
 A:Nat→Int
 R:Nat→Bool
def Fc:Sto:=⟨fun _=>0,fun _=>0,fun _=>0,fun _=>0,fun _=>false⟩
def ClB(l c a:Int):Prop:=(0≤l∧l≤1048577)∧(l=0→c=0∧a=0)
instance (l c a:Int):Decidable (ClB l c a):=by unfold ClB;exact inferInstance
def VaB(v:Int):Prop:=0≤v∧v≤1073741824
instance (v:Int):Decidable (VaB v):=by unfold VaB;exact inferInstance
def Rb(s:Sto):Prop:=(∀ i,i<8→VaB (s.V i))∧∀ i,i<8→ClB (s.L i) (s.C i) (s.A i)
noncomputable instance (s:Sto):Decidable (Rb s):=Classical.propDecidable _
noncomputable def KH(s:Sto):Int:=if Rb s then 0 else 5
theorem Xj{s:Sto}(h:Rb s):KH s=0:=if_pos h
theorem IV{s:Sto}(h:¬ Rb s):KH s=5:=if_neg h
def K6(s:Sto)(m:Cmd):Int:=if m.k=1 then m.v else if m.k=2 then s.V m.n.toNat else 0
def Mn(s:Sto)(m:Cmd):Sto :=
 ⟨if m.k=1 then Bd s.V m.n.toNat m.v else s.V,Bd s.L m.c.toNat (m.s+1),Bd s.C m.c.toNat 0,Bd s.A m.c.toNat (K6 s m),if m.k=3 then Bd s.R m.n.toNat true else s.R⟩
def dnS(s:Sto)(m:Cmd):Sto:=if m.k≠0∧¬ m.s<s.L m.c.toNat∧s.R m.c.toNat=false then Mn s m else s
def dnC(s:Sto)(m:Cmd):Int :=
 if m.k=0 then 0 else if s.L m.c.toNat=m.s+1 then s.C m.c.toNat else if m.s<s.L m.c.toNat then 7 else if s.R m.c.toNat=true then 11 else 0
def dnA(s:Sto)(m:Cmd):Int :=
 if m.k=0 then 0 else if s.L m.c.toNat=m.s+1 then s.A m.c.toNat else if m.s<s.L m.c.toNat then 0 else if s.R m.c.toNat=true then 0 else K6 s m
noncomputable def doE(s:Sto)(m:Cmd):Int:=if Rb s then m.e else 5
noncomputable def doS(s:Sto)(m:Cmd):Sto:=if doE s m=0 then dnS s m else Fc
noncomputable def doC(s:Sto)(m:Cmd):Int:=if doE s m=0 then dnC s m else 0
noncomputable def doA(s:Sto)(m:Cmd):Int:=if doE s m=0 then dnA s m else 0
theorem Yn{s:Sto}{m:Cmd}(h:doE s m=0):doS s m=dnS s m:=if_pos h
theorem Yk{s:Sto}{m:Cmd}(h:doE s m=0):doC s m=dnC s m:=if_pos h
theorem Yj{s:Sto}{m:Cmd}(h:doE s m=0):doA s m=dnA s m:=if_pos h
theorem T6{s:Sto}{m:Cmd}(h:doE s m≠0):doS s m=Fc:=if_neg h
theorem T3{s:Sto}{m:Cmd}(h:doE s m≠0):doC s m=0:=if_neg h
theorem VT{m:Cmd}(h:m.e=0):(0≤m.k∧m.k≤3)∧InC m.c m.s m.n m.v:=Hk h
end Go.Proofs.YtakgfdbjgeopdaaGreatDoor
namespace Go.Proofs.YtakgfdbjgeopdaaGreatDoor
set_option linter.unusedVariables false
def Yi(Q:Nat→Bool):Nat:=(Q 0).toNat+(Q 1).toNat+(Q 2).toNat+(Q 3).toNat+(Q 4).toNat
section
variable{γ:Type}
end
end Go.Proofs.YtakgfdbjgeopdaaGreatDoor
namespace Go.Proofs.YtakgfdbjgeopdaaGreatDoor
set_option linter.unusedVariables false
def upN{α:Type}(f:Nat→α)(n:Nat)(x:α):Nat→α:=fun i=>if i=n then x else f i
theorem Zg{α:Type}(f:Nat→α)(n:Nat)(x:α):upN f n x n=x:=if_pos rfl
theorem Zh{α:Type}(f:Nat→α){n i:Nat}(x:α)(h:i≠n):upN f n x i=f i:=if_neg h
end Go.Proofs.YtakgfdbjgeopdaaGreatDoor
namespace Go.Proofs.YtakgfdbjgeopdaaGreatDoor
set_option linter.unusedVariables false
end Go.Proofs.YtakgfdbjgeopdaaGreatDoor
namespace Go.Proofs.YtakgfdbjgeopdaaGreatDoor
def Co:Bal:=⟨0,0⟩
def Rn:Cmd:=⟨0,0,0,0,0⟩
def vtz:Vt:=⟨0,Co,Rn⟩
def DN:Acc:=⟨Co,[]⟩
structure Let where
 kind:Nat
 src:Nat
 dst:Nat
 bal:Bal
 vote:Vt
 votes:List Vt
 slot:Nat
 what:List Cmd
def Ca(k:Nat):Let:=⟨k,0,0,Co,vtz,[],0,[]⟩
inductive Pend where
 | began (b:Bal) (vs:List Vt)
 | prom (to:Nat) (b:Bal) (vs:List Vt)
 | voted (to:Nat) (v:Vt)
 | refuse (to:Nat) (b:Bal)
 | prop (v:Vt)
 | askNews (to:Nat)
 | start
 | tell (to:Nat) (slot:Nat)
structure Rnd where
 bal:Bal
 pro:Nat→Bool
 heard:Nat→Acc
 taught:Nat→Nat
 next:Nat
 queue:List Cmd
def aI:Rnd:=⟨Co,fun _=>false,fun _=>DN,fun _=>0,0,[]⟩
structure Tol where
 n:Nat
 c:Int
 s:Int
 e:Int
 a:Int
structure Nod where
 up:Bool
 d:List Int
 sy:Int
 bad:Nat
 vo:Acc
 pend:List Pend
 rounds:Int
 rnd:Rnd
 agreed:List Cmd
 done:Nat
 sto:Sto
 wants:List Cmd
 asked:Cmd→Option Bal
structure Meet where
 node:Nat→Nod
 lets:List Let
 told:List Tol
def Nod.bare(N:Nod)(up:Bool)(d:List Int)(sy:Int)(vo:Acc)(p:List Pend):Nod :=
 ⟨up,d,sy,N.bad,vo,p,0,aI,[],0,Fc,[],fun _=>none⟩
def CD:Nod:=⟨true,[],0,0,DN,[],0,aI,[],0,Fc,[],fun _=>none⟩
def G7:Meet:=⟨fun _=>CD,[],[]⟩
def Meet.put(M:Meet)(i:Nat)(N:Nod):Meet:={ M with node:=upN M.node i N }
def Nod.promise(N:Nod)(b:Bal):Nod × List Vt × Int :=
 if BN N.vo b≠0 then(N,[],BN N.vo b)
 else if b=N.vo.p then({ N with vo:=⟨b,N.vo.vs⟩ },N.vo.vs,0)
 else if BH N.d N.sy (Af b) (Bb b)≠0 then(N,[],BH N.d N.sy (Af b) (Bb b))
 else({ N with d:=Da N.d N.sy (Af b) (Bb b),sy:=EB N.d N.sy (Af b) (Bb b),vo:=⟨b,N.vo.vs⟩ },N.vo.vs,0)
def Nod.vote(N:Nod)(v:Vt):Nod × Int :=
 if AW N.vo v≠0 then(N,AW N.vo v)
 else if v∈N.vo.vs then({ N with vo:=⟨v.b,Bo N.vo.vs v⟩ },0)
 else if BH N.d N.sy (Ah v) (Be v)≠0 then(N,BH N.d N.sy (Ah v) (Be v))
 else({ N with d:=Da N.d N.sy (Ah v) (Be v),sy:=EB N.d N.sy (Ah v) (Be v),vo:=⟨v.b,Bo N.vo.vs v⟩ },0)
def Nod.wait(N:Nod)(p:Pend):Nod:={ N with pend:=N.pend++[p] }
def Nod.refuse(N:Nod)(to:Nat)(e:Int):Nod:=if e=7 then N.wait (.refuse to N.vo.p)else N
def Nod.leads(N:Nod):Bool:=decide (N.rnd.bal≠Co∧N.rnd.bal=N.vo.p)
def Rnd.enough(r:Rnd):Bool:=decide (5<2*Yi r.pro)
def Is(a:Acc):List Vt→Acc
 | []=>a
 | v::l=>Is (if AW a v=0 then⟨BT a v,CO a v⟩else a) l
def Rnd.hear(r:Rnd)(j:Nat)(vs:List Vt):Rnd:={ r with pro:=upN r.pro j true,heard:=upN r.heard j (Is ⟨r.bal,vs⟩ (r.heard j).vs) }
def Rnd.accs(r:Rnd):List Acc:=[r.heard 0,r.heard 1,r.heard 2,r.heard 3,r.heard 4]
def Mk:Nat→Rnd→List Cmd→List Cmd
 | 0,_,l=>l
 | k+1,r,l=>if CQ r.accs (l.length:Int)=0 then Mk k r (l++[Cp r.accs (l.length:Int)])else l
def Nod.learnC(N:Nod):Nod:={ N with agreed:=Mk 41 N.rnd N.agreed }
def Nod.learn(N:Nod)(slot:Nat)(what:List Cmd):Nod:={ N with agreed:=N.agreed++what.drop (N.agreed.length-slot) }
def Nod.count(N:Nod)(j:Nat)(v:Vt):Nod :=
 if v.b≠N.rnd.bal then N
 else if AW (N.rnd.heard j) v≠0 then N
 else Nod.learnC { N with rnd:={ N.rnd with heard:=upN N.rnd.heard j ⟨BT (N.rnd.heard j) v,CO (N.rnd.heard j) v⟩ } }
def Nh(q:List Cmd):List Cmd→List Cmd
 | []=>q
 | c::l=>Nh (if q.length<40∧c∉q then q++[c]else q) l
def Nod.enqueue(N:Nod)(what:List Cmd):Nod:=if N.leads then{ N with rnd:={ N.rnd with queue:=Nh N.rnd.queue what } }else N
def DK(f:Cmd→Option Bal)(c:Cmd)(b:Option Bal):Cmd→Option Bal:=fun x=>if x=c then b else f x
def Nod.want(N:Nod)(c:Cmd):Nod:=if(N.asked c).isSome then N else{ N with wants:=N.wants++[c],asked:=DK N.asked c (some Co) }
def Nod.unwant(N:Nod)(c:Cmd):Nod:=if(N.asked c).isSome then{ N with wants:=N.wants.erase c,asked:=DK N.asked c none }else N
def CP(b:Bal)(f:Cmd→Option Bal):List Cmd→List Cmd × (Cmd→Option Bal)
 | []=>([],f)
 | c::l=>if(f c).getD Co≠b then(c::(CP b (DK f c (some b)) l).1,(CP b (DK f c (some b)) l).2)else CP b f l
def Nod.take(N:Nod)(l:Let):Nod :=
 match l.kind with
 | 0=>if(N.promise l.bal).2.2≠0 then N.refuse l.src (N.promise l.bal).2.2 else(N.promise l.bal).1.wait (.prom l.src l.bal (N.promise l.bal).2.1)
 | 1=>let K:=N.learn 0 l.what
  if K.leads=false∨l.bal≠K.rnd.bal∨K.rnd.pro l.src=true then K
  else Nod.learnC { K with rnd:={ K.rnd.hear l.src l.votes with taught:=upN K.rnd.taught l.src l.what.length } }
 | 2=>{ N with rounds:=max N.rounds l.bal.r }
 | 3=>if(N.vote l.vote).2≠0 then N.refuse l.src (N.vote l.vote).2 else(N.vote l.vote).1.wait (.voted l.src l.vote)
 | 4=>N.count l.src l.vote
 | 5=>if N.agreed.length<l.slot then N.wait (.askNews l.src)else N.learn l.slot l.what
 | 6=>let K:=N.enqueue l.what
  if l.slot<K.agreed.length then K.wait (.tell l.src l.slot)else K
 | _=>N
def Meet.come(M:Meet)(l:Let):Meet:=if(M.node l.dst).up then M.put l.dst ((M.node l.dst).take l)else M
def Nod.nextC(N:Nod)(slot:Nat):Option Cmd :=
 if Cl (N.rnd.accs.map (·.vs)) (slot:Int)≠0 then none
 else if FE (N.rnd.accs.map (·.vs)) (slot:Int)then some (GE (N.rnd.accs.map (·.vs)) (slot:Int))
 else N.rnd.queue.find? fun c=>decide (c∉N.agreed)
def Nod.propose(N:Nod):Nod :=
 if N.leads=false∨N.rnd.enough=false∨N.agreed.length<N.rnd.next then N
 else match N.nextC N.agreed.length with
  | none=>N
  | some c =>
   if(N.vote ⟨(N.agreed.length:Int),N.rnd.bal,c⟩).2≠0 then N
   else Nod.wait { (N.vote ⟨(N.agreed.length:Int),N.rnd.bal,c⟩).1 with rnd:={ N.rnd with next:=N.agreed.length+1 } } (.prop ⟨(N.agreed.length:Int),N.rnd.bal,c⟩)
def Nod.lead(N:Nod)(i:Nat):Nod :=
 let b:Bal:=⟨max N.rounds N.vo.p.r+1,(i:Int)⟩
 if(N.promise b).2.2≠0 then N
 else Nod.wait { (N.promise b).1 with rnd:=⟨b,fun _=>false,fun _=>DN,fun _=>N.agreed.length,0,[]⟩ } (.began b (N.promise b).2.1)
def Nod.crash(N:Nod)(k:Int):Nod:=if EH N.d N.sy k≠0 then N else N.bare false (Hl N.d N.sy k) (LY N.d N.sy k) DN []
def Nod.start(N:Nod):Nod :=
 if Dx N.d N.sy≠0 then N
 else if Oi N.d N.sy<(N.d.length:Int)then N.bare true (Ol N.d N.sy) (Qa N.d N.sy) (Gb N.d N.sy) [.start]
 else N.bare true N.d N.sy (Gb N.d N.sy) [.start]
def Meet.move(M:Meet)(k:Int)(at_:Nat):Meet :=
 match M.lets[at_%M.lets.length]? with
 | none=>M
 | some l =>
  let A:=if k≠6 then{ M with lets:=M.lets.eraseIdx (at_%M.lets.length) }else M
  if k≠5 then A.come l else A
def Meet.comeAll(M:Meet):Meet:=M.lets.foldl (fun M l=>M.come l) { M with lets:=[] }
end Go.Proofs.YtakgfdbjgeopdaaGreatDoor
namespace Go.Proofs.YtakgfdbjgeopdaaGreatDoor
open Go.RowKit
def stA(s:Sto):Array Value:=#[.int .i64 (s.V 0),.int .i64 (s.V 1),.int .i64 (s.V 2),.int .i64 (s.V 3),.int .i64 (s.V 4),.int .i64 (s.V 5),.int .i64 (s.V 6),.int .i64 (s.V 7),.int .i64 (s.L 0),.int .i64 (s.L 1),.int .i64 (s.L 2),.int .i64 (s.L 3),.int .i64 (s.L 4),.int .i64 (s.L 5),.int .i64 (s.L 6),.int .i64 (s.L 7),.int .i64 (s.C 0),.int .i64 (s.A 0),.int .i64 (s.C 1),.int .i64 (s.A 1),.int .i64 (s.C 2),.int .i64 (s.A 2),.int .i64 (s.C 3),.int .i64 (s.A 3),.int .i64 (s.C 4),.int .i64 (s.A 4),.int .i64 (s.C 5),.int .i64 (s.A 5),.int .i64 (s.C 6),.int .i64 (s.A 6),.int .i64 (s.C 7),.int .i64 (s.A 7),.bool (s.R 0),.bool (s.R 1),.bool (s.R 2),.bool (s.R 3),.bool (s.R 4),.bool (s.R 5),.bool (s.R 6),.bool (s.R 7)]
theorem aN(s:Sto)(i:Nat)(h:i<8):(stA s)[i]?=some (.int .i64 (s.V i)):=by
 rcases(by omega:i=0∨i=1∨i=2∨i=3∨i=4∨i=5∨i=6∨i=7)with rfl|rfl|rfl|rfl|rfl|rfl|rfl|rfl<;>rfl
theorem aM(s:Sto)(i:Nat)(h:i<8):(stA s)[8+i]?=some (.int .i64 (s.L i)):=by
 rcases(by omega:i=0∨i=1∨i=2∨i=3∨i=4∨i=5∨i=6∨i=7)with rfl|rfl|rfl|rfl|rfl|rfl|rfl|rfl<;>rfl
theorem aL(s:Sto)(i:Nat)(h:i<8):(stA s)[16+i*2]?=some (.int .i64 (s.C i)):=by
 rcases(by omega:i=0∨i=1∨i=2∨i=3∨i=4∨i=5∨i=6∨i=7)with rfl|rfl|rfl|rfl|rfl|rfl|rfl|rfl<;>rfl
theorem aK(s:Sto)(i:Nat)(h:i<8):(stA s)[16+i*2+1]?=some (.int .i64 (s.A i)):=by
 rcases(by omega:i=0∨i=1∨i=2∨i=3∨i=4∨i=5∨i=6∨i=7)with rfl|rfl|rfl|rfl|rfl|rfl|rfl|rfl<;>rfl
def Bs(w:World)(g:Nat)(s:Sto):Prop:=w.heap[g]?=some (.cells (stA s) 126)
theorem Bs.cellV{w:World}{g:Nat}{s:Sto}(h:Bs w g s)(i:Nat)(hi:i<8):w.cell? ⟨g,i,none⟩=some (.int .i64 (s.V i)):=(cell_of_row _ _ i _ _ _ h).trans (aN s i hi)
theorem Bs.cellL{w:World}{g:Nat}{s:Sto}(h:Bs w g s)(i:Nat)(hi:i<8):w.cell? ⟨g,8+i,none⟩=some (.int .i64 (s.L i)):=(cell_of_row _ _ (8+i) _ _ _ h).trans (aM s i hi)
theorem Bs.cellC{w:World}{g:Nat}{s:Sto}(h:Bs w g s)(i:Nat)(hi:i<8):w.cell? ⟨g,16+i*2,none⟩=some (.int .i64 (s.C i)):=(cell_of_row _ _ (16+i*2) _ _ _ h).trans (aL s i hi)
theorem Bs.cellA{w:World}{g:Nat}{s:Sto}(h:Bs w g s)(i:Nat)(hi:i<8):w.cell? ⟨g,16+i*2+1,none⟩=some (.int .i64 (s.A i)):=(cell_of_row _ _ (16+i*2+1) _ _ _ h).trans (aK s i hi)
theorem YC(a b a' b':Int):∀ w,(binOp .neq 123 (.agg #[.int .i64 a,.int .i64 b]) (.agg #[.int .i64 a',.int .i64 b'])).run prog w=.ok (.bool (!decide (a=a'∧b=b'))) w:=by
 intro w;rw[run_neq_struct,run_equalIn_agg w 9999 _ _ _ (by kernel_rfl) (by kernel_rfl)];unfold Program.fieldsOf;rw[underlying123];have h3:=underlying3;have hE:=underlying27;simp[Op.eqFields,go_sem,h3,hE]
 repeat' split
 all_goals simp_all
theorem WI(a b:Int):∀ w,(binOp .neq 123 (.agg #[.int .i64 a,.int .i64 b]) (.agg #[.int .i64 0,.int .i64 0])).run prog w=.ok (.bool (!decide (a=0∧b=0))) w:=YC a b 0 0
def vaL(f:Nat→Int):List Value:=[.int .i64 (f 0),.int .i64 (f 1),.int .i64 (f 2),.int .i64 (f 3),.int .i64 (f 4),.int .i64 (f 5),.int .i64 (f 6),.int .i64 (f 7)]
def vaA(f:Nat→Int):Array Value:=(vaL f).toArray
theorem V9(f:Nat→Int)(j:Nat)(u:Value)(h:(vaL f)[j]?=some u):j<8∧u=.int .i64 (f j):=by
 have hj:j<8:=(List.getElem?_eq_some_iff.1 h).1;refine⟨hj,?_⟩;rcases(by omega:j=0∨j=1∨j=2∨j=3∨j=4∨j=5∨j=6∨j=7)with rfl|rfl|rfl|rfl|rfl|rfl|rfl|rfl<;>(simp[vaL]at h;exact h.symm)
theorem Bs.rangeV{w:World}{g:Nat}{s:Sto}(h:Bs w g s):w.rangeAt g 0 (vaL s.V):=by
 intro j u hj;obtain⟨h1,rfl⟩:=V9 _ _ _ hj;rw[Nat.zero_add];exact h.cellV j h1
theorem Bs.rangeL{w:World}{g:Nat}{s:Sto}(h:Bs w g s):w.rangeAt g 8 (vaL s.L):=by
 intro j u hj;obtain⟨h1,rfl⟩:=V9 _ _ _ hj;exact h.cellL j h1
theorem Zj(f:Nat→Int):(prog.info? 121).map (·.size)=some (vaL f).length:=by show _=some 8;kernel_rfl
theorem Fj{ops:Array Oper}{rest:List Oper}{op:Oper}{a:Act}{w:World}{Q:Exit→Act→World→Prop}(hgd:op.guard=none)(x:Operand)(ho:op.op=.load 121 x)
  (b o:Nat)(hx:a.eval x=.pointer (some ⟨b,o,none⟩))(f:Nat→Int)(hc:w.rangeAt b o (vaL f))
  (h:wpList prog ops Q rest (a.put op.dst (.agg (vaA f))) w):wpList prog ops Q (op::rest) a w :=
 wpList_load_mid hgd 121 x ho b o hx (vaL f) _ hc underlying121 rfl (Zj f) h
theorem QX(f:Nat→Int)(i:Nat)(hi:i<8)(w:World):(Instr.index 121 (.agg (vaA f)) (.int .i64 (i:Int))).run prog w=.ok (.int .i64 (f i)) w:=by
 rcases(by omega:i=0∨i=1∨i=2∨i=3∨i=4∨i=5∨i=6∨i=7)with rfl|rfl|rfl|rfl|rfl|rfl|rfl|rfl<;>kernel_rfl
end Go.Proofs.YtakgfdbjgeopdaaGreatDoor
