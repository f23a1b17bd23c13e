/- Part 11 of the walk. -/
import Derived.Test.YtaeckakjdagddadGreatDoorZ10
import Derived.Test.YtaeckakjdagddadGreatDoorZ9
set_option maxRecDepth 100000
set_option maxHeartbeats 4000000
open Go.Proofs.Tryz
set_option linter.unusedVariables false
namespace Go.Proofs.YtaeckakjdagddadGreatDoor
section
open Go.RowKit
def Bd(d:List Int)(s:Int):Prop:=d.length≤100000∧0≤s∧s≤(d.length:Int)
instance (d:List Int) (s:Int):Decidable (Bd d s):=by unfold Bd;exact inferInstance
def CZ(d:List Int)(s:Int):Int:=if Bd d s then 0 else 5
def Hs(d:List Int)(s:Int):List Int:=if Bd d s then d else[]
def I0(d:List Int)(s:Int):Int:=if Bd d s then(d.length:Int)else 0
def MV(d:List Int)(s k:Int):Int:=if k<(d.length:Int)-s then s+k else(d.length:Int)
def Jl(d:List Int)(s k:Int):Int:=if ¬ Bd d s then 5 else if k<0 then 2 else 0
def Ls(d:List Int)(s k:Int):List Int:=if Jl d s k=0 then d.take (MV d s k).toNat else[]
def Lt(d:List Int)(s k:Int):Int:=if Jl d s k=0 then MV d s k else 0
def tpA(x:Value)(s:Int):Array Value:=#[x,.int .i64 s]
theorem KZ:(prog.info? 111).map (·.size)=some 2:=by kernel_rfl
theorem XN(x:Option Addr)(n c:Nat)(s:Int):(#[.slice x n c,.int .i64 s]:Array Value).all (·.oneCell')=true:=by simp[Value.oneCell']
end
section
def DG(b:List Int):List Int:=(b.length:Int)::b
def BJ(b:List Int):List Int:=DG b++(dig (DG b)).take 4
theorem GQ(b:List Int):(DG b).length=b.length+1:=rfl
theorem EG(b:List Int):(BJ b).length=b.length+5:=by
 unfold BJ;rw[List.length_append,GQ,List.length_take,Az];omega
def BC(b:Bal):List Int:=1::(Ag b.r++Ag b.n)
def BA(v:Vt):List Int:=2::(Ag v.slot++(Ag v.b.r++(Ag v.b.n++Ij v.w.k v.w.c v.w.s v.w.n v.w.v)))
theorem PK(v:Vt):(BA v).length=33:=rfl
theorem Ue(b:Bal):∀ x∈BC b,0≤x∧x<256:=by
 intro x hx;rcases List.mem_cons.1 hx with rfl|hx
 ·omega
 ·rcases List.mem_append.1 hx with hx|hx
  ·exact AM _ x hx
  ·exact AM _ x hx
theorem UJ(v:Vt):∀ x∈BA v,0≤x∧x<256:=by
 intro x hx;rcases List.mem_cons.1 hx with rfl|hx
 ·omega
 ·rcases List.mem_append.1 hx with hx|hx
  ·exact AM _ x hx
  ·rcases List.mem_append.1 hx with hx|hx
   ·exact AM _ x hx
   ·rcases List.mem_append.1 hx with hx|hx
    ·exact AM _ x hx
    ·exact LU _ _ _ _ _ x hx
theorem Kj{b:List Int}(hb:∀ x∈b,0≤x∧x<256)(hl:b.length≤255):∀ x∈DG b,0≤x∧x<256:=by
 intro x hx;rcases List.mem_cons.1 hx with rfl|hx
 ·omega
 ·exact hb x hx
theorem KJ{b:List Int}(hb:∀ x∈b,0≤x∧x<256)(hl:b.length≤255):∀ x∈BJ b,0≤x∧x<256:=by
 intro x hx;rcases List.mem_append.1 hx with hx|hx
 ·exact Kj hb hl x hx
 ·exact CW _ x (List.mem_of_mem_take hx)
def ew(l:List Int):Cmd:=⟨Ab l 0,Ab l 4,Ab l 8,Ab l 12,Ab l 16⟩
def GH(b:List Int):Bal:=⟨Ab b 1,Ab b 5⟩
def FV(b:List Int):Vt:=⟨Ab b 1,⟨Ab b 5,Ab b 9⟩,ew (b.drop 13)⟩
def GN(a:Acc)(b:List Int):Option Acc :=
 if b.length=9∧b.getD 0 0=1 then(if BO a (GH b)=0 then some ⟨GH b,a.vs⟩else none)
 else if b.length=33∧b.getD 0 0=2 then(if Cb (b.drop 13)=0 then(if AX a (FV b)=0 then some ⟨(FV b).b,Bk a.vs (FV b)⟩else none)else none)
 else none
def ER(r:List Int)(a:Acc):Option (Acc × Nat) :=
 if r=[]then none
 else if r.length<(r.getD 0 0).toNat+5 then none
 else if(dig (r.take ((r.getD 0 0).toNat+1))).take 4≠(r.drop ((r.getD 0 0).toNat+1)).take 4 then none
 else(GN a ((r.take ((r.getD 0 0).toNat+1)).drop 1)).map fun x=>(x,(r.getD 0 0).toNat+5)
def a0:Acc:=⟨⟨0,0⟩,[]⟩
def K5(r:List Int)(p:Nat × Acc):Nat × Acc:=match ER (r.drop p.1) p.2 with
 | none=>p
 | some (c,m)=>(p.1+m,c)
def itR(r:List Int):Nat→Nat × Acc
 | 0=>(0,a0)
 | k+1=>K5 r (itR r k)
def Er(r:List Int):Nat × Acc:=itR r r.length
theorem X3{r:List Int}{a c:Acc}{m:Nat}(h:ER r a=some (c,m)):5≤m∧m≤r.length:=by
 unfold ER at h;split at h
 ·cases h
 ·split at h
  ·cases h
  ·split at h
   ·cases h
   ·obtain⟨x,_,e⟩:=Option.map_eq_some_iff.1 h;injection e with e1 e2
    omega
theorem QM{r:List Int}{p:Nat × Acc}(h:ER (r.drop p.1) p.2=none):K5 r p=p:=by
 unfold K5;rw[h]
theorem QN{r:List Int}{n:Nat}{b c:Acc}{m:Nat}(h:ER (r.drop n) b=some (c,m)):K5 r (n,b)=(n+m,c):=by
 unfold K5;rw[show ER (r.drop (n,b).1) (n,b).2=some (c,m)from h]
theorem TA{r:List Int}{k n:Nat}{b:Acc}(h:itR r k=(n,b))(hs:ER (r.drop n) b=none)(j:Nat):itR r (k+j)=(n,b):=by
 induction j with
 | zero=>exact h
 | succ j ih =>
  rw[← Nat.add_assoc,itR,ih];exact QM hs
theorem S1{r:List Int}{k n:Nat}{b:Acc}(h:itR r k=(n,b))(hk:k≤r.length)(hs:ER (r.drop n) b=none):Er r=(n,b):=by
 have:=TA h hs (r.length-k);rw[show k+(r.length-k)=r.length by omega]at this
 exact this
theorem Wc(r:List Int)(k:Nat):(itR r k).1≤r.length:=by
 induction k with
 | zero=>exact Nat.zero_le _
 | succ k ih =>
  rw[itR];unfold K5;split
  ·exact ih
  ·rename_i c m h
   have:=(X3 h).2;rw[List.length_drop]at this
   show(itR r k).1+m≤r.length;omega
theorem Zy(r:List Int):(Er r).1≤r.length:=Wc r r.length
end
section
open Go.RowKit
def fbO(r:List Int):Option (List Int) :=
 if r=[]then none
 else if r.length<(r.getD 0 0).toNat+5 then none
 else if(dig (r.take ((r.getD 0 0).toNat+1))).take 4≠(r.drop ((r.getD 0 0).toNat+1)).take 4 then none
 else some ((r.take ((r.getD 0 0).toNat+1)).drop 1)
theorem RW{r b:List Int}(h:fbO r=some b):b.length+5≤r.length∧b.length=(r.getD 0 0).toNat:=by
 unfold fbO at h;split at h
 ·cases h
 ·split at h
  ·cases h
  ·split at h
   ·cases h
   ·injection h with h
    subst h;rw[List.length_drop,List.length_take];omega
theorem KR(r:List Int)(a:Acc):ER r a=(fbO r).bind fun b=>(GN a b).map fun c=>(c,b.length+5):=by
 have hl:∀ b,fbO r=some b→b.length=(r.getD 0 0).toNat:=fun b h=>(RW h).2;unfold ER;unfold fbO at hl ⊢;by_cases h0:r=[]
 ·rw[if_pos h0,if_pos h0];rfl
 ·rw[if_neg h0]at hl ⊢
  rw[if_neg h0];by_cases h1:r.length<(r.getD 0 0).toNat+5
  ·rw[if_pos h1,if_pos h1];rfl
  ·rw[if_neg h1]at hl ⊢
   rw[if_neg h1];by_cases h2:(dig (r.take ((r.getD 0 0).toNat+1))).take 4≠(r.drop ((r.getD 0 0).toNat+1)).take 4
   ·rw[if_pos h2,if_pos h2];rfl
   ·rw[if_neg h2]at hl ⊢
    rw[if_neg h2];have e:=hl _ rfl;show _=(GN a _).map _;rw[e]
theorem CN(l:List Int)(n i:Nat):Ab (l.drop n) i=Ab l (n+i):=by
 unfold Ab;simp only[List.getD_eq_getElem?_getD,List.getElem?_drop,Nat.add_assoc]
def Gn(a:Acc)(b:List Int):Int :=
 if b.length=9∧b.getD 0 0=1 then BO a (GH b)
 else if b.length=33∧b.getD 0 0=2 then(if Cb (b.drop 13)=0 then AX a (FV b)else Cb (b.drop 13))
 else 3
def Fg(a:Acc)(b:List Int):Acc :=
 if b.length=9∧b.getD 0 0=1 then⟨EV a (GH b),EU a (GH b)⟩
 else if b.length=33∧b.getD 0 0=2 then(if Cb (b.drop 13)=0 then⟨Ca a (FV b),Dg a (FV b)⟩else a0)
 else a0
theorem Oy(a:Acc)(b:List Int):GN a b=if Gn a b=0 then some (Fg a b)else none:=by
 unfold GN Gn Fg;by_cases h1:b.length=9∧b.getD 0 0=1
 ·rw[if_pos h1,if_pos h1,if_pos h1];by_cases h2:BO a (GH b)=0
  ·rw[if_pos h2,if_pos h2];unfold EV EU;rw[if_pos h2,if_pos h2]
  ·rw[if_neg h2,if_neg h2]
 ·rw[if_neg h1,if_neg h1,if_neg h1];by_cases h2:b.length=33∧b.getD 0 0=2
  ·rw[if_pos h2,if_pos h2,if_pos h2];by_cases h3:Cb (b.drop 13)=0
   ·rw[if_pos h3,if_pos h3,if_pos h3];by_cases h4:AX a (FV b)=0
    ·rw[if_pos h4,if_pos h4];unfold Ca Dg;rw[if_pos h4,if_pos h4]
    ·rw[if_neg h4,if_neg h4]
   ·rw[if_neg h3,if_neg h3,if_neg h3]
  ·rw[if_neg h2,if_neg h2,if_neg h2,if_neg (by decide)]
def voV(l:List Int):Vt:=if Cb (l.drop 12)=0 then⟨Ab l 0,⟨Ab l 4,Ab l 8⟩,ew (l.drop 12)⟩else⟨0,⟨0,0⟩,⟨0,0,0,0,0⟩⟩
theorem aw{l:List Int}(h:Cb (l.drop 12)=0):∃ m0 m1 m2 m3 m4:Int,Jm (l.drop 12)=#[.int .i64 m0,.int .i64 m1,.int .i64 m2,.int .i64 m3,.int .i64 m4]∧voV l=⟨Ab l 0,⟨Ab l 4,Ab l 8⟩,⟨m0,m1,m2,m3,m4⟩⟩:=by
 refine⟨Ab (l.drop 12) 0,Ab (l.drop 12) 4,Ab (l.drop 12) 8,Ab (l.drop 12) 12,Ab (l.drop 12) 16,?_,?_⟩
 ·unfold Jm;rw[if_pos h];rfl
 ·unfold voV;rw[if_pos h];rfl
theorem aq{l:List Int}(h:¬ Cb (l.drop 12)=0):Jm (l.drop 12)=zV5∧voV l=⟨0,⟨0,0⟩,⟨0,0,0,0,0⟩⟩:=by
 unfold voV Jm;rw[if_neg h,if_neg h];exact⟨rfl,rfl⟩
theorem PJ(b:List Int)(h:Cb (b.drop 13)=0):voV (b.drop 1)=FV b:=by
 unfold voV FV;rw[List.drop_drop,if_pos h,CN,CN,CN]
theorem JO(b:List Int):(⟨Ab (b.drop 1) 0,Ab (b.drop 1) 4⟩:Bal)=GH b:=by
 unfold GH;rw[CN,CN]
def G3(d:List Int)(s:Int):Acc:=if Bd d s then(Er d).2 else a0
def Pq(d:List Int)(s:Int):Int:=if Bd d s then((Er d).1:Int)else 0
def LC(d:List Int)(s:Int):List Int:=if Bd d s then d.take (Er d).1 else[]
def Ns(d:List Int)(s:Int):Int:=if Bd d s then(if((Er d).1:Int)<s then((Er d).1:Int)else s)else 0
end
section
def G4(d:List Int)(s:Int)(k:Nat):Int:=if ¬ Bd d s then 5 else if 100000<d.length+k then 8 else 0
def Cy(d:List Int)(s:Int)(may:Prop)[Decidable may] (b:List Int):Int:=if G4 d s (b.length+5)≠0 then G4 d s (b.length+5)else if may then 0 else 2
def F9(d:List Int)(s:Int)(may:Prop)[Decidable may] (b:List Int):List Int:=if Cy d s may b=0 then d++BJ b else[]
def GE(d:List Int)(s:Int)(may:Prop)[Decidable may] (b:List Int):Int:=if Cy d s may b=0 then s else 0
theorem Zs(b:Bal):BO a0 b=if Ad b then 0 else 2:=by
 have h0:AD a0:=⟨.inr ⟨rfl,rfl⟩,fun v hv=>(List.not_mem_nil hv).elim,trivial⟩;unfold BO;rw[if_neg (fun g=>g h0)];by_cases h:Ad b
 ·rw[if_neg (fun g=>g h),if_pos h,if_neg];intro g;unfold Ad at h;unfold Bal.lt a0 at g;simp only at g;omega
 ·rw[if_pos h,if_neg h]
theorem az(v:Vt):AX a0 v=if Am v then 0 else 2:=by
 have h0:AD a0:=⟨.inr ⟨rfl,rfl⟩,fun v hv=>(List.not_mem_nil hv).elim,trivial⟩;unfold AX;rw[if_neg (fun g=>g h0)];by_cases h:Am v
 ·rw[if_neg (fun g=>g h),if_pos h,if_neg];intro g;have hb:=h.2.1;unfold Ad at hb;unfold Bal.lt a0 at g;simp only at g;omega
 ·rw[if_pos h,if_neg h]
end
section
open Go.RowKit
def Be{α:Type}(f:Nat→α)(i:Nat)(x:α):Nat→α:=fun j=>if j=i then x else f j
structure Sto where
 V:Nat→Int
 L:Nat→Int
 C:Nat→Int
 A:Nat→Int
 R:Nat→Bool
def F0:Sto:=⟨fun _=>0,fun _=>0,fun _=>0,fun _=>0,fun _=>false⟩
def ClB(l c a:Int):Prop:=(0≤l∧l≤1048577)∧(l=0→c=0∧a=0)
instance (l c a:Int):Decidable (ClB l c a):=by unfold ClB;exact inferInstance
def VaB(v:Int):Prop:=0≤v∧v≤1073741824
instance (v:Int):Decidable (VaB v):=by unfold VaB;exact inferInstance
def SQ(s:Sto):Prop:=(∀ i,i<8→VaB (s.V i))∧∀ i,i<8→ClB (s.L i) (s.C i) (s.A i)
noncomputable instance (s:Sto):Decidable (SQ s):=Classical.propDecidable _
noncomputable def LF(s:Sto):Int:=if SQ s then 0 else 5
theorem ZN{s:Sto}(h:SQ s):LF s=0:=if_pos h
theorem JB{s:Sto}(h:¬ SQ s):LF s=5:=if_neg h
def L3(s:Sto)(m:Cmd):Int:=if m.k=1 then m.v else if m.k=2 then s.V m.n.toNat else 0
def Nk(s:Sto)(m:Cmd):Sto :=
 ⟨if m.k=1 then Be s.V m.n.toNat m.v else s.V,Be s.L m.c.toNat (m.s+1),Be s.C m.c.toNat 0,Be s.A m.c.toNat (L3 s m),if m.k=3 then Be s.R m.n.toNat true else s.R⟩
def dnS(s:Sto)(m:Cmd):Sto:=if m.k≠0∧¬ m.s<s.L m.c.toNat∧s.R m.c.toNat=false then Nk s m else s
def dnC(s:Sto)(m:Cmd):Int :=
 if m.k=0 then 0 else if s.L m.c.toNat=m.s+1 then s.C m.c.toNat else if m.s<s.L m.c.toNat then 7 else if s.R m.c.toNat=true then 11 else 0
def dnA(s:Sto)(m:Cmd):Int :=
 if m.k=0 then 0 else if s.L m.c.toNat=m.s+1 then s.A m.c.toNat else if m.s<s.L m.c.toNat then 0 else if s.R m.c.toNat=true then 0 else L3 s m
noncomputable def doE(s:Sto)(m:Cmd):Int:=if SQ s then m.e else 5
noncomputable def doS(s:Sto)(m:Cmd):Sto:=if doE s m=0 then dnS s m else F0
noncomputable def doC(s:Sto)(m:Cmd):Int:=if doE s m=0 then dnC s m else 0
noncomputable def doA(s:Sto)(m:Cmd):Int:=if doE s m=0 then dnA s m else 0
theorem co{s:Sto}{m:Cmd}(h:doE s m=0):doS s m=dnS s m:=if_pos h
theorem bY{s:Sto}{m:Cmd}(h:doE s m=0):doC s m=dnC s m:=if_pos h
theorem bX{s:Sto}{m:Cmd}(h:doE s m=0):doA s m=dnA s m:=if_pos h
theorem V5{s:Sto}{m:Cmd}(h:doE s m≠0):doS s m=F0:=if_neg h
theorem V2{s:Sto}{m:Cmd}(h:doE s m≠0):doC s m=0:=if_neg h
theorem Ys{m:Cmd}(h:m.e=0):(0≤m.k∧m.k≤3)∧InC m.c m.s m.n m.v:=FE h
end
section
def bV(Q:Nat→Bool):Nat:=(Q 0).toNat+(Q 1).toNat+(Q 2).toNat+(Q 3).toNat+(Q 4).toNat
end
section
def upN{α:Type}(f:Nat→α)(n:Nat)(x:α):Nat→α:=fun i=>if i=n then x else f i
theorem dM{α:Type}(f:Nat→α)(n:Nat)(x:α):upN f n x n=x:=if_pos rfl
theorem dN{α:Type}(f:Nat→α){n i:Nat}(x:α)(h:i≠n):upN f n x i=f i:=if_neg h
end
section
end
section
def Cu:Bal:=⟨0,0⟩
def Th:Cmd:=⟨0,0,0,0,0⟩
def vtz:Vt:=⟨0,Cu,Th⟩
def Eg:Acc:=⟨Cu,[]⟩
structure Let where
 kind:Nat
 src:Nat
 dst:Nat
 bal:Bal
 vote:Vt
 votes:List Vt
 slot:Nat
 what:List Cmd
def Cd(k:Nat):Let:=⟨k,0,0,Cu,vtz,[],0,[]⟩
inductive Pend where
 | began (b:Bal) (vs:List Vt)
 | prom (to:Nat) (b:Bal) (vs:List Vt)
 | voted (to:Nat) (v:Vt)
 | refuse (to:Nat) (b:Bal)
 | prop (v:Vt)
 | askNews (to:Nat)
 | start
 | tell (to:Nat) (slot:Nat)
structure Rnd where
 bal:Bal
 pro:Nat→Bool
 heard:Nat→Acc
 taught:Nat→Nat
 next:Nat
 queue:List Cmd
def fA:Rnd:=⟨Cu,fun _=>false,fun _=>Eg,fun _=>0,0,[]⟩
structure Tol where
 n:Nat
 c:Int
 s:Int
 e:Int
 a:Int
structure Nod where
 up:Bool
 d:List Int
 sy:Int
 bad:Nat
 vo:Acc
 pend:List Pend
 rounds:Int
 rnd:Rnd
 agreed:List Cmd
 done:Nat
 sto:Sto
 wants:List Cmd
 asked:Cmd→Option Bal
structure Meet where
 node:Nat→Nod
 lets:List Let
 told:List Tol
def Nod.bare(N:Nod)(up:Bool)(d:List Int)(sy:Int)(vo:Acc)(p:List Pend):Nod :=
 ⟨up,d,sy,N.bad,vo,p,0,fA,[],0,F0,[],fun _=>none⟩
def CM:Nod:=⟨true,[],0,0,Eg,[],0,fA,[],0,F0,[],fun _=>none⟩
def Br:Meet:=⟨fun _=>CM,[],[]⟩
def Meet.put(M:Meet)(i:Nat)(N:Nod):Meet:={ M with node:=upN M.node i N }
def Nod.promise(N:Nod)(b:Bal):Nod × List Vt × Int :=
 if BO N.vo b≠0 then(N,[],BO N.vo b)
 else if b=N.vo.p then({ N with vo:=⟨b,N.vo.vs⟩ },N.vo.vs,0)
 else if Cy N.d N.sy (Ad b) (BC b)≠0 then(N,[],Cy N.d N.sy (Ad b) (BC b))
 else({ N with d:=F9 N.d N.sy (Ad b) (BC b),sy:=GE N.d N.sy (Ad b) (BC b),vo:=⟨b,N.vo.vs⟩ },N.vo.vs,0)
def Nod.vote(N:Nod)(v:Vt):Nod × Int :=
 if AX N.vo v≠0 then(N,AX N.vo v)
 else if v∈N.vo.vs then({ N with vo:=⟨v.b,Bk N.vo.vs v⟩ },0)
 else if Cy N.d N.sy (Am v) (BA v)≠0 then(N,Cy N.d N.sy (Am v) (BA v))
 else({ N with d:=F9 N.d N.sy (Am v) (BA v),sy:=GE N.d N.sy (Am v) (BA v),vo:=⟨v.b,Bk N.vo.vs v⟩ },0)
def Nod.wait(N:Nod)(p:Pend):Nod:={ N with pend:=N.pend++[p] }
def Nod.refuse(N:Nod)(to:Nat)(e:Int):Nod:=if e=7 then N.wait (.refuse to N.vo.p)else N
def Nod.leads(N:Nod):Bool:=decide (N.rnd.bal≠Cu∧N.rnd.bal=N.vo.p)
def Rnd.enough(r:Rnd):Bool:=decide (5<2*bV r.pro)
def IK(a:Acc):List Vt→Acc
 | []=>a
 | v::l=>IK (if AX a v=0 then⟨Ca a v,Dg a v⟩else a) l
def Rnd.hear(r:Rnd)(j:Nat)(vs:List Vt):Rnd:={ r with pro:=upN r.pro j true,heard:=upN r.heard j (IK ⟨r.bal,vs⟩ (r.heard j).vs) }
def Rnd.accs(r:Rnd):List Acc:=[r.heard 0,r.heard 1,r.heard 2,r.heard 3,r.heard 4]
def Ng:Nat→Rnd→List Cmd→List Cmd
 | 0,_,l=>l
 | k+1,r,l=>if Db r.accs (l.length:Int)=0 then Ng k r (l++[Cv r.accs (l.length:Int)])else l
def Nod.learnC(N:Nod):Nod:={ N with agreed:=Ng 41 N.rnd N.agreed }
def Nod.learn(N:Nod)(slot:Nat)(what:List Cmd):Nod:={ N with agreed:=N.agreed++what.drop (N.agreed.length-slot) }
def Nod.count(N:Nod)(j:Nat)(v:Vt):Nod :=
 if v.b≠N.rnd.bal then N
 else if AX (N.rnd.heard j) v≠0 then N
 else Nod.learnC { N with rnd:={ N.rnd with heard:=upN N.rnd.heard j ⟨Ca (N.rnd.heard j) v,Dg (N.rnd.heard j) v⟩ } }
def O3(q:List Cmd):List Cmd→List Cmd
 | []=>q
 | c::l=>O3 (if q.length<40∧c∉q then q++[c]else q) l
def Nod.enqueue(N:Nod)(what:List Cmd):Nod:=if N.leads then{ N with rnd:={ N.rnd with queue:=O3 N.rnd.queue what } }else N
def DA(f:Cmd→Option Bal)(c:Cmd)(b:Option Bal):Cmd→Option Bal:=fun x=>if x=c then b else f x
def Nod.want(N:Nod)(c:Cmd):Nod:=if(N.asked c).isSome then N else{ N with wants:=N.wants++[c],asked:=DA N.asked c (some Cu) }
def Nod.unwant(N:Nod)(c:Cmd):Nod:=if(N.asked c).isSome then{ N with wants:=N.wants.erase c,asked:=DA N.asked c none }else N
def Da(b:Bal)(f:Cmd→Option Bal):List Cmd→List Cmd × (Cmd→Option Bal)
 | []=>([],f)
 | c::l=>if(f c).getD Cu≠b then(c::(Da b (DA f c (some b)) l).1,(Da b (DA f c (some b)) l).2)else Da b f l
def Nod.take(N:Nod)(l:Let):Nod :=
 match l.kind with
 | 0=>if(N.promise l.bal).2.2≠0 then N.refuse l.src (N.promise l.bal).2.2 else(N.promise l.bal).1.wait (.prom l.src l.bal (N.promise l.bal).2.1)
 | 1=>let K:=N.learn 0 l.what
  if K.leads=false∨l.bal≠K.rnd.bal∨K.rnd.pro l.src=true then K
  else Nod.learnC { K with rnd:={ K.rnd.hear l.src l.votes with taught:=upN K.rnd.taught l.src l.what.length } }
 | 2=>{ N with rounds:=max N.rounds l.bal.r }
 | 3=>if(N.vote l.vote).2≠0 then N.refuse l.src (N.vote l.vote).2 else(N.vote l.vote).1.wait (.voted l.src l.vote)
 | 4=>N.count l.src l.vote
 | 5=>if N.agreed.length<l.slot then N.wait (.askNews l.src)else N.learn l.slot l.what
 | 6=>let K:=N.enqueue l.what
  if l.slot<K.agreed.length then K.wait (.tell l.src l.slot)else K
 | _=>N
def Meet.come(M:Meet)(l:Let):Meet:=if(M.node l.dst).up then M.put l.dst ((M.node l.dst).take l)else M
def Nod.nextC(N:Nod)(slot:Nat):Option Cmd :=
 if Cq (N.rnd.accs.map (·.vs)) (slot:Int)≠0 then none
 else if Gc (N.rnd.accs.map (·.vs)) (slot:Int)then some (Hf (N.rnd.accs.map (·.vs)) (slot:Int))
 else N.rnd.queue.find? fun c=>decide (c∉N.agreed)
def Nod.propose(N:Nod):Nod :=
 if N.leads=false∨N.rnd.enough=false∨N.agreed.length<N.rnd.next then N
 else match N.nextC N.agreed.length with
  | none=>N
  | some c =>
   if(N.vote ⟨(N.agreed.length:Int),N.rnd.bal,c⟩).2≠0 then N
   else Nod.wait { (N.vote ⟨(N.agreed.length:Int),N.rnd.bal,c⟩).1 with rnd:={ N.rnd with next:=N.agreed.length+1 } } (.prop ⟨(N.agreed.length:Int),N.rnd.bal,c⟩)
def Nod.lead(N:Nod)(i:Nat):Nod :=
 let b:Bal:=⟨max N.rounds N.vo.p.r+1,(i:Int)⟩
 if(N.promise b).2.2≠0 then N
 else Nod.wait { (N.promise b).1 with rnd:=⟨b,fun _=>false,fun _=>Eg,fun _=>N.agreed.length,0,[]⟩ } (.began b (N.promise b).2.1)
def Nod.crash(N:Nod)(k:Int):Nod:=if Jl N.d N.sy k≠0 then N else N.bare false (Ls N.d N.sy k) (Lt N.d N.sy k) Eg []
def Nod.start(N:Nod):Nod :=
 if CZ N.d N.sy≠0 then N
 else if Pq N.d N.sy<(N.d.length:Int)then N.bare true (LC N.d N.sy) (Ns N.d N.sy) (G3 N.d N.sy) [.start]
 else N.bare true N.d N.sy (G3 N.d N.sy) [.start]
def Meet.move(M:Meet)(k:Int)(at_:Nat):Meet :=
 match M.lets[at_%M.lets.length]? with
 | none=>M
 | some l =>
  let A:=if k≠6 then{ M with lets:=M.lets.eraseIdx (at_%M.lets.length) }else M
  if k≠5 then A.come l else A
def Meet.comeAll(M:Meet):Meet:=M.lets.foldl (fun M l=>M.come l) { M with lets:=[] }
end
section
open Go.RowKit
def stA(s:Sto):Array Value:=#[.int .i64 (s.V 0),.int .i64 (s.V 1),.int .i64 (s.V 2),.int .i64 (s.V 3),.int .i64 (s.V 4),.int .i64 (s.V 5),.int .i64 (s.V 6),.int .i64 (s.V 7),.int .i64 (s.L 0),.int .i64 (s.L 1),.int .i64 (s.L 2),.int .i64 (s.L 3),.int .i64 (s.L 4),.int .i64 (s.L 5),.int .i64 (s.L 6),.int .i64 (s.L 7),.int .i64 (s.C 0),.int .i64 (s.A 0),.int .i64 (s.C 1),.int .i64 (s.A 1),.int .i64 (s.C 2),.int .i64 (s.A 2),.int .i64 (s.C 3),.int .i64 (s.A 3),.int .i64 (s.C 4),.int .i64 (s.A 4),.int .i64 (s.C 5),.int .i64 (s.A 5),.int .i64 (s.C 6),.int .i64 (s.A 6),.int .i64 (s.C 7),.int .i64 (s.A 7),.bool (s.R 0),.bool (s.R 1),.bool (s.R 2),.bool (s.R 3),.bool (s.R 4),.bool (s.R 5),.bool (s.R 6),.bool (s.R 7)]
theorem fF(s:Sto)(i:Nat)(h:i<8):(stA s)[i]?=some (.int .i64 (s.V i)):=by
 rcases(by omega:i=0∨i=1∨i=2∨i=3∨i=4∨i=5∨i=6∨i=7)with rfl|rfl|rfl|rfl|rfl|rfl|rfl|rfl<;>rfl
theorem fE(s:Sto)(i:Nat)(h:i<8):(stA s)[8+i]?=some (.int .i64 (s.L i)):=by
 rcases(by omega:i=0∨i=1∨i=2∨i=3∨i=4∨i=5∨i=6∨i=7)with rfl|rfl|rfl|rfl|rfl|rfl|rfl|rfl<;>rfl
theorem fD(s:Sto)(i:Nat)(h:i<8):(stA s)[16+i*2]?=some (.int .i64 (s.C i)):=by
 rcases(by omega:i=0∨i=1∨i=2∨i=3∨i=4∨i=5∨i=6∨i=7)with rfl|rfl|rfl|rfl|rfl|rfl|rfl|rfl<;>rfl
theorem fC(s:Sto)(i:Nat)(h:i<8):(stA s)[16+i*2+1]?=some (.int .i64 (s.A i)):=by
 rcases(by omega:i=0∨i=1∨i=2∨i=3∨i=4∨i=5∨i=6∨i=7)with rfl|rfl|rfl|rfl|rfl|rfl|rfl|rfl<;>rfl
def Bs(w:World)(g:Nat)(s:Sto):Prop:=w.heap[g]?=some (.cells (stA s) 105)
theorem Bs.cellV{w:World}{g:Nat}{s:Sto}(h:Bs w g s)(i:Nat)(hi:i<8):w.cell? ⟨g,i,none⟩=some (.int .i64 (s.V i)):=(cell_of_row _ _ i _ _ _ h).trans (fF s i hi)
theorem Bs.cellL{w:World}{g:Nat}{s:Sto}(h:Bs w g s)(i:Nat)(hi:i<8):w.cell? ⟨g,8+i,none⟩=some (.int .i64 (s.L i)):=(cell_of_row _ _ (8+i) _ _ _ h).trans (fE s i hi)
theorem Bs.cellC{w:World}{g:Nat}{s:Sto}(h:Bs w g s)(i:Nat)(hi:i<8):w.cell? ⟨g,16+i*2,none⟩=some (.int .i64 (s.C i)):=(cell_of_row _ _ (16+i*2) _ _ _ h).trans (fD s i hi)
theorem Bs.cellA{w:World}{g:Nat}{s:Sto}(h:Bs w g s)(i:Nat)(hi:i<8):w.cell? ⟨g,16+i*2+1,none⟩=some (.int .i64 (s.A i)):=(cell_of_row _ _ (16+i*2+1) _ _ _ h).trans (fC s i hi)
theorem cS(a b a' b':Int):∀ w,(binOp .neq 37 (.agg #[.int .i64 a,.int .i64 b]) (.agg #[.int .i64 a',.int .i64 b'])).run prog w=.ok (.bool (!decide (a=a'∧b=b'))) w:=by
 intro w;rw[run_neq_struct,run_equalIn_agg w 9999 _ _ _ (by kernel_rfl) (by kernel_rfl)];unfold Program.fieldsOf;rw[underlying37];have h3:=underlying3;have hE:=underlying35;simp[Op.eqFields,go_sem,h3,hE]
 repeat' split
 all_goals simp_all
theorem Zb(a b:Int):∀ w,(binOp .neq 37 (.agg #[.int .i64 a,.int .i64 b]) (.agg #[.int .i64 0,.int .i64 0])).run prog w=.ok (.bool (!decide (a=0∧b=0))) w:=cS a b 0 0
def vaL(f:Nat→Int):List Value:=[.int .i64 (f 0),.int .i64 (f 1),.int .i64 (f 2),.int .i64 (f 3),.int .i64 (f 4),.int .i64 (f 5),.int .i64 (f 6),.int .i64 (f 7)]
def vaA(f:Nat→Int):Array Value:=(vaL f).toArray
theorem XT(f:Nat→Int)(j:Nat)(u:Value)(h:(vaL f)[j]?=some u):j<8∧u=.int .i64 (f j):=by
 have hj:j<8:=(List.getElem?_eq_some_iff.1 h).1;refine⟨hj,?_⟩;rcases(by omega:j=0∨j=1∨j=2∨j=3∨j=4∨j=5∨j=6∨j=7)with rfl|rfl|rfl|rfl|rfl|rfl|rfl|rfl<;>(simp[vaL]at h;exact h.symm)
theorem Bs.rangeV{w:World}{g:Nat}{s:Sto}(h:Bs w g s):w.rangeAt g 0 (vaL s.V):=by
 intro j u hj;obtain⟨h1,rfl⟩:=XT _ _ _ hj;rw[Nat.zero_add];exact h.cellV j h1
theorem Bs.rangeL{w:World}{g:Nat}{s:Sto}(h:Bs w g s):w.rangeAt g 8 (vaL s.L):=by
 intro j u hj;obtain⟨h1,rfl⟩:=XT _ _ _ hj;exact h.cellL j h1
theorem dQ(f:Nat→Int):(prog.info? 101).map (·.size)=some (vaL f).length:=by show _=some 8;kernel_rfl
theorem F8{ops:Array Oper}{rest:List Oper}{op:Oper}{a:Act}{w:World}{Q:Exit→Act→World→Prop}(hgd:op.guard=none)(x:Operand)(ho:op.op=.load 101 x)
  (b o:Nat)(hx:a.eval x=.pointer (some ⟨b,o,none⟩))(f:Nat→Int)(hc:w.rangeAt b o (vaL f))
  (h:wpList prog ops Q rest (a.put op.dst (.agg (vaA f))) w):wpList prog ops Q (op::rest) a w :=
 wpList_load_mid hgd 101 x ho b o hx (vaL f) _ hc underlying101 rfl (dQ f) h
theorem SH(f:Nat→Int)(i:Nat)(hi:i<8)(w:World):(Instr.index 101 (.agg (vaA f)) (.int .i64 (i:Int))).run prog w=.ok (.int .i64 (f i)) w:=by
 rcases(by omega:i=0∨i=1∨i=2∨i=3∨i=4∨i=5∨i=6∨i=7)with rfl|rfl|rfl|rfl|rfl|rfl|rfl|rfl<;>kernel_rfl
structure NX where
 tape:S3
 votes:S3
 synced:S3
 queue:S3
 agreed:S3
 wants:S3
 hv:Nat→S3
 asked:Option Nat
def Ax(i ob:Nat)(p:Nod)(x:NX):Array Value:=([iv (i:Int),.bool p.up,S3.v x.tape,iv p.sy,iv (p.bad:Int),pt ob 0,iv p.vo.p.r,iv p.vo.p.n,S3.v x.votes,S3.v x.synced,iv p.rounds,iv p.rnd.bal.r,iv p.rnd.bal.n,.bool (p.rnd.pro 0),.bool (p.rnd.pro 1),.bool (p.rnd.pro 2),.bool (p.rnd.pro 3),.bool (p.rnd.pro 4),iv ((p.rnd.heard 0).p.r),iv ((p.rnd.heard 0).p.n),S3.v (x.hv 0),iv ((p.rnd.heard 1).p.r),iv ((p.rnd.heard 1).p.n),S3.v (x.hv 1),iv ((p.rnd.heard 2).p.r),iv ((p.rnd.heard 2).p.n),S3.v (x.hv 2),iv ((p.rnd.heard 3).p.r),iv ((p.rnd.heard 3).p.n),S3.v (x.hv 3),iv ((p.rnd.heard 4).p.r),iv ((p.rnd.heard 4).p.n),S3.v (x.hv 4),iv (p.rnd.taught 0:Int),iv (p.rnd.taught 1:Int),iv (p.rnd.taught 2:Int),iv (p.rnd.taught 3:Int),iv (p.rnd.taught 4:Int),iv (p.rnd.next:Int),S3.v x.queue,S3.v x.agreed,iv (p.done:Int)]++((stA p.sto).toList++[S3.v x.wants,.map x.asked])).toArray
def E6(l:Let)(vs wh:S3):Array Value:=#[iv (l.kind:Int),iv (l.src:Int),iv (l.dst:Int),iv l.bal.r,iv l.bal.n,iv l.vote.slot,iv l.vote.b.r,iv l.vote.b.n,iv l.vote.w.k,iv l.vote.w.c,iv l.vote.w.s,iv l.vote.w.n,iv l.vote.w.v,S3.v vs,iv (l.slot:Int),S3.v wh]
def Dk(t:Tol):List Value:=[iv (t.n:Int),iv t.c,iv t.s,iv t.e,iv t.a]
def cmV(c:Cmd):List Value:=[iv c.k,iv c.c,iv c.s,iv c.n,iv c.v]
def cmL(l:List Cmd):List Value:=l.flatMap cmV
theorem BM(l m:List Cmd):cmL (l++m)=cmL l++cmL m:=by simp[cmL]
theorem Bi(l:List Cmd):(cmL l).length=l.length*5:=by
 induction l with
 | nil=>rfl
 | cons c l ih=>rw[cmL,List.flatMap_cons,List.length_append];show 5+(cmL l).length=_;rw[ih,List.length_cons];omega
theorem MU(l:List Cmd):∀ u∈cmL l,u.oneCell'=true:=by
 intro u hu;obtain⟨c,_,hc⟩:=List.mem_flatMap.1 hu;simp only[cmV,List.mem_cons,List.not_mem_nil,or_false]at hc;rcases hc with rfl|rfl|rfl|rfl|rfl<;>rfl
theorem MT{l:List Cmd}{k:Nat}{c:Cmd}(h:l[k]?=some c){j:Nat}{u:Value}(hj:(cmV c)[j]?=some u):(cmL l)[5*k+j]?=some u:=by
 induction l generalizing k with
 | nil=>cases h
 | cons d l ih =>
  rw[cmL,List.flatMap_cons];cases k with
  | zero =>
   simp only[List.getElem?_cons_zero,Option.some.injEq]at h;subst h;rw[List.getElem?_append_left (by have:=(List.getElem?_eq_some_iff.1 hj).1;omega)];simpa using hj
  | succ k =>
   rw[List.getElem?_append_right (by show 5≤_;omega),show 5*(k+1)+j-(cmV d).length=5*k+j by show 5*(k+1)+j-5=_;omega];exact ih (by simpa using h)
theorem JV(l:List Cmd)(k:Nat):(cmL l).drop (5*k)=cmL (l.drop k):=by
 induction l generalizing k with
 | nil=>simp[cmL]
 | cons c l ih =>
  cases k with
  | zero=>simp
  | succ k =>
   show(cmV c++cmL l).drop (5*(k+1))=cmL (l.drop k);rw[← ih k,List.drop_append,show(cmV c).drop (5*(k+1))=[]from List.drop_eq_nil_of_le (by show 5≤_;omega),List.nil_append,show 5*(k+1)-(cmV c).length=5*k by show 5*(k+1)-5=_;omega]
def Frz(g:Gh)(x:S3):Prop:=∀ a,x.a=some a→g.t a.block=.z
structure FSl(g:Gh)(w:World)(x:S3)(l:List Int):Prop where
 s:Sl w x.v l
 z:l≠[]→Frz g x
structure FSv(g:Gh)(w:World)(x:S3)(l:List Vt):Prop where
 s:Sv w x.v l
 z:l≠[]→Frz g x
section
variable{B:Nat}{T:List Tg}{g g':Gh}{w w':World}
theorem Cg.zc(c:Cg B T g w g' w')(hz:Tg.z∉T){b:Nat}(hb:b<w.heap.size)(ht:g.t b=.z):w'.heap[b]?=w.heap[b]?:=c.same b hb (by rw[ht];exact hz) (fun h=>by rw[ht]at h;cases h)
theorem FSl.ch{x:S3}{l:List Int}(h:FSl g w x l)(c:Cg B T g w g' w')(hz:Tg.z∉T:=by simp):FSl g' w' x l:=by
 obtain⟨⟨⟨a,cap,hv,hc,hn,h1⟩,h2,h3⟩,h4⟩:=h;simp only[Value.slice.injEq]at hv;obtain⟨rfl,hxn,rfl⟩:=hv;rcases h1 with h1|⟨b,off,ha,hbs,hcell⟩
 ·exact⟨⟨⟨_,_,by simp only[Value.slice.injEq,and_true,true_and];exact hxn,hc,hn,.inl h1⟩,h2,h3⟩,fun h=>absurd h1 h⟩
 ·have hne:∀ _:l≠[],g.t b=.z:=fun h=>h4 h _ ha;by_cases hl:l=[]
  ·exact⟨⟨⟨_,_,by simp only[Value.slice.injEq,and_true,true_and];exact hxn,hc,hn,.inl hl⟩,h2,h3⟩,fun h=>absurd hl h⟩
  ·refine⟨⟨⟨_,_,by simp only[Value.slice.injEq,and_true,true_and];exact hxn,hc,hn,.inr ⟨b,off,ha,Nat.lt_of_lt_of_le hbs c.size,fun i hi=>?_⟩⟩,h2,h3⟩,fun _ a' ha'=>?_⟩
   ·rw[World.cell?_of_block (w:=w) (c.zc hz hbs (hne hl))];exact hcell i hi
   ·rw[ha]at ha';simp only[Option.some.injEq]at ha';subst ha';rw[c.tag hbs (fun h=>absurd ((hne hl).symm.trans h) (by simp))];exact hne hl
theorem FSv.ch{x:S3}{l:List Vt}(h:FSv g w x l)(c:Cg B T g w g' w')(hz:Tg.z∉T:=by simp):FSv g' w' x l:=by
 obtain⟨⟨⟨a,cap,hv,hc,hn,h1⟩,h2⟩,h4⟩:=h;simp only[Value.slice.injEq]at hv;obtain⟨rfl,hxn,rfl⟩:=hv;rcases h1 with h1|⟨b,off,ha,hbs,hcell⟩
 ·exact⟨⟨⟨_,_,by simp only[Value.slice.injEq,and_true,true_and];exact hxn,hc,hn,.inl h1⟩,h2⟩,fun h=>absurd h1 h⟩
 ·by_cases hl:l=[]
  ·exact⟨⟨⟨_,_,by simp only[Value.slice.injEq,and_true,true_and];exact hxn,hc,hn,.inl hl⟩,h2⟩,fun h=>absurd hl h⟩
  ·have hzb:g.t b=.z:=h4 hl _ ha;refine⟨⟨⟨_,_,by simp only[Value.slice.injEq,and_true,true_and];exact hxn,hc,hn,.inr ⟨b,off,ha,Nat.lt_of_lt_of_le hbs c.size,fun i v hi j u hj=>?_⟩⟩,h2⟩,fun _ a' ha'=>?_⟩
   ·rw[World.cell?_of_block (w:=w) (c.zc hz hbs hzb)];exact hcell i v hi j u hj
   ·rw[ha]at ha';simp only[Option.some.injEq]at ha';subst ha';rw[c.tag hbs (fun h=>absurd (hzb.symm.trans h) (by simp))];exact hzb
structure Rc(g:Gh)(w:World)(x:S3)(l:List Cmd):Prop where
 len:x.n=l.length
 cap:x.n≤x.c
 nul:x.a=none→x.c=0
 ex:l=[]∨∃ b off,x.a=some ⟨b,off,none⟩∧b<w.heap.size∧(∀ j u,(cmL l)[j]?=some u→w.cell? ⟨b,off+j,none⟩=some u)∧(g.t b=.z∨off+5*l.length≤g.k b)
theorem Rc.nil(g:Gh)(w:World):Rc g w s30 []:=⟨rfl,Nat.le_refl _,fun _=>rfl,.inl rfl⟩
theorem Rc.ch{x:S3}{l:List Cmd}(h:Rc g w x l)(c:Cg B T g w g' w')(hz:Tg.z∉T:=by simp):Rc g' w' x l:=by
 refine⟨h.len,h.cap,h.nul,?_⟩;rcases h.ex with h1|⟨b,off,h1,h2,h3,h4⟩
 ·exact .inl h1
 ·refine .inr ⟨b,off,h1,Nat.lt_of_lt_of_le h2 c.size,fun j u hj=>?_,?_⟩
  ·rcases h4 with h4|h4
   ·rw[World.cell?_of_block (w:=w) (c.zc hz h2 h4)];exact h3 j u hj
   ·have hjl:j<(cmL l).length:=(List.getElem?_eq_some_iff.1 hj).1;rw[Bi]at hjl
    rw[c.pref b h2 (off+j) (by omega)];exact h3 j u hj
  ·rcases h4 with h4|h4
   ·exact .inl ((c.tag h2 (by rw[h4];intro h;cases h)).trans h4)
   ·exact .inr (Nat.le_trans h4 (c.kap b h2))
structure Box(g:Gh)(w:World)(b:Nat)(cs:Array Value)(t:TypeId):Prop where
 r:w.heap[b]?=some (.cells cs t)
 z:g.t b=.z
theorem Box.ch{b:Nat}{cs:Array Value}{t:TypeId}(h:Box g w b cs t)(c:Cg B T g w g' w')(hz:Tg.z∉T:=by simp):Box g' w' b cs t:=⟨(c.zc hz (rl h.r) h.z).trans h.r,(c.tag (rl h.r) (by rw[h.z];intro h;cases h)).trans h.z⟩
def BZ(g:Gh)(w:World)(b:Nat)(l:Let):Prop:=∃ vs wh,Box g w b (E6 l vs wh) 164∧FSv g w vs l.votes∧Rc g w wh l.what
theorem BZ.ch{b:Nat}{l:Let}(h:BZ g w b l)(c:Cg B T g w g' w')(hz:Tg.z∉T:=by simp):BZ g' w' b l:=let ⟨vs,wh,h1,h2,h3⟩:=h;⟨vs,wh,h1.ch c hz,h2.ch c hz,h3.ch c hz⟩
def JI(g:Gh)(w:World)(nb:Nat)(v:Value):Pend→Prop
 | .began b vs=>∃ b1 b2 b3 x,v=.func (.func 75) #[] #[pt b1 0,pt b2 0,pt b3 0]∧Box g w b1 #[pt nb 0] 87∧Box g w b2 #[iv b.r,iv b.n] 92∧Box g w b3 #[S3.v x] 93∧FSv g w x vs
 | .prom to b vs=>∃ b1 b2 b3 x lb l,v=.func (.func 101) #[] #[pt b1 0,pt b2 0,pt b3 0]∧Box g w b1 #[pt nb 0] 87∧Box g w b2 #[pt lb 0] 165∧Box g w b3 #[S3.v x] 93∧FSv g w x vs∧BZ g w lb l∧l.src=to∧l.bal=b
 | .voted to u=>∃ b1 b2 lb l,v=.func (.func 107) #[] #[pt b1 0,pt b2 0]∧Box g w b1 #[pt nb 0] 87∧Box g w b2 #[pt lb 0] 165∧BZ g w lb l∧l.src=to∧l.vote=u
 | .refuse to b=>∃ b1 b2 b3,v=.func (.func 141) #[] #[pt b1 0,pt b2 0,pt b3 0]∧Box g w b1 #[pt nb 0] 87∧Box g w b2 #[iv (to:Int)] 3∧Box g w b3 #[iv b.r,iv b.n] 92
 | .prop u=>∃ b1 b2,v=.func (.func 122) #[] #[pt b1 0,pt b2 0]∧Box g w b1 #[pt nb 0] 87∧Box g w b2 (vtA u) 162
 | .askNews to=>∃ b1 b2 lb l,v=.func (.func 109) #[] #[pt b1 0,pt b2 0]∧Box g w b1 #[pt nb 0] 87∧Box g w b2 #[pt lb 0] 165∧BZ g w lb l∧l.src=to
 | .start=>∃ b1,v=.func (.func 88) #[] #[pt b1 0]∧Box g w b1 #[pt nb 0] 87
 | .tell to slot=>∃ b1 b2 lb l,v=.func (.func 111) #[] #[pt b1 0,pt b2 0]∧Box g w b1 #[pt nb 0] 87∧Box g w b2 #[pt lb 0] 165∧BZ g w lb l∧l.src=to∧l.slot=slot
theorem JI.ch{nb:Nat}{v:Value}{q:Pend}(h:JI g w nb v q)(c:Cg B T g w g' w')(hz:Tg.z∉T:=by simp):JI g' w' nb v q:=by
 cases q with
 | began b vs=>obtain⟨b1,b2,b3,x,e,h1,h2,h3,h4⟩:=h;exact⟨b1,b2,b3,x,e,h1.ch c hz,h2.ch c hz,h3.ch c hz,h4.ch c hz⟩
 | prom to b vs=>obtain⟨b1,b2,b3,x,lb,l,e,h1,h2,h3,h4,h5,h6⟩:=h;exact⟨b1,b2,b3,x,lb,l,e,h1.ch c hz,h2.ch c hz,h3.ch c hz,h4.ch c hz,h5.ch c hz,h6⟩
 | voted to u=>obtain⟨b1,b2,lb,l,e,h1,h2,h3,h4⟩:=h;exact⟨b1,b2,lb,l,e,h1.ch c hz,h2.ch c hz,h3.ch c hz,h4⟩
 | refuse to b=>obtain⟨b1,b2,b3,e,h1,h2,h3⟩:=h;exact⟨b1,b2,b3,e,h1.ch c hz,h2.ch c hz,h3.ch c hz⟩
 | prop u=>obtain⟨b1,b2,e,h1,h2⟩:=h;exact⟨b1,b2,e,h1.ch c hz,h2.ch c hz⟩
 | askNews to=>obtain⟨b1,b2,lb,l,e,h1,h2,h3,h4⟩:=h;exact⟨b1,b2,lb,l,e,h1.ch c hz,h2.ch c hz,h3.ch c hz,h4⟩
 | start=>obtain⟨b1,e,h1⟩:=h;exact⟨b1,e,h1.ch c hz⟩
 | tell to slot=>obtain⟨b1,b2,lb,l,e,h1,h2,h3,h4⟩:=h;exact⟨b1,b2,lb,l,e,h1.ch c hz,h2.ch c hz,h3.ch c hz,h4⟩
def mkA(x:Cmd × Bal × Nat):MapEntry:={ key:=.agg (cmV x.1).toArray,val:=.agg #[iv x.2.1.r,iv x.2.1.n],born:=x.2.2 }
structure AskAt(g:Gh)(w:World)(τ:Tg)(b:Nat)(f:Cmd→Option Bal):Prop where
 t:g.t b=τ
 k:g.k b=0
 ex:∃ (es:List (Cmd × Bal × Nat)) (clock:Nat),w.heap[b]?=some (.map (es.map mkA).toArray clock)∧(∀ x∈es,x.2.2<clock)∧(es.map (·.2.2)).Nodup∧(es.map (·.1)).Nodup∧∀ c,f c=(es.find? fun x=>decide (c=x.1)).map (·.2.1)
def UN(g:Gh)(w:World)(i:Nat)(f:Cmd→Option Bal):Option Nat→Prop
 | some b=>AskAt g w (.n 5 i) b f
 | none=>f=fun _=>none
structure Pends(g:Gh)(w:World)(nb:Nat)(vs:List Value)(l:List Pend):Prop where
 len:vs.length=l.length
 at_:∀ (k:Nat) (v:Value) (q:Pend),vs[k]?=some v→l[k]?=some q→JI g w nb v q
structure NodeAt(g:Gh)(w:World)(i nb ob:Nat)(x:NX)(p:Nod):Prop where
 row:w.heap[nb]?=some (.cells (Ax i ob p x) 113)
 tag:g.t nb=.n 0 i
 kap:g.k nb=0
 tape:FSl g w x.tape p.d
 votes:FSv g w x.votes p.vo.vs
 heard:∀ j,j<5→FSv g w (x.hv j) (p.rnd.heard j).vs
 pend:∃ vs,OwnS g w (.n 1 i) true 1 1 x.synced vs∧Pends g w nb vs p.pend
 queue:OwnS g w (.n 2 i) false 44 5 x.queue (cmL p.rnd.queue)
 agreed:OwnS g w (.n 3 i) true 44 5 x.agreed (cmL p.agreed)
 wants:OwnS g w (.n 4 i) false 44 5 x.wants (cmL p.wants)
 asked:UN g w i p.asked x.asked
 upm:p.up=true→∃ b,x.asked=some b
structure Lets(g:Gh)(w:World)(bs:List Nat)(l:List Let):Prop where
 len:bs.length=l.length
 at_:∀ (k b:Nat) (m:Let),bs[k]?=some b→l[k]?=some m→BZ g w b m
structure OutAt(g:Gh)(w:World)(ob:Nat)(lt tl:S3)(ls:List Let)(ts:List Tol):Prop where
 row:w.heap[ob]?=some (.cells #[lt.v,tl.v] 84)
 tag:g.t ob=.n 50 0
 kap:g.k ob=0
 lets:∃ bs,OwnS g w (.n 51 0) false 165 1 lt (bs.map (pt · 0))∧Lets g w bs ls
 told:OwnS g w (.n 52 0) false 39 5 tl (ts.flatMap Dk)
theorem Pends.ch{nb:Nat}{vs:List Value}{l:List Pend}(h:Pends g w nb vs l)(c:Cg B T g w g' w')(hz:Tg.z∉T:=by simp):Pends g' w' nb vs l:=⟨h.len,fun k v q h1 h2=>(h.at_ k v q h1 h2).ch c hz⟩
theorem Lets.ch{bs:List Nat}{l:List Let}(h:Lets g w bs l)(c:Cg B T g w g' w')(hz:Tg.z∉T:=by simp):Lets g' w' bs l:=⟨h.len,fun k v q h1 h2=>(h.at_ k v q h1 h2).ch c hz⟩
theorem Lets.snoc{bs:List Nat}{l:List Let}{b:Nat}{m:Let}(h:Lets g w bs l)(hm:BZ g w b m):Lets g w (bs++[b]) (l++[m]):=by
 refine⟨by simp[h.len],fun k c q h1 h2=>?_⟩;by_cases hk:k<bs.length
 ·rw[List.getElem?_append_left hk]at h1
  rw[List.getElem?_append_left (by rw[← h.len];exact hk)]at h2
  exact h.at_ k c q h1 h2
 ·rw[List.getElem?_append_right (by omega)]at h1
  rw[List.getElem?_append_right (by rw[← h.len];omega),← h.len]at h2
  cases hx:k-bs.length with
  | zero=>rw[hx]at h1 h2;simp at h1 h2;subst h1 h2;exact hm
  | succ n=>rw[hx]at h1;simp at h1
theorem Cg.rc(c:Cg B T g w g' w'){b:Nat}{o:Obj}{r i:Nat}(h:w.heap[b]?=some o)(ht:g.t b=.n r i)(hn:Tg.n r i∉T):w'.heap[b]?=some o∧g'.t b=.n r i∧g'.k b=g.k b :=
 ⟨(c.same b (rl h) (by rw[ht];exact hn) (fun h=>by rw[ht]at h;cases h)).trans h,(c.tag (rl h) (by rw[ht];intro h;cases h)).trans ht,c.kat b (rl h) (by rw[ht];exact hn) (by rw[ht];intro h;cases h)⟩
theorem AskAt.ch{r i b:Nat}{f:Cmd→Option Bal}(h:AskAt g w (.n r i) b f)(c:Cg B T g w g' w')(hn:Tg.n r i∉T:=by simp):AskAt g' w' (.n r i) b f:=by
 obtain⟨h1,h2,es,k,h3,h4⟩:=h;have h5:=c.rc h3 h1 hn;exact⟨h5.2.1,h5.2.2.trans h2,es,k,h5.1,h4⟩
theorem UN.ch{i:Nat}{a:Option Nat}{f:Cmd→Option Bal}(h:UN g w i f a)(c:Cg B T g w g' w')(hn:Tg.n 5 i∉T:=by simp):UN g' w' i f a:=by
 cases a with
 | none=>exact h
 | some b=>exact AskAt.ch h c hn
theorem NodeAt.ch{i nb ob:Nat}{x:NX}{p:Nod}(h:NodeAt g w i nb ob x p)(c:Cg B T g w g' w')(hz:Tg.z∉T:=by simp)(hn:∀ r,r<6→Tg.n r i∉T:=by simp):NodeAt g' w' i nb ob x p:=by
 have h1:=c.rc h.row h.tag (hn 0 (by omega));obtain⟨vs,h2,h3⟩:=h.pend;exact⟨h1.1,h1.2.1,h1.2.2.trans h.kap,h.tape.ch c hz,h.votes.ch c hz,fun j hj=>(h.heard j hj).ch c hz,⟨vs,h2.ch c (hn 1 (by omega)) (by simp),h3.ch c hz⟩,h.queue.ch c (hn 2 (by omega)) (by simp),h.agreed.ch c (hn 3 (by omega)) (by simp),h.wants.ch c (hn 4 (by omega)) (by simp),h.asked.ch c (hn 5 (by omega)),h.upm⟩
theorem OutAt.ch{ob:Nat}{lt tl:S3}{ls:List Let}{ts:List Tol}(h:OutAt g w ob lt tl ls ts)(c:Cg B T g w g' w')(hz:Tg.z∉T:=by simp)(hn:∀ r,50≤r→Tg.n r 0∉T:=by simp):OutAt g' w' ob lt tl ls ts:=by
 have h1:=c.rc h.row h.tag (hn 50 (by omega));obtain⟨bs,h2,h3⟩:=h.lets;exact⟨h1.1,h1.2.1,h1.2.2.trans h.kap,⟨bs,h2.ch c (hn 51 (by omega)) (by simp),h3.ch c hz⟩,h.told.ch c (hn 52 (by omega)) (by simp)⟩
end
def TN(i:Nat):List Tg:=[.n 0 i,.n 1 i,.n 2 i,.n 3 i,.n 4 i,.n 5 i,.n 50 0,.n 51 0,.n 52 0,.n 60 0]
theorem AW(i:Nat):Tg.z∉TN i:=by simp[TN]
def NS(i nb ob:Nat)(g:Gh)(w:World)(p:Nod)(ls:List Let)(ts:List Tol):Prop:=∃ x lt tl,NodeAt g w i nb ob x p∧OutAt g w ob lt tl ls ts∧H8 g w
theorem nsC{B B':Nat}{T:List Tg}{g g':Gh}{w w':World}{i nb ob:Nat}{x:NX}{p:Nod}{lt tl:S3}{ls:List Let}{ts:List Tol}{L:List Sh}(hN:NodeAt g w i nb ob x p)(hO:OutAt g w ob lt tl ls ts)(C:Cg B T g w g' w')(K:Kn B' g' w' L)(hz:Tg.z∉T:=by simp)(hn:∀ r,r<6→Tg.n r i∉T:=by simp)(ho:∀ r,50≤r→Tg.n r 0∉T:=by simp):NS i nb ob g' w' p ls ts:=⟨x,lt,tl,hN.ch C hz hn,hO.ch C hz ho,K.new⟩
def NP(i nb ob:Nat)(g:Gh)(w:World)(v:Value)(p:Nod)(ls:List Let)(ts:List Tol):Ending→World→Prop:=fun e w'=>∃ g',e=.returned v∧NS i nb ob g' w' p ls ts∧Cg w.heap.size (TN i) g w g' w'
theorem NS.new{i nb ob:Nat}{g:Gh}{w:World}{p:Nod}{ls:List Let}{ts:List Tol}(h:NS i nb ob g w p ls ts):H8 g w:=let ⟨_,_,_,_,_,h⟩:=h;h
theorem NS.below{i nb ob:Nat}{g:Gh}{w w':World}{p:Nod}{ls:List Let}{ts:List Tol}(h:NS i nb ob g w p ls ts)(b:Bw w w'):NS i nb ob g w' p ls ts :=
 let ⟨x,lt,tl,h1,h2,h3⟩:=h
 have c:=Cg.ofBelow (B:=0) (T:=[]) (g:=g) b
 ⟨x,lt,tl,h1.ch c,h2.ch c,fun k hk=>h3 k (Nat.le_trans b.size hk)⟩
theorem NS.ch0{i nb ob:Nat}{B:Nat}{g g':Gh}{w w':World}{p:Nod}{ls:List Let}{ts:List Tol}(h:NS i nb ob g w p ls ts)(c:Cg B [] g w g' w')(hn:H8 g' w'):NS i nb ob g' w' p ls ts :=
 let ⟨x,lt,tl,h1,h2,_⟩:=h
 ⟨x,lt,tl,h1.ch c,h2.ch c,hn⟩
theorem NodeAt.askSome{g:Gh}{w:World}{i nb ob b:Nat}{x:NX}{p:Nod}(h:NodeAt g w i nb ob x p)(hx:x.asked=some b):AskAt g w (.n 5 i) b p.asked:=by have:=h.asked;rw[hx]at this;exact this
theorem B2{B:Nat}{T:List Tg}{g g':Gh}{w w':World}{i nb:Nat}{x:S3}{l:List Pend}(h:∃ vs,OwnS g w (.n 1 i) true 1 1 x vs∧Pends g w nb vs l)(c:Cg B T g w g' w')(hz:Tg.z∉T:=by simp)(hn:Tg.n 1 i∉T:=by simp):∃ vs,OwnS g' w' (.n 1 i) true 1 1 x vs∧Pends g' w' nb vs l :=
 let ⟨vs,h1,h2⟩:=h
 ⟨vs,h1.ch c hn (by simp),h2.ch c hz⟩
theorem Dh{B:Nat}{T:List Tg}{g g':Gh}{w w':World}{x:S3}{l:List Let}(h:∃ bs:List Nat,OwnS g w (.n 51 0) false 165 1 x (bs.map (pt · 0))∧Lets g w bs l)(c:Cg B T g w g' w')(hz:Tg.z∉T:=by simp)(hn:Tg.n 51 0∉T:=by simp):∃ bs:List Nat,OwnS g' w' (.n 51 0) false 165 1 x (bs.map (pt · 0))∧Lets g' w' bs l :=
 let ⟨bs,h1,h2⟩:=h
 ⟨bs,h1.ch c hn (by simp),h2.ch c hz⟩
theorem Ba{B:Nat}{T:List Tg}{g g':Gh}{w w':World}{hv:Nat→S3}{f:Nat→Acc}(h:∀ j,j<5→FSv g w (hv j) (f j).vs)(c:Cg B T g w g' w')(hz:Tg.z∉T:=by simp):∀ j,j<5→FSv g' w' (hv j) (f j).vs:=fun j hj=>(h j hj).ch c hz
theorem Pends.snoc{g:Gh}{w:World}{nb:Nat}{vs:List Value}{l:List Pend}{v:Value}{q:Pend}(h:Pends g w nb vs l)(hm:JI g w nb v q):Pends g w nb (vs++[v]) (l++[q]):=by
 refine⟨by simp[h.len],fun k c m h1 h2=>?_⟩;by_cases hk:k<vs.length
 ·rw[List.getElem?_append_left hk]at h1
  rw[List.getElem?_append_left (by rw[← h.len];exact hk)]at h2
  exact h.at_ k c m h1 h2
 ·rw[List.getElem?_append_right (by omega)]at h1
  rw[List.getElem?_append_right (by rw[← h.len];omega),← h.len]at h2
  cases hx:k-vs.length with
  | zero=>rw[hx]at h1 h2;simp at h1 h2;subst h1 h2;exact hm
  | succ n=>rw[hx]at h1;simp at h1
theorem OwnS.num{g:Gh}{w:World}{τ:Tg}{kp:Bool}{e:TypeId}{x:S3}{l:List Cmd}(h:OwnS g w τ kp e 5 x (cmL l)):x.n=l.length:=by have:=h.len;rw[Bi]at this;omega
theorem OwnS.rc{g:Gh}{w:World}{τ:Tg}{e:TypeId}{x:S3}{l:List Cmd}(h:OwnS g w τ true e 5 x (cmL l)):Rc g w x l:=by
 have hn:=h.num;rcases h.ex with⟨h1,h2,h3⟩|⟨b,cur,h1,h2,h3,h4,h5,h6,h7,h8⟩
 ·exact⟨hn,by omega,fun _=>h3,.inl (List.eq_nil_of_length_eq_zero (by omega))⟩
 ·refine⟨hn,h3,fun h=>(by rw[h1]at h;cases h),.inr ⟨b,0,h1,rl h2,fun j u hj=>?_,.inr ?_⟩⟩
  ·obtain⟨b',hb',_,hc⟩:=h.cell hj;rw[h1]at hb'
   simp only[Option.some.injEq,Addr.mk.injEq,and_true]at hb';subst hb';rw[Nat.zero_add];exact hc
  ·rw[h8,Bi];simp;omega
end
end Go.Proofs.YtaeckakjdagddadGreatDoor
