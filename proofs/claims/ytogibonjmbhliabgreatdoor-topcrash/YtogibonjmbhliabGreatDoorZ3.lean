/- Part 3 of the walk. -/
import Derived.Laws.Cover3
import Derived.Test.YtogibonjmbhliabGreatDoorZ2
set_option maxRecDepth 100000
set_option maxHeartbeats 4000000
open Go.Proofs.Tryz
set_option linter.unusedVariables false
namespace Go.Proofs.YtogibonjmbhliabGreatDoor
section
open Go.RowKit
def AO(d:List Int)(s:Int):Prop:=d.length<=100000/\0<=s/\s<=(d.length:Int)
instance (d:List Int) (s:Int):Decidable (AO d s):=by unfold AO;exact inferInstance
def Db(d:List Int)(s:Int):Int:=if AO d s then 0 else 5
def Hs(d:List Int)(s:Int):List Int:=if AO d s then d else[]
def I4(d:List Int)(s:Int):Int:=if AO d s then(d.length:Int)else 0
def Gt(d:List Int)(s k:Int):Int:=if k<(d.length:Int)-s then s+k else(d.length:Int)
def Gq(d:List Int)(s k:Int):Int:=if ¬ AO d s then 5 else if k<0 then 2 else 0
def KH(d:List Int)(s k:Int):List Int:=if Gq d s k=0 then d.take (Gt d s k).toNat else[]
def KI(d:List Int)(s k:Int):Int:=if Gq d s k=0 then Gt d s k else 0
def tpA(x:Value)(s:Int):Array Value:=#[x,.int .i64 s]
theorem Nc:(prog.info? 95).map (·.size)=some 2:=by kernel_rfl
theorem cD(x:Option Addr)(n c:Nat)(s:Int):(#[.slice x n c,.int .i64 s]:Array Value).all (·.oneCell')=true:=by simp[Value.oneCell']
end
section
section
def DR(b:List Int):List Int:=(b.length:Int)::b
def AL(b:List Int):List Int:=DR b++(dig (DR b)).take 4
theorem CG(b:List Int):(DR b).length=b.length+1:=rfl
theorem Bi(b:List Int):(AL b).length=b.length+5:=by
 unfold AL;rw[H',CG,X',AB];omega
def Bv(b:Bal):List Int:=1::(Ad b.r++Ad b.n)
def Bk(v:Vt):List Int:=2::(Ad v.bu++(Ad v.b.r++(Ad v.b.n++DX v.w.k v.w.c v.w.s v.w.n v.w.v)))
theorem Kx(b:Bal):(Bv b).length=9:=rfl
theorem GR(v:Vt):(Bk v).length=33:=rfl
theorem WS(b:Bal):∀ x∈Bv b,0<=x/\x<256:=by
 intro x hx;rcases nf.1 hx with rfl|hx
 .omega
 .rcases U'.1 hx with hx|hx
  .exact Bd _ x hx
  .exact Bd _ x hx
theorem XC(v:Vt):∀ x∈Bk v,0<=x/\x<256:=by
 intro x hx;rcases nf.1 hx with rfl|hx
 .omega
 .rcases U'.1 hx with hx|hx
  .exact Bd _ x hx
  .rcases U'.1 hx with hx|hx
   .exact Bd _ x hx
   .rcases U'.1 hx with hx|hx
    .exact Bd _ x hx
    .exact Oj _ _ _ _ _ x hx
variable{N k m n:Nat}{a b c:Acc}{all:List Acc}{bs:List (List Int)}{r:List Int}
theorem LX{b:List Int}(a:∀ x∈b,0<=x/\x<256)(c:b.length<=255):∀ x∈DR b,0<=x/\x<256:=by
 intro x hx;rcases nf.1 hx with rfl|hx
 .omega
 .exact a x hx
theorem MB{b:List Int}(a:∀ x∈b,0<=x/\x<256)(c:b.length<=255):∀ x∈AL b,0<=x/\x<256:=by
 intro x hx;rcases U'.1 hx with hx|hx
 .exact LX a c x hx
 .exact DJ _ x (nu hx)
def dy(l:List Int):Cmd:=⟨Ac l 0,Ac l 4,Ac l 8,Ac l 12,Ac l 16⟩
def Gl(b:List Int):Bal:=⟨Ac b 1,Ac b 5⟩
def Gc(b:List Int):Vt:=⟨Ac b 1,⟨Ac b 5,Ac b 9⟩,dy (b.drop 13)⟩
def DK(a:Acc)(b:List Int):Option Acc :=
 if b.length=9/\b.getD 0 0=1 then(if Cl a (Gl b)=0 then some ⟨Gl b,a.vs⟩else none)
 else if b.length=33/\b.getD 0 0=2 then(if Cx (b.drop 13)=0 then(if AX a (Gc b)=0 then some ⟨(Gc b).b,Bp a.vs (Gc b)⟩else none)else none)
 else none
def Cc(r:List Int)(a:Acc):Option (Acc × Nat) :=
 if r=[]then none
 else if r.length<(r.getD 0 0).toNat+5 then none
 else if(dig (r.take ((r.getD 0 0).toNat+1))).take 4≠(r.drop ((r.getD 0 0).toNat+1)).take 4 then none
 else(DK a ((r.take ((r.getD 0 0).toNat+1)).drop 1)).map λx=>(x,(r.getD 0 0).toNat+5)
def a0:Acc:=⟨⟨0,0⟩,[]⟩
def Ko(r:List Int)(p:Nat × Acc):Nat × Acc:=match Cc (r.drop p.1) p.2 with
 | none=>p
 | some (c,m)=>(p.1+m,c)
def itR(r:List Int):Nat->Nat × Acc
 | 0=>(0,a0)
 | k+1=>Ko r (itR r k)
def Ec(r:List Int):Nat × Acc:=itR r r.length
theorem MO(h:Cc r a=some (c,m)):5<=m/\m<=r.length:=by
 unfold Cc at h;split at h
 .cases h
 .split at h
  .cases h
  .split at h
   .cases h
   .obtain⟨x,_,e⟩:=oM.1 h;injection e with e1 e2
    omega
theorem Ip{p:Nat × Acc}(h:Cc (r.drop p.1) p.2=none):Ko r p=p:=by
 unfold Ko;rw[h]
theorem FL(h:Cc (r.drop n) b=some (c,m)):Ko r (n,b)=(n+m,c):=by
 unfold Ko;rw[show Cc (r.drop (n,b).1) (n,b).2=some (c,m)from h]
theorem Ws(h:itR r k=(n,b))(a:Cc (r.drop n) b=none)(j:Nat):itR r (k+j)=(n,b):=by
 induction j with
 | zero=>exact h
 | succ j ih =>
  rw[<- oe,itR,ih];exact Ip a
theorem PG(h:itR r k=(n,b))(c:k<=r.length)(a:Cc (r.drop n) b=none):Ec r=(n,b):=by
 have:=Ws h a (r.length-k);rw[show k+(r.length-k)=r.length by omega]at this
 exact this
theorem Zn(r:List Int)(k:Nat):(itR r k).1<=r.length:=by
 induction k with
 | zero=>exact nB _
 | succ k ih =>
  rw[itR];unfold Ko;split
  .exact ih
  .rename_i c m h
   have:=(MO h).2;rw[nc]at this
   show(itR r k).1+m<=r.length;omega
theorem OM{r':List Int}(h:Cc r a=some (c,m))(b:r'.take m=r.take m):Cc r' a=some (c,m):=by
 have s:=MO h;have d:m<=r'.length:=by
  have e:=congrArg List.length b;rw[X',X']at e
  omega
 unfold Cc at h;split at h
 .cases h
 rename_i p
 split at h
 .cases h
 rename_i q
 split at h
 .cases h
 rename_i f
 obtain⟨x,o,e⟩:=oM.1 h;injection e with e1 e2
 have i:r'.getD 0 0=r.getD 0 0:=by
  have e:=congrArg (λl=>l.getD 0 0) b;simp only[nT,ol]at e ⊢;rw[if_pos (by omega),if_pos (by omega)]at e
  exact e
 have n:∀ k,k<=m->r'.take k=r.take k:=λk j=>by
  have e:=congrArg (List.take k) b;rw[pH,pH,oG j]at e
  exact e
 have g:(r'.drop ((r.getD 0 0).toNat+1)).take 4=(r.drop ((r.getD 0 0).toNat+1)).take 4:=by
  have e:=congrArg (List.drop ((r.getD 0 0).toNat+1)) b;rw[qr,qr,show m-((r.getD 0 0).toNat+1)=4 by omega]at e
  exact e
 unfold Cc;rw[i,if_neg (by rintro rfl;simp at d;omega),if_neg (by omega),n _ (by omega),g,if_neg f,o,nZ,e1,e2]
theorem Gw(r:List Int)(h:n+m<=N):((r.take N).drop n).take m=(r.drop n).take m:=by
 rw[qr,pH,oG (by omega)]
theorem Zo(r:List Int)(k:Nat):(itR r k).1<=(itR r (k+1)).1:=by
 rw[itR];unfold Ko;split
 .exact A' _
 .show(itR r k).1<=(itR r k).1+_;omega
theorem Zp(h:(itR r k).1<=N):itR (r.take N) k=itR r k:=by
 induction k with
 | zero=>rfl
 | succ k b =>
  have i:=Zo r k;have b:=b (by omega);rw[itR,b];cases e:Cc (r.drop (itR r k).1) (itR r k).2 with
  | none =>
   have a:Cc ((r.take N).drop (itR r k).1) (itR r k).2=none:=by
    cases e3:Cc ((r.take N).drop (itR r k).1) (itR r k).2 with
    | none=>rfl
    | some x =>
     obtain⟨c,m⟩:=x;have g:=(MO e3).2;rw[nc,X']at g
     have:=OM (r':=r.drop (itR r k).1) e3 (Gw r (by omega)).symm;rw[e]at this
     cases this
   rw[Ip a,itR,Ip e]
  | some x =>
   obtain⟨c,m⟩:=x;have d:itR r (k+1)=((itR r k).1+m,c):=by rw[itR];exact FL e
   rw[d]at h ⊢
   have f:(itR r k).1+m<=N:=h;have a:=OM (r':=(r.take N).drop (itR r k).1) e (Gw r f);exact FL a
theorem Vm(r:List Int):(Ec r).1<=r.length:=Zn r r.length
theorem Ui(b x:List Int)(a:Acc):Cc (AL b++x) a=(DK a b).map λc=>(c,b.length+5):=by
 have d:=Bi b;have h:(AL b++x).getD 0 0=(b.length:Int):=rfl;have i:((b.length:Int)).toNat=b.length:=nV _;have j:(AL b++x).take (b.length+1)=DR b:=by
  unfold AL;rw[mU,nJ (by rw[CG];omega),np (by rw[CG];omega)]
 have f:((AL b++x).drop (b.length+1)).take 4=(dig (DR b)).take 4:=by
  unfold AL;rw[mU,qL (by rw[CG];omega),pI (by rw[CG];omega),oU,
   nJ (by rw[X',AB];omega),pH]
  rfl
 unfold Cc;rw[h,i,if_neg (by intro e;have:=congrArg List.length e;rw[H',d]at this;simp at this),if_neg (by rw[H',d];omega),j,f,if_neg (λg=>g rfl)];rfl
theorem Uj(b x:List Int)(a:Acc)(e:k<b.length+5):Cc ((AL b++x).take k) a=none:=by
 have d:=Bi b;cases k with
 | zero=>rfl
 | succ k =>
  have c:((AL b++x).take (k+1)).getD 0 0=(b.length:Int):=rfl;unfold Cc;rw[c,nV];split
  .rfl
  .rw[if_pos (by rw[X',H',d];omega)]
theorem YE(a:Acc){b:Bal}(g:Ab b):DK a (Bv b)=if Cl a b=0 then some ⟨b,a.vs⟩else none:=by
 have c:=g;unfold Ab at c;have d:Ac (Bv b) 1=b.r:=BP b.r (by omega) (by omega) [1] (Ad b.n);have f:Ac (Bv b) 5=b.n:=by
  have:=BP b.n (by omega) (by omega) (1::Ad b.r) [];rw[nA]at this
  exact this
 have e:Gl (Bv b)=b:=by unfold Gl;rw[d,f]
 unfold DK;rw[if_pos ⟨rfl,rfl⟩,e]
theorem Y3{k c s n v:Int}(h:Bo k c s n v=0):Cx (DX k c s n v)=0/\dy (DX k c s n v)=⟨k,c,s,n,v⟩:=by
 have j:=Fj h;have i:=j.2;unfold InC at i;have a:=WF k c s n v (by omega) (by omega);have b:=WG k c s n v (by omega) (by omega);have d:=WH k c s n v (by omega) (by omega);have e:=Tw k c s n v (by omega) (by omega);have f:=Tx k c s n v (by omega) (by omega);unfold Cx dy;rw[if_neg (λg=>g (EC k c s n v)),a,b,d,e,f];exact⟨h,rfl⟩
theorem YF(a:Acc){v:Vt}(p:Ah v):DK a (Bk v)=if AX a v=0 then some ⟨v.b,Bp a.vs v⟩else none:=by
 have g:=p;unfold Ah Ab at g;obtain⟨d,⟨r,n⟩,⟨k,c,s,f,x⟩⟩:=v;simp only at g;have l:Ac (Bk ⟨d,⟨r,n⟩,⟨k,c,s,f,x⟩⟩) 1=d:=BP d (by omega) (by omega) [2] (Ad r++(Ad n++DX k c s f x));have m:Ac (Bk ⟨d,⟨r,n⟩,⟨k,c,s,f,x⟩⟩) 5=r:=BP r (by omega) (by omega) (2::Ad d) (Ad n++DX k c s f x);have o:Ac (Bk ⟨d,⟨r,n⟩,⟨k,c,s,f,x⟩⟩) 9=n:=BP n (by omega) (by omega) (2::(Ad d++Ad r)) (DX k c s f x);have i:(Bk ⟨d,⟨r,n⟩,⟨k,c,s,f,x⟩⟩).drop 13=DX k c s f x:=rfl;have j:=Y3 (k:=k) (c:=c) (s:=s) (n:=f) (v:=x) g.2.2;have e:Gc (Bk ⟨d,⟨r,n⟩,⟨k,c,s,f,x⟩⟩)=⟨d,⟨r,n⟩,⟨k,c,s,f,x⟩⟩:=by unfold Gc;rw[l,m,o,i,j.2]
 unfold DK;rw[if_neg (by rintro⟨h,_⟩;cases h),if_pos ⟨rfl,rfl⟩,e,i,if_pos j.1]
def AE(bs:List (List Int)):List Int:=bs.flatMap AL
theorem CF(l m:List (List Int)):AE (l++m)=AE l++AE m:=by simp[AE]
structure Chn(all:List Acc)(bs:List (List Int)):Prop where
 len:all.length=bs.length+1
 first:all[0]?=some a0
 step:∀ (i:Nat) (b:List Int) (a c:Acc),bs[i]?=some b->all[i]?=some a->all[i+1]?=some c->DK a b=some c
theorem Chn.at(h:Chn all bs)(j:Nat)(b:j<=bs.length):∃ a,all[j]?=some a:=⟨_,E' (by have:=h.len;omega)⟩
theorem MW(a:List (List Int))(j:Nat)(b:List Int)(h:a[j]?=some b):a.take (j+1)=a.take j++[b]:=by
 obtain⟨c,e⟩:=V'.1 h;rw[nv c,e]
theorem LR(a:List (List Int))(j:Nat)(x:List Int):(AE a++x).drop (AE (a.take j)).length=AE (a.drop j)++x:=by
 have e:AE a=AE (a.take j)++AE (a.drop j):=by rw[<- CF,oz]
 rw[e,mU,qL (A' _),pI (A' _),oU]
theorem LS(a:List (List Int))(j:Nat)(b:List Int)(h:a[j]?=some b):AE (a.drop j)=AL b++AE (a.drop (j+1)):=by
 obtain⟨c,e⟩:=V'.1 h;rw[nO c,e];rfl
theorem Chn.it(h:Chn all bs)(x:List Int)(j:Nat)(l:j<=bs.length)(d:all[j]?=some a):itR (AE bs++x) j=((AE (bs.take j)).length,a):=by
 induction j generalizing a with
 | zero =>
  rw[h.first]at d
  obtain rfl:=nQ d;rfl
 | succ j g =>
  obtain⟨i,c⟩:=h.at j (by omega);have g:=g (by omega) c;obtain⟨b,f⟩:∃ b,bs[j]?=some b:=⟨_,E' (by omega)⟩;have k:=h.step j b i a f c d;have e:Cc ((AE bs++x).drop (AE (bs.take j)).length) i=some (a,b.length+5):=by
   rw[LR,LS bs j b f,mU,Ui,k];rfl
  rw[itR,g,FL e,MW bs j b f,CF,H']
  congr 1
  show _=(AE (bs.take j)).length+(AE [b]).length;simp[AE,Bi]
theorem QF(a:List (List Int)):a.length<=(AE a).length:=by
 induction a with
 | nil=>exact nB _
 | cons b a ih =>
  show a.length+1<=(AL b++AE a).length;rw[H',Bi];omega
theorem iC(a:List (List Int))(k:Nat):∃ j,j<=a.length/\(AE (a.take j)).length<=k/\(j=a.length\/k<(AE (a.take (j+1))).length):=by
 have:∀ n,n<=a.length->∃ j,j<=n/\(AE (a.take j)).length<=k/\(j=n\/k<(AE (a.take (j+1))).length):=by
  intro n;induction n with
  | zero=>intro _;exact⟨0,A' _,by simp[AE],.inl rfl⟩
  | succ n ih =>
   intro d;obtain⟨j,c,b,h3⟩:=ih (by omega);rcases h3 with rfl|h3
   .rcases nW k (AE (a.take (j+1))).length with h4|h4
    .exact⟨j,by omega,b,.inr h4⟩
    .exact⟨j+1,A' _,h4,.inl rfl⟩
   .exact⟨j,by omega,b,.inr h3⟩
 exact this a.length (A' _)
theorem Chn.uu(h:Chn all bs)(k:Nat):∃ j a,j<=bs.length/\all[j]?=some a/\Ec ((AE bs).take k)=((AE (bs.take j)).length,a)/\(AE (bs.take j)).length<=k/\(j=bs.length\/k<(AE (bs.take (j+1))).length):=by
 obtain⟨j,d,i,h3⟩:=iC bs k;obtain⟨a,l⟩:=h.at j d;refine⟨j,a,d,l,?_,i,h3⟩;have f:=h.it [] j d l;rw[nA]at f
 have g:itR ((AE bs).take k) j=((AE (bs.take j)).length,a):=by
  rw[Zp (by rw[f];exact i),f]
 have c:=LR bs j [];rw[nA,nA]at c
 refine PG g ?_ ?_
 .rw[X'];have m:=QF (bs.take j);rw[X']at m
  have n:(AE (bs.take j)).length<=(AE bs).length:=by
   have:=congrArg List.length c;rw[nc]at this
   have e:AE bs=AE (bs.take j)++AE (bs.drop j):=by rw[<- CF,oz]
   rw[e,H'];omega
  omega
 .rw[qr,c];rcases h3 with rfl|h3
  .rw[pI (A' _)];simp[AE,Cc]
  .rcases nW j bs.length with hj|hj
   .obtain⟨b,hb⟩:∃ b,bs[j]?=some b:=⟨_,E' hj⟩;rw[LS bs j b hb];refine Uj b _ a ?_;rw[MW bs j b hb,CF,H']at h3
    have e:(AE [b]).length=b.length+5:=by simp[AE,Bi]
    omega
   .rw[pI hj];simp[AE,Cc]
end
end
section
open Go.RowKit
def fbO(r:List Int):Option (List Int) :=
 if r=[]then none
 else if r.length<(r.getD 0 0).toNat+5 then none
 else if(dig (r.take ((r.getD 0 0).toNat+1))).take 4≠(r.drop ((r.getD 0 0).toNat+1)).take 4 then none
 else some ((r.take ((r.getD 0 0).toNat+1)).drop 1)
theorem UN{r b:List Int}(h:fbO r=some b):b.length+5<=r.length/\b.length=(r.getD 0 0).toNat:=by
 unfold fbO at h;split at h
 .cases h
 .split at h
  .cases h
  .split at h
   .cases h
   .injection h with h
    subst h;rw[nc,X'];omega
theorem MN(r:List Int)(a:Acc):Cc r a=(fbO r).bind λb=>(DK a b).map λc=>(c,b.length+5):=by
 have d:∀ b,fbO r=some b->b.length=(r.getD 0 0).toNat:=λb h=>(UN h).2;unfold Cc;unfold fbO at d ⊢;by_cases f:r=[]
 .rw[if_pos f,if_pos f];rfl
 .rw[if_neg f]at d ⊢
  rw[if_neg f];by_cases g:r.length<(r.getD 0 0).toNat+5
  .rw[if_pos g,if_pos g];rfl
  .rw[if_neg g]at d ⊢
   rw[if_neg g];by_cases i:(dig (r.take ((r.getD 0 0).toNat+1))).take 4≠(r.drop ((r.getD 0 0).toNat+1)).take 4
   .rw[if_pos i,if_pos i];rfl
   .rw[if_neg i]at d ⊢
    rw[if_neg i];have e:=d _ rfl;show _=(DK a _).map _;rw[e]
theorem D3(l:List Int)(n i:Nat):Ac (l.drop n) i=Ac l (n+i):=by
 unfold Ac;simp only[nT,nY,oe]
def Ii(a:Acc)(b:List Int):Int :=
 if b.length=9/\b.getD 0 0=1 then Cl a (Gl b)
 else if b.length=33/\b.getD 0 0=2 then(if Cx (b.drop 13)=0 then AX a (Gc b)else Cx (b.drop 13))
 else 3
def Gu(a:Acc)(b:List Int):Acc :=
 if b.length=9/\b.getD 0 0=1 then⟨Fs a (Gl b),DN a (Gl b)⟩
 else if b.length=33/\b.getD 0 0=2 then(if Cx (b.drop 13)=0 then⟨BN a (Gc b),Bu a (Gc b)⟩else a0)
 else a0
theorem Q6(a:Acc)(b:List Int):DK a b=if Ii a b=0 then some (Gu a b)else none:=by
 unfold DK Ii Gu;by_cases d:b.length=9/\b.getD 0 0=1
 .rw[if_pos d,if_pos d,if_pos d];by_cases c:Cl a (Gl b)=0
  .rw[if_pos c,if_pos c];unfold Fs DN;rw[if_pos c,if_pos c]
  .rw[if_neg c,if_neg c]
 .rw[if_neg d,if_neg d,if_neg d];by_cases c:b.length=33/\b.getD 0 0=2
  .rw[if_pos c,if_pos c,if_pos c];by_cases e:Cx (b.drop 13)=0
   .rw[if_pos e,if_pos e,if_pos e];by_cases f:AX a (Gc b)=0
    .rw[if_pos f,if_pos f];unfold BN Bu;rw[if_pos f,if_pos f]
    .rw[if_neg f,if_neg f]
   .rw[if_neg e,if_neg e,if_neg e]
  .rw[if_neg c,if_neg c,if_neg c,if_neg (by decide)]
def voV(l:List Int):Vt:=if Cx (l.drop 12)=0 then⟨Ac l 0,⟨Ac l 4,Ac l 8⟩,dy (l.drop 12)⟩else⟨0,⟨0,0⟩,⟨0,0,0,0,0⟩⟩
theorem gj{l:List Int}(h:Cx (l.drop 12)=0):∃ m0 m1 m2 m3 m4:Int,KJ (l.drop 12)=#[.int .i64 m0,.int .i64 m1,.int .i64 m2,.int .i64 m3,.int .i64 m4]/\voV l=⟨Ac l 0,⟨Ac l 4,Ac l 8⟩,⟨m0,m1,m2,m3,m4⟩⟩:=by
 refine⟨Ac (l.drop 12) 0,Ac (l.drop 12) 4,Ac (l.drop 12) 8,Ac (l.drop 12) 12,Ac (l.drop 12) 16,?_,?_⟩
 .unfold KJ;rw[if_pos h];rfl
 .unfold voV;rw[if_pos h];rfl
theorem gi{l:List Int}(h:¬ Cx (l.drop 12)=0):KJ (l.drop 12)=zV5/\voV l=⟨0,⟨0,0⟩,⟨0,0,0,0,0⟩⟩:=by
 unfold voV KJ;rw[if_neg h,if_neg h];exact⟨rfl,rfl⟩
theorem RT(b:List Int)(h:Cx (b.drop 13)=0):voV (b.drop 1)=Gc b:=by
 unfold voV Gc;rw[pG,if_pos h,D3,D3,D3]
theorem L5(b:List Int):(⟨Ac (b.drop 1) 0,Ac (b.drop 1) 4⟩:Bal)=Gl b:=by
 unfold Gl;rw[D3,D3]
def GA(d:List Int)(s:Int):Acc:=if AO d s then(Ec d).2 else a0
def NN(d:List Int)(s:Int):Int:=if AO d s then((Ec d).1:Int)else 0
def JM(d:List Int)(s:Int):List Int:=if AO d s then d.take (Ec d).1 else[]
def ME(d:List Int)(s:Int):Int:=if AO d s then(if((Ec d).1:Int)<s then((Ec d).1:Int)else s)else 0
end
section
def GF(d:List Int)(s:Int)(k:Nat):Int:=if ¬ AO d s then 5 else if 100000<d.length+k then 8 else 0
def CJ(d:List Int)(s:Int)(may:Prop)[Decidable may] (b:List Int):Int:=if GF d s (b.length+5)≠0 then GF d s (b.length+5)else if may then 0 else 2
def Gb(d:List Int)(s:Int)(may:Prop)[Decidable may] (b:List Int):List Int:=if CJ d s may b=0 then d++AL b else[]
def GV(d:List Int)(s:Int)(may:Prop)[Decidable may] (b:List Int):Int:=if CJ d s may b=0 then s else 0
theorem Vq{d:List Int}{s:Int}{k:Nat}(a:AO d s)(b:d.length+k<=100000):GF d s k=0:=by
 unfold GF;rw[if_neg (λg=>g a),if_neg (by omega)]
theorem fe(b:Bal):Cl a0 b=if Ab b then 0 else 2:=by
 have a:Ag a0:=⟨.inr ⟨rfl,rfl⟩,λv c=>(P' c).elim,trivial⟩;unfold Cl;rw[if_neg (λg=>g a)];by_cases h:Ab b
 .rw[if_neg (λg=>g h),if_pos h,if_neg];intro g;unfold Ab at h;unfold Bal.lt a0 at g;simp only at g;omega
 .rw[if_pos h,if_neg h]
theorem gk(v:Vt):AX a0 v=if Ah v then 0 else 2:=by
 have a:Ag a0:=⟨.inr ⟨rfl,rfl⟩,λv c=>(P' c).elim,trivial⟩;unfold AX;rw[if_neg (λg=>g a)];by_cases h:Ah v
 .rw[if_neg (λg=>g h),if_pos h,if_neg];intro g;have b:=h.2.1;unfold Ab at b;unfold Bal.lt a0 at g;simp only at g;omega
 .rw[if_pos h,if_neg h]
end
section
open Go.RowKit
section
def BC{α:Type}(f:Nat->α)(i:Nat)(x:α):Nat->α:=λj=>if j=i then x else f j
variable{m:Cmd}{α:Type}
theorem PD(f:Nat->α)(i:Nat)(x:α):BC f i x i=x:=if_pos rfl
theorem PE(f:Nat->α){i j:Nat}(x:α)(h:j≠i):BC f i x j=f j:=if_neg h
structure Sto where
 V:Nat->Int
 L:Nat->Int
 C:Nat->Int
 A:Nat->Int
 R:Nat->Bool
def EB:Sto:=⟨λ_=>0,λ_=>0,λ_=>0,λ_=>0,λ_=>false⟩
def ClB(l c a:Int):Prop:=(0<=l/\l<=1048577)/\(l=0->c=0/\a=0)
instance (l c a:Int):Decidable (ClB l c a):=by unfold ClB;exact inferInstance
def VaB(v:Int):Prop:=0<=v/\v<=1073741824
instance (v:Int):Decidable (VaB v):=by unfold VaB;exact inferInstance
def I7(s:Sto):Prop:=(∀ i,i<8->VaB (s.V i))/\∀ i,i<8->ClB (s.L i) (s.C i) (s.A i)
noncomputable instance (s:Sto):Decidable (I7 s):=Classical.propDecidable _
theorem bL:I7 EB:=⟨λ_ _=>by unfold VaB EB;simp,λ_ _=>by unfold ClB EB;simp⟩
noncomputable def NT(s:Sto):Int:=if I7 s then 0 else 5
variable{s:Sto}
theorem fP(h:I7 s):NT s=0:=if_pos h
theorem Lq(h:¬ I7 s):NT s=5:=if_neg h
def NH(s:Sto)(m:Cmd):Int:=if m.k=1 then m.v else if m.k=2 then s.V m.n.toNat else 0
def Mm(s:Sto)(m:Cmd):Sto :=
 ⟨if m.k=1 then BC s.V m.n.toNat m.v else s.V,BC s.L m.c.toNat (m.s+1),BC s.C m.c.toNat 0,BC s.A m.c.toNat (NH s m),if m.k=3 then BC s.R m.n.toNat true else s.R⟩
def dnS(s:Sto)(m:Cmd):Sto:=if m.k≠0/\¬ m.s<s.L m.c.toNat/\s.R m.c.toNat=false then Mm s m else s
def dnC(s:Sto)(m:Cmd):Int :=
 if m.k=0 then 0 else if s.L m.c.toNat=m.s+1 then s.C m.c.toNat else if m.s<s.L m.c.toNat then 7 else if s.R m.c.toNat=true then 11 else 0
def dnA(s:Sto)(m:Cmd):Int :=
 if m.k=0 then 0 else if s.L m.c.toNat=m.s+1 then s.A m.c.toNat else if m.s<s.L m.c.toNat then 0 else if s.R m.c.toNat=true then 0 else NH s m
noncomputable def doE(s:Sto)(m:Cmd):Int:=if I7 s then m.e else 5
noncomputable def doS(s:Sto)(m:Cmd):Sto:=if doE s m=0 then dnS s m else EB
noncomputable def doC(s:Sto)(m:Cmd):Int:=if doE s m=0 then dnC s m else 0
noncomputable def doA(s:Sto)(m:Cmd):Int:=if doE s m=0 then dnA s m else 0
theorem d8(h:I7 s):doE s m=m.e:=if_pos h
theorem SE(h:doE s m=0):doS s m=dnS s m:=if_pos h
theorem iE(h:doE s m=0):doC s m=dnC s m:=if_pos h
theorem iD(h:doE s m=0):doA s m=dnA s m:=if_pos h
theorem YA(h:doE s m≠0):doS s m=EB:=if_neg h
theorem Y6(h:doE s m≠0):doC s m=0:=if_neg h
theorem UE(h:m.e=0):(0<=m.k/\m.k<=3)/\InC m.c m.s m.n m.v:=Fj h
theorem UI(b:I7 s)(h:m.e=0):I7 (dnS s m):=by
 obtain⟨f,d⟩:=UE h;unfold InC at d;unfold dnS;split
 .refine⟨λi a=>?_,λi a=>?_⟩
  .simp only[Mm];split
   .unfold BC;split
    .unfold VaB;omega
    .exact b.1 i a
   .exact b.1 i a
  .simp only[Mm];by_cases e:i=m.c.toNat
   .subst e;rw[PD,PD,PD];unfold ClB;omega
   .rw[PE _ _ e,PE _ _ e,PE _ _ e];exact b.2 i a
 .exact b
end
end
section
def J8(Q:Nat->Bool):Nat:=(Q 0).toNat+(Q 1).toNat+(Q 2).toNat+(Q 3).toNat+(Q 4).toNat
theorem IS(Q R:Nat->Bool)(d:3<=J8 Q)(e:3<=J8 R):∃ q,q<5/\Q q=true/\R q=true:=by
 apply pT;intro h;have a:∀ q,q<5->(Q q).toNat+(R q).toNat<=1:=by
  intro q f;cases b:Q q<;>cases c:R q<;>simp;exact h ⟨q,f,b,c⟩
 have g:=a 0 (by omega);have b:=a 1 (by omega);have c:=a 2 (by omega);have i:=a 3 (by omega);have j:=a 4 (by omega);unfold J8 at d e;omega
section
variable{γ:Type}
section
def Ch(H:Nat->Nat->Int->γ->Prop)(s:Nat)(b:Int)(c:γ):Prop:=∃ Q:Nat->Bool,3<=J8 Q/\∀ q,q<5->Q q=true->H q s b c
def Ek(H:Nat->Nat->Int->γ->Prop)(P:Nat->Int)(s:Nat)(b:Int)(c:γ):Prop :=
 ∃ Q:Nat->Bool,3<=J8 Q/\(∀ q,q<5->Q q=true->b<=P q) /\
  ((∀ q,q<5->Q q=true->∀ b' c',H q s b' c'->b<=b') \/
   ∃ b0,b0<b/\(∃ q,q<5/\Q q=true/\H q s b0 c)/\∀ q,q<5->Q q=true->∀ b' c',H q s b' c'->b'<b->b'<=b0)
structure PInv(H:Nat->Nat->Int->γ->Prop)(P:Nat->Int):Prop where
 le:∀ n s b c,H n s b c->0<b/\b<=P n
 uniq:∀ n n' s b c c',H n s b c->H n' s b c'->c=c'
 safe:∀ n s b c,H n s b c->Ek H P s b c
variable{H:Nat->Nat->Int->γ->Prop}{P:Nat->Int}{b b' b1:Int}{c c1:γ}{n s:Nat}
theorem PInv.td(h:PInv H P)(l:Ch H s b1 c1):∀ (m:Nat) (b2:Int) (c2:γ) (n:Nat),b2.toNat=m->b1<b2->H n s b2 c2->c2=c1:=by
 intro m;induction m using Nat.strongRecOn with
 | ind m ih =>
  intro b2 c2 n t f j;have u:=(h.le n s b2 c2 j).1;obtain⟨Q,o,r,d⟩:=h.safe n s b2 c2 j;obtain⟨k,c,e⟩:=l;obtain⟨q,g,b,i⟩:=IS Q k o c;have a:=e q g i;rcases d with d|⟨b0,hb0,⟨q0,hq0,hq0Q,hv0⟩,hmax⟩
  .have:=d q g b b1 c1 a;omega
  .have hle:=hmax q g b b1 c1 a f;have p:=(h.le q0 s b0 c2 hv0).1;rcases(by omega:b1=b0\/b1<b0)with rfl|hlt0
   .exact h.uniq q0 q s b1 c2 c1 hv0 a
   .exact ih b0.toNat (by omega) b0 c2 q0 rfl hlt0 hv0
theorem PInv.agree(h:PInv H P){d:Int}{e:γ}(g:Ch H s b1 c1)(i:Ch H s d e):c1=e:=by
 have a:∀ {b:Int} {c:γ},Ch H s b c->∃ n,H n s b c:=by
  rintro b c ⟨Q,j,p⟩;obtain⟨q,r,f,_⟩:=IS Q Q j j;exact⟨q,p q r f⟩
 obtain⟨k,m⟩:=a g;obtain⟨l,o⟩:=a i;rcases(by omega:b1<d\/b1=d\/d<b1)with hlt|rfl|hlt
 .exact(h.td g _ d e l rfl hlt o).symm
 .exact h.uniq k l s b1 c1 e m o
 .exact h.td i _ b1 c1 k rfl hlt m
def upP(P:Nat->Int)(n:Nat)(b:Int):Nat->Int:=λi=>if i=n then b else P i
theorem Ng(h:P n<=b)(q:Nat):P q<=upP P n b q:=by
 unfold upP;split
 .rename_i e;rw[e];exact h
 .exact mT _
theorem Ek.up(h:Ek H P s b c)(g:P n<=b'):Ek H (upP P n b') s b c:=by
 obtain⟨Q,e,d,f⟩:=h;exact⟨Q,e,λq i a=>nz (d q i a) (Ng g q),f⟩
theorem PInv.au(h:PInv H P)(e:P n<=b):PInv H (upP P n b) :=
 ⟨λm s a c d=>⟨(h.le m s a c d).1,nz (h.le m s a c d).2 (Ng e m)⟩,h.uniq,λm s a c d=>(h.safe m s a c d).up e⟩
def ii(H:Nat->Nat->Int->γ->Prop)(n s:Nat)(b:Int)(c:γ):Nat->Nat->Int->γ->Prop:=λn' s' b' c'=>H n' s' b' c'\/(n'=n/\s'=s/\b'=b/\c'=c)
theorem Ek.cn(h:Ek H P s b c){t:Nat}{m:γ}(l:P n<=b'):Ek (ii H n t b' m) (upP P n b') s b c:=by
 obtain⟨Q,o,i,j⟩:=h;refine⟨Q,o,λq d a=>nz (i q d a) (Ng l q),?_⟩;rcases j with j|⟨b0,hb0,⟨q0,hq0,hq0Q,hv0⟩,hmax⟩
 .left;intro q d a f g e;rcases e with e|⟨rfl,rfl,rfl,rfl⟩
  .exact j q d a f g e
  .exact nz (i q d a) l
 .right;refine⟨b0,hb0,⟨q0,hq0,hq0Q,.inl hv0⟩,?_⟩;intro q d a f g e k;rcases e with e|⟨rfl,rfl,rfl,rfl⟩
  .exact hmax q d a f g e k
  .have:=i q d a;omega
theorem PInv.cn(h:PInv H P)(a:P n<=b)(e:0<b)(f:Ek H P s b c)(d:∀ m c',H m s b c'->c'=c):PInv (ii H n s b c) (upP P n b):=by
 refine⟨?_,?_,?_⟩
 .rintro m t b' c' (hv|⟨rfl,rfl,rfl,rfl⟩)
  .exact⟨(h.le m t b' c' hv).1,nz (h.le m t b' c' hv).2 (Ng a m)⟩
  .exact⟨e,by unfold upP;rw[if_pos rfl];exact mT _⟩
 .rintro m m' t b' c' c2 (hv|⟨_,e1,e2,e3⟩) (hv'|⟨_,e1',e2',e3'⟩)
  .exact h.uniq m m' t b' c' c2 hv hv'
  .subst e1' e2' e3';exact d m c' hv
  .subst e1 e2 e3;exact(d m' c2 hv').symm
  .rw[e3,e3']
 .rintro m t b' c' (hv|⟨rfl,rfl,rfl,rfl⟩)
  .exact(h.safe m t b' c' hv).cn a
  .exact f.cn a
end
end
end
section
def upN{α:Type}(f:Nat->α)(n:Nat)(x:α):Nat->α:=λi=>if i=n then x else f i
theorem Dd{α:Type}(f:Nat->α)(n:Nat)(x:α):upN f n x n=x:=if_pos rfl
theorem Du{α:Type}(f:Nat->α){n i:Nat}(x:α)(h:i≠n):upN f n x i=f i:=if_neg h
end
section
theorem IW{l:List Vt}(h:BR l)(s:Int)(v:Vt):BQ (Ae l s) v<=(decide (v∈l/\v.bu=s)).toNat:=by
 induction l with
 | nil=>simp[BQ,Ae]
 | cons x xs c =>
  obtain⟨f,d⟩:=h;have c:=c d;have e:BQ (Ae (x::xs) s) v=(if x.bu=s/\x=v then 1 else 0)+BQ (Ae xs s) v:=by
   unfold BQ Ae;rw[List.filter_cons];by_cases a:x.bu=s
   .rw[if_pos (by simpa using a),pW];by_cases b:x=v
    .have h1':v.bu=s:=b▸a;simp[b,h1'];omega
    .simp[a,b]
   .rw[if_neg (by simpa using a)];simp[a]
  rw[e];by_cases a:x.bu=s/\x=v
  .have b:¬ (v∈xs/\v.bu=s):=λg=>by
    have:=f v g.1;rw[<- a.2]at this
    omega
   rw[D' b]at c
   rw[if_pos a,M' ⟨a.2▸O',a.2▸a.1⟩];simp at c ⊢;omega
  .rw[if_neg a];by_cases b:v∈xs/\v.bu=s
   .rw[M' b]at c
    rw[M' ⟨I' _ b.1,b.2⟩];omega
   .rw[D' b]at c
    simp at c ⊢;omega
theorem C1(l m:List Vt)(v:Vt):BQ (l++m) v=BQ l v+BQ m v:=by unfold BQ;rw[pK]
end
section
def Bb:Bal:=⟨0,0⟩
def VO:Cmd:=⟨0,0,0,0,0⟩
def vtz:Vt:=⟨0,Bb,VO⟩
def DW:Acc:=⟨Bb,[]⟩
structure Let where
 kind:Nat
 src:Nat
 dst:Nat
 gC:Bal
 cn:Vt
 mv:List Vt
 bu:Nat
 fv:List Cmd
def BJ(k:Nat):Let:=⟨k,0,0,Bb,vtz,[],0,[]⟩
inductive Pend where
 | began (b:Bal) (vs:List Vt)
 | prom (to:Nat) (b:Bal) (vs:List Vt)
 | voted (to:Nat) (v:Vt)
 | eo (to:Nat) (b:Bal)
 | prop (v:Vt)
 | askNews (to:Nat)
 | start
 | tell (to:Nat) (bu:Nat)
structure Rnd where
 gC:Bal
 rk:Nat->Bool
 an:Nat->Acc
 bN:Nat->Nat
 next:Nat
 fa:List Cmd
def fA:Rnd:=⟨Bb,λ_=>false,λ_=>DW,λ_=>0,0,[]⟩
structure Tol where
 n:Nat
 c:Int
 s:Int
 e:Int
 a:Int
structure Nod where
 up:Bool
 d:List Int
 sy:Int
 bad:Nat
 vo:Acc
 bw:List Pend
 dT:Int
 bn:Rnd
 ae:List Cmd
 done:Nat
 ni:Sto
 br:List Cmd
 cl:Cmd->Option Bal
structure Meet where
 ab:Nat->Nod
 bt:List Let
 ew:List Tol
def Nod.bare(N:Nod)(up:Bool)(d:List Int)(sy:Int)(vo:Acc)(p:List Pend):Nod :=
 ⟨up,d,sy,N.bad,vo,p,0,fA,[],0,EB,[],λ_=>none⟩
def CZ:Nod:=⟨true,[],0,0,DW,[],0,fA,[],0,EB,[],λ_=>none⟩
def Ap:Meet:=⟨λ_=>CZ,[],[]⟩
def Meet.put(M:Meet)(i:Nat)(N:Nod):Meet:={ M with ab:=upN M.ab i N }
def Nod.au(N:Nod)(b:Bal):Nod × List Vt × Int :=
 if Cl N.vo b≠0 then(N,[],Cl N.vo b)
 else if b=N.vo.p then({ N with vo:=⟨b,N.vo.vs⟩ },N.vo.vs,0)
 else if CJ N.d N.sy (Ab b) (Bv b)≠0 then(N,[],CJ N.d N.sy (Ab b) (Bv b))
 else({ N with d:=Gb N.d N.sy (Ab b) (Bv b),sy:=GV N.d N.sy (Ab b) (Bv b),vo:=⟨b,N.vo.vs⟩ },N.vo.vs,0)
def Nod.cn(N:Nod)(v:Vt):Nod × Int :=
 if AX N.vo v≠0 then(N,AX N.vo v)
 else if v∈N.vo.vs then({ N with vo:=⟨v.b,Bp N.vo.vs v⟩ },0)
 else if CJ N.d N.sy (Ah v) (Bk v)≠0 then(N,CJ N.d N.sy (Ah v) (Bk v))
 else({ N with d:=Gb N.d N.sy (Ah v) (Bk v),sy:=GV N.d N.sy (Ah v) (Bk v),vo:=⟨v.b,Bp N.vo.vs v⟩ },0)
def Nod.wait(N:Nod)(p:Pend):Nod:={ N with bw:=N.bw++[p] }
def Nod.eo(N:Nod)(to:Nat)(e:Int):Nod:=if e=7 then N.wait (.eo to N.vo.p)else N
def Nod.leads(N:Nod):Bool:=decide (N.bn.gC≠Bb/\N.bn.gC=N.vo.p)
def Rnd.rX(r:Rnd):Bool:=decide (5<2*J8 r.rk)
def Dg(a:Acc):List Vt->Acc
 | []=>a
 | v::l=>Dg (if AX a v=0 then⟨BN a v,Bu a v⟩else a) l
def Rnd.sf(r:Rnd)(j:Nat)(vs:List Vt):Rnd:={ r with rk:=upN r.rk j true,an:=upN r.an j (Dg ⟨r.gC,vs⟩ (r.an j).vs) }
def Rnd.jv(r:Rnd):List Acc:=[r.an 0,r.an 1,r.an 2,r.an 3,r.an 4]
def FG:Nat->Rnd->List Cmd->List Cmd
 | 0,_,l=>l
 | k+1,r,l=>if CY r.jv (l.length:Int)=0 then FG k r (l++[CQ r.jv (l.length:Int)])else l
def Nod.rV(N:Nod):Nod:={ N with ae:=FG 41 N.bn N.ae }
def Nod.ln(N:Nod)(bu:Nat)(fv:List Cmd):Nod:={ N with ae:=N.ae++fv.drop (N.ae.length-bu) }
def Nod.count(N:Nod)(j:Nat)(v:Vt):Nod :=
 if v.b≠N.bn.gC then N
 else if AX (N.bn.an j) v≠0 then N
 else Nod.rV { N with bn:={ N.bn with an:=upN N.bn.an j ⟨BN (N.bn.an j) v,Bu (N.bn.an j) v⟩ } }
def Hm(q:List Cmd):List Cmd->List Cmd
 | []=>q
 | c::l=>Hm (if q.length<40/\c∉q then q++[c]else q) l
def Nod.eb(N:Nod)(fv:List Cmd):Nod:=if N.leads then{ N with bn:={ N.bn with fa:=Hm N.bn.fa fv } }else N
def Ca(f:Cmd->Option Bal)(c:Cmd)(b:Option Bal):Cmd->Option Bal:=λx=>if x=c then b else f x
def Nod.want(N:Nod)(c:Cmd):Nod:=if(N.cl c).isSome then N else{ N with br:=N.br++[c],cl:=Ca N.cl c (some Bb) }
def Nod.hZ(N:Nod)(c:Cmd):Nod:=if(N.cl c).isSome then{ N with br:=N.br.erase c,cl:=Ca N.cl c none }else N
def AZ(b:Bal)(f:Cmd->Option Bal):List Cmd->List Cmd × (Cmd->Option Bal)
 | []=>([],f)
 | c::l=>if(f c).getD Bb≠b then(c::(AZ b (Ca f c (some b)) l).1,(AZ b (Ca f c (some b)) l).2)else AZ b f l
def Nod.take(N:Nod)(l:Let):Nod :=
 match l.kind with
 | 0=>if(N.au l.gC).2.2≠0 then N.eo l.src (N.au l.gC).2.2 else(N.au l.gC).1.wait (.prom l.src l.gC (N.au l.gC).2.1)
 | 1=>let K:=N.ln 0 l.fv
  if K.leads=false\/l.gC≠K.bn.gC\/K.bn.rk l.src=true then K
  else Nod.rV { K with bn:={ K.bn.sf l.src l.mv with bN:=upN K.bn.bN l.src l.fv.length } }
 | 2=>{ N with dT:=max N.dT l.gC.r }
 | 3=>if(N.cn l.cn).2≠0 then N.eo l.src (N.cn l.cn).2 else(N.cn l.cn).1.wait (.voted l.src l.cn)
 | 4=>N.count l.src l.cn
 | 5=>if N.ae.length<l.bu then N.wait (.askNews l.src)else N.ln l.bu l.fv
 | 6=>let K:=N.eb l.fv
  if l.bu<K.ae.length then K.wait (.tell l.src l.bu)else K
 | _=>N
def Meet.nn(M:Meet)(l:Let):Meet:=if(M.ab l.dst).up then M.put l.dst ((M.ab l.dst).take l)else M
def Nod.rQ(N:Nod)(bu:Nat):Option Cmd :=
 if Ck (N.bn.jv.map (·.vs)) (bu:Int)≠0 then none
 else if DS (N.bn.jv.map (·.vs)) (bu:Int)then some (H9 (N.bn.jv.map (·.vs)) (bu:Int))
 else N.bn.fa.find? λc=>decide (c∉N.ae)
def Nod.cF(N:Nod):Nod :=
 if N.leads=false\/N.bn.rX=false\/N.ae.length<N.bn.next then N
 else match N.rQ N.ae.length with
  | none=>N
  | some c =>
   if(N.cn ⟨(N.ae.length:Int),N.bn.gC,c⟩).2≠0 then N
   else Nod.wait { (N.cn ⟨(N.ae.length:Int),N.bn.gC,c⟩).1 with bn:={ N.bn with next:=N.ae.length+1 } } (.prop ⟨(N.ae.length:Int),N.bn.gC,c⟩)
def Nod.lead(N:Nod)(i:Nat):Nod :=
 let b:Bal:=⟨max N.dT N.vo.p.r+1,(i:Int)⟩
 if(N.au b).2.2≠0 then N
 else Nod.wait { (N.au b).1 with bn:=⟨b,λ_=>false,λ_=>DW,λ_=>N.ae.length,0,[]⟩ } (.began b (N.au b).2.1)
def Nod.lp(N:Nod)(k:Int):Nod:=if Gq N.d N.sy k≠0 then N else N.bare false (KH N.d N.sy k) (KI N.d N.sy k) DW []
def Nod.start(N:Nod):Nod :=
 if Db N.d N.sy≠0 then N
 else if NN N.d N.sy<(N.d.length:Int)then N.bare true (JM N.d N.sy) (ME N.d N.sy) (GA N.d N.sy) [.start]
 else N.bare true N.d N.sy (GA N.d N.sy) [.start]
def Meet.move(M:Meet)(k:Int)(at_:Nat):Meet :=
 match M.bt[at_%M.bt.length]? with
 | none=>M
 | some l =>
  let A:=if k≠6 then{ M with bt:=M.bt.eraseIdx (at_%M.bt.length) }else M
  if k≠5 then A.nn l else A
def Meet.rY(M:Meet):Meet:=M.bt.foldl (λM l=>M.nn l) { M with bt:=[] }
end
section
open Go.RowKit
section
def stA(s:Sto):Array Value:=#[.int .i64 (s.V 0),.int .i64 (s.V 1),.int .i64 (s.V 2),.int .i64 (s.V 3),.int .i64 (s.V 4),.int .i64 (s.V 5),.int .i64 (s.V 6),.int .i64 (s.V 7),.int .i64 (s.L 0),.int .i64 (s.L 1),.int .i64 (s.L 2),.int .i64 (s.L 3),.int .i64 (s.L 4),.int .i64 (s.L 5),.int .i64 (s.L 6),.int .i64 (s.L 7),.int .i64 (s.C 0),.int .i64 (s.A 0),.int .i64 (s.C 1),.int .i64 (s.A 1),.int .i64 (s.C 2),.int .i64 (s.A 2),.int .i64 (s.C 3),.int .i64 (s.A 3),.int .i64 (s.C 4),.int .i64 (s.A 4),.int .i64 (s.C 5),.int .i64 (s.A 5),.int .i64 (s.C 6),.int .i64 (s.A 6),.int .i64 (s.C 7),.int .i64 (s.A 7),.bool (s.R 0),.bool (s.R 1),.bool (s.R 2),.bool (s.R 3),.bool (s.R 4),.bool (s.R 5),.bool (s.R 6),.bool (s.R 7)]
theorem lX(s:Sto)(i:Nat)(h:i<8):(stA s)[i]?=some (.int .i64 (s.V i)):=by
 rcases(by omega:i=0\/i=1\/i=2\/i=3\/i=4\/i=5\/i=6\/i=7)with rfl|rfl|rfl|rfl|rfl|rfl|rfl|rfl<;>rfl
theorem lW(s:Sto)(i:Nat)(h:i<8):(stA s)[8+i]?=some (.int .i64 (s.L i)):=by
 rcases(by omega:i=0\/i=1\/i=2\/i=3\/i=4\/i=5\/i=6\/i=7)with rfl|rfl|rfl|rfl|rfl|rfl|rfl|rfl<;>rfl
theorem lV(s:Sto)(i:Nat)(h:i<8):(stA s)[16+i*2]?=some (.int .i64 (s.C i)):=by
 rcases(by omega:i=0\/i=1\/i=2\/i=3\/i=4\/i=5\/i=6\/i=7)with rfl|rfl|rfl|rfl|rfl|rfl|rfl|rfl<;>rfl
theorem lU(s:Sto)(i:Nat)(h:i<8):(stA s)[16+i*2+1]?=some (.int .i64 (s.A i)):=by
 rcases(by omega:i=0\/i=1\/i=2\/i=3\/i=4\/i=5\/i=6\/i=7)with rfl|rfl|rfl|rfl|rfl|rfl|rfl|rfl<;>rfl
def Bs(w:World)(g:Nat)(s:Sto):Prop:=w.heap[g]?=some (.cells (stA s) 89)
variable{g:Nat}{s:Sto}{w:World}
theorem Bs.tZ(h:Bs w g s)(i:Nat)(a:i<8):w.cell? ⟨g,i,none⟩=some (.int .i64 (s.V i)):=(cell_of_row _ _ i _ _ _ h).trans (lX s i a)
theorem Bs.tY(h:Bs w g s)(i:Nat)(a:i<8):w.cell? ⟨g,8+i,none⟩=some (.int .i64 (s.L i)):=(cell_of_row _ _ (8+i) _ _ _ h).trans (lW s i a)
theorem Bs.tW(h:Bs w g s)(i:Nat)(a:i<8):w.cell? ⟨g,16+i*2,none⟩=some (.int .i64 (s.C i)):=(cell_of_row _ _ (16+i*2) _ _ _ h).trans (lV s i a)
theorem Bs.tU(h:Bs w g s)(i:Nat)(a:i<8):w.cell? ⟨g,16+i*2+1,none⟩=some (.int .i64 (s.A i)):=(cell_of_row _ _ (16+i*2+1) _ _ _ h).trans (lU s i a)
theorem jg(a b c d:Int):∀ w,(binOp .neq 85 (.agg #[.int .i64 a,.int .i64 b]) (.agg #[.int .i64 c,.int .i64 d])).run prog w=.ok (.bool (!decide (a=c/\b=d))) w:=by
 intro w;rw[run_neq_struct,run_equalIn_agg w 9999 _ _ _ (by kernel_rfl) (by kernel_rfl)];unfold Program.fieldsOf;rw[underlying85];have e:=underlying3;have f:=underlying45;simp[Op.eqFields,go_sem,e,f]
 repeat' split
 all_goals simp_all
theorem eK(a b:Int):∀ w,(binOp .neq 85 (.agg #[.int .i64 a,.int .i64 b]) (.agg #[.int .i64 0,.int .i64 0])).run prog w=.ok (.bool (!decide (a=0/\b=0))) w:=jg a b 0 0
def vaL(f:Nat->Int):List Value:=[.int .i64 (f 0),.int .i64 (f 1),.int .i64 (f 2),.int .i64 (f 3),.int .i64 (f 4),.int .i64 (f 5),.int .i64 (f 6),.int .i64 (f 7)]
def vaA(f:Nat->Int):Array Value:=(vaL f).toArray
theorem cJ(f:Nat->Int)(j:Nat)(u:Value)(h:(vaL f)[j]?=some u):j<8/\u=.int .i64 (f j):=by
 have a:j<8:=(V'.1 h).1;refine⟨a,?_⟩;rcases(by omega:j=0\/j=1\/j=2\/j=3\/j=4\/j=5\/j=6\/j=7)with rfl|rfl|rfl|rfl|rfl|rfl|rfl|rfl<;>(simp[vaL]at h;exact h.symm)
theorem Bs.tP(h:Bs w g s):w.rangeAt g 0 (vaL s.V):=by
 intro j u b;obtain⟨a,rfl⟩:=cJ _ _ _ b;rw[nS];exact h.tZ j a
theorem Bs.tO(h:Bs w g s):w.rangeAt g 8 (vaL s.L):=by
 intro j u b;obtain⟨a,rfl⟩:=cJ _ _ _ b;exact h.tY j a
theorem jQ(f:Nat->Int):(prog.info? 83).map (·.size)=some (vaL f).length:=by show _=some 8;kernel_rfl
theorem GU{d:Array Oper}{c:List Oper}{op:Oper}{a:Act}{Q:Exit->Act->World->Prop}(e:op.guard=none)(x:Operand)(i:op.op=.load 83 x)(b o:Nat)(j:a.eval x=.pointer (some ⟨b,o,none⟩))(f:Nat->Int)(g:w.rangeAt b o (vaL f))(h:wpList prog d Q c (a.put op.dst (.agg (vaA f))) w):wpList prog d Q (op::c) a w :=
 wpList_load_mid e 83 x i b o j (vaL f) _ g underlying83 rfl (jQ f) h
theorem V5(f:Nat->Int)(i:Nat)(a:i<8)(w:World):(Instr.index 83 (.agg (vaA f)) (.int .i64 (i:Int))).run prog w=.ok (.int .i64 (f i)) w:=by
 rcases(by omega:i=0\/i=1\/i=2\/i=3\/i=4\/i=5\/i=6\/i=7)with rfl|rfl|rfl|rfl|rfl|rfl|rfl|rfl<;>kernel_rfl
structure NX where
 tape:S3
 mv:S3
 synced:S3
 fa:S3
 ae:S3
 br:S3
 hv:Nat->S3
 cl:Option Nat
def AG(i ob:Nat)(p:Nod)(x:NX):Array Value:=([iv (i:Int),.bool p.up,S3.v x.tape,iv p.sy,iv (p.bad:Int),pt ob 0,iv p.vo.p.r,iv p.vo.p.n,S3.v x.mv,S3.v x.synced,iv p.dT,iv p.bn.gC.r,iv p.bn.gC.n,.bool (p.bn.rk 0),.bool (p.bn.rk 1),.bool (p.bn.rk 2),.bool (p.bn.rk 3),.bool (p.bn.rk 4),iv ((p.bn.an 0).p.r),iv ((p.bn.an 0).p.n),S3.v (x.hv 0),iv ((p.bn.an 1).p.r),iv ((p.bn.an 1).p.n),S3.v (x.hv 1),iv ((p.bn.an 2).p.r),iv ((p.bn.an 2).p.n),S3.v (x.hv 2),iv ((p.bn.an 3).p.r),iv ((p.bn.an 3).p.n),S3.v (x.hv 3),iv ((p.bn.an 4).p.r),iv ((p.bn.an 4).p.n),S3.v (x.hv 4),iv (p.bn.bN 0:Int),iv (p.bn.bN 1:Int),iv (p.bn.bN 2:Int),iv (p.bn.bN 3:Int),iv (p.bn.bN 4:Int),iv (p.bn.next:Int),S3.v x.fa,S3.v x.ae,iv (p.done:Int)]++((stA p.ni).toList++[S3.v x.br,.map x.cl])).toArray
def FF(l:Let)(vs wh:S3):Array Value:=#[iv (l.kind:Int),iv (l.src:Int),iv (l.dst:Int),iv l.gC.r,iv l.gC.n,iv l.cn.bu,iv l.cn.b.r,iv l.cn.b.n,iv l.cn.w.k,iv l.cn.w.c,iv l.cn.w.s,iv l.cn.w.n,iv l.cn.w.v,S3.v vs,iv (l.bu:Int),S3.v wh]
def GM(t:Tol):List Value:=[iv (t.n:Int),iv t.c,iv t.s,iv t.e,iv t.a]
def cmV(c:Cmd):List Value:=[iv c.k,iv c.c,iv c.s,iv c.n,iv c.v]
def cmL(l:List Cmd):List Value:=l.flatMap cmV
theorem Cw(l m:List Cmd):cmL (l++m)=cmL l++cmL m:=by simp[cmL]
theorem BO(l:List Cmd):(cmL l).length=l.length*5:=by
 induction l with
 | nil=>rfl
 | cons c l ih=>rw[cmL,po,H'];show 5+(cmL l).length=_;rw[ih,nD];omega
theorem Pj(l:List Cmd):∀ u∈cmL l,u.oneCell'=true:=by
 intro u b;obtain⟨c,_,a⟩:=pV.1 b;simp only[cmV,nf,P',or_false]at a;rcases a with rfl|rfl|rfl|rfl|rfl<;>rfl
theorem Pi{l:List Cmd}{k:Nat}{c:Cmd}(h:l[k]?=some c){j:Nat}{u:Value}(a:(cmV c)[j]?=some u):(cmL l)[5*k+j]?=some u:=by
 induction l generalizing k with
 | nil=>cases h
 | cons d l ih =>
  rw[cmL,po];cases k with
  | zero =>
   simp only[oC,Y']at h;subst h;rw[nm (by have:=(V'.1 a).1;omega)];simpa using a
  | succ k =>
   rw[nt (by show 5<=_;omega),show 5*(k+1)+j-(cmV d).length=5*k+j by show 5*(k+1)+j-5=_;omega];exact ih (by simpa using h)
theorem LE(l:List Cmd)(k:Nat):(cmL l).drop (5*k)=cmL (l.drop k):=by
 induction l generalizing k with
 | nil=>simp[cmL]
 | cons c l ih =>
  cases k with
  | zero=>simp
  | succ k =>
   show(cmV c++cmL l).drop (5*(k+1))=cmL (l.drop k);rw[<- ih k,List.drop_append,show(cmV c).drop (5*(k+1))=[]from nN (by show 5<=_;omega),oU,show 5*(k+1)-(cmV c).length=5*k by show 5*(k+1)-5=_;omega]
def Frz(g:Gh)(x:S3):Prop:=∀ a,x.a=some a->g.t a.block=.z
structure FSl(g:Gh)(w:World)(x:S3)(l:List Int):Prop where
 s:Sl w x.v l
 z:l≠[]->Frz g x
structure FSv(g:Gh)(w:World)(x:S3)(l:List Vt):Prop where
 s:Sv w x.v l
 z:l≠[]->Frz g x
end
section
variable{B:Nat}{T:List Tg}{g g':Gh}{w w':World}
section
variable{b i nb ob r:Nat}{bs:List Nat}{f:Cmd->Option Bal}{l:List Let}{x:S3}
theorem Cg.zc(c:Cg B T g w g' w')(e:Tg.z∉T)(d:b<w.heap.size)(a:g.t b=.z):w'.heap[b]?=w.heap[b]?:=c.same b d (by rw[a];exact e) (λh=>by rw[a]at h;cases h)
theorem FSl.ch{l:List Int}(h:FSl g w x l)(c:Cg B T g w g' w')(u:Tg.z∉T:=by simp):FSl g' w' x l:=by
 obtain⟨⟨⟨a,q,p,n,o,j⟩,k,m⟩,r⟩:=h;simp only[Value.slice.injEq]at p;obtain⟨rfl,e,rfl⟩:=p;rcases j with j|⟨b,off,ha,hbs,hcell⟩
 .exact⟨⟨⟨_,_,by simp only[Value.slice.injEq,and_true,true_and];exact e,n,o,.inl j⟩,k,m⟩,λh=>absurd j h⟩
 .have hne:∀ _:l≠[],g.t b=.z:=λh=>r h _ ha;by_cases f:l=[]
  .exact⟨⟨⟨_,_,by simp only[Value.slice.injEq,and_true,true_and];exact e,n,o,.inl f⟩,k,m⟩,λh=>absurd f h⟩
  .refine⟨⟨⟨_,_,by simp only[Value.slice.injEq,and_true,true_and];exact e,n,o,.inr ⟨b,off,ha,j' hbs c.size,λi s=>?_⟩⟩,k,m⟩,λ_ v d=>?_⟩
   .rw[World.cell?_of_block (w:=w) (c.zc u hbs (hne f))];exact hcell i s
   .rw[ha]at d;simp only[Y']at d;subst d;rw[c.tag hbs (λh=>absurd ((hne f).symm.trans h) (by simp))];exact hne f
theorem FSv.ch{l:List Vt}(h:FSv g w x l)(c:Cg B T g w g' w')(y:Tg.z∉T:=by simp):FSv g' w' x l:=by
 obtain⟨⟨⟨a,p,o,m,n,f⟩,k⟩,q⟩:=h;simp only[Value.slice.injEq]at o;obtain⟨rfl,e,rfl⟩:=o;rcases f with f|⟨b,off,ha,hbs,hcell⟩
 .exact⟨⟨⟨_,_,by simp only[Value.slice.injEq,and_true,true_and];exact e,m,n,.inl f⟩,k⟩,λh=>absurd f h⟩
 .by_cases hl:l=[]
  .exact⟨⟨⟨_,_,by simp only[Value.slice.injEq,and_true,true_and];exact e,m,n,.inl hl⟩,k⟩,λh=>absurd hl h⟩
  .have hzb:g.t b=.z:=q hl _ ha;refine⟨⟨⟨_,_,by simp only[Value.slice.injEq,and_true,true_and];exact e,m,n,.inr ⟨b,off,ha,j' hbs c.size,λi v r j u s=>?_⟩⟩,k⟩,λ_ A d=>?_⟩
   .rw[World.cell?_of_block (w:=w) (c.zc y hbs hzb)];exact hcell i v r j u s
   .rw[ha]at d;simp only[Y']at d;subst d;rw[c.tag hbs (λh=>absurd (hzb.symm.trans h) (by simp))];exact hzb
structure Rc(g:Gh)(w:World)(x:S3)(l:List Cmd):Prop where
 len:x.n=l.length
 cap:x.n<=x.c
 tg:x.a=none->x.c=0
 ex:l=[]\/∃ b off,x.a=some ⟨b,off,none⟩/\b<w.heap.size/\(∀ j u,(cmL l)[j]?=some u->w.cell? ⟨b,off+j,none⟩=some u)/\(g.t b=.z\/off+5*l.length<=g.k b)
theorem Rc.nil(g:Gh)(w:World):Rc g w s30 []:=⟨rfl,A' _,λ_=>rfl,.inl rfl⟩
theorem Rc.ch{l:List Cmd}(h:Rc g w x l)(c:Cg B T g w g' w')(d:Tg.z∉T:=by simp):Rc g' w' x l:=by
 refine⟨h.len,h.cap,h.tg,?_⟩;rcases h.ex with h1|⟨b,off,h1,h2,h3,h4⟩
 .exact .inl h1
 .refine .inr ⟨b,off,h1,j' h2 c.size,λj u a=>?_,?_⟩
  .rcases h4 with h4|h4
   .rw[World.cell?_of_block (w:=w) (c.zc d h2 h4)];exact h3 j u a
   .have hjl:j<(cmL l).length:=(V'.1 a).1;rw[BO]at hjl
    rw[c.sI b h2 (off+j) (by omega)];exact h3 j u a
  .rcases h4 with h4|h4
   .exact .inl ((c.tag h2 (by rw[h4];intro h;cases h)).trans h4)
   .exact .inr (mV h4 (c.sH b h2))
structure Box(g:Gh)(w:World)(b:Nat)(cs:Array Value)(t:TypeId):Prop where
 r:w.heap[b]?=some (.cells cs t)
 z:g.t b=.z
theorem Box.ch{a:Array Value}{t:TypeId}(h:Box g w b a t)(c:Cg B T g w g' w')(d:Tg.z∉T:=by simp):Box g' w' b a t:=⟨(c.zc d (rl h.r) h.z).trans h.r,(c.tag (rl h.r) (by rw[h.z];intro h;cases h)).trans h.z⟩
def CP(g:Gh)(w:World)(b:Nat)(l:Let):Prop:=∃ vs wh,Box g w b (FF l vs wh) 142/\FSv g w vs l.mv/\Rc g w wh l.fv
theorem CP.ch{l:Let}(h:CP g w b l)(c:Cg B T g w g' w')(a:Tg.z∉T:=by simp):CP g' w' b l:=let ⟨vs,wh,h1,h2,h3⟩:=h;⟨vs,wh,h1.ch c a,h2.ch c a,h3.ch c a⟩
def Lw(g:Gh)(w:World)(nb:Nat)(v:Value):Pend->Prop
 | .began b vs=>∃ b1 b2 b3 x,v=.func (.func 58) #[] #[pt b1 0,pt b2 0,pt b3 0]/\Box g w b1 #[pt nb 0] 70/\Box g w b2 #[iv b.r,iv b.n] 75/\Box g w b3 #[S3.v x] 76/\FSv g w x vs
 | .prom to b vs=>∃ b1 b2 b3 x lb l,v=.func (.func 83) #[] #[pt b1 0,pt b2 0,pt b3 0]/\Box g w b1 #[pt nb 0] 70/\Box g w b2 #[pt lb 0] 143/\Box g w b3 #[S3.v x] 76/\FSv g w x vs/\CP g w lb l/\l.src=to/\l.gC=b
 | .voted to u=>∃ b1 b2 lb l,v=.func (.func 89) #[] #[pt b1 0,pt b2 0]/\Box g w b1 #[pt nb 0] 70/\Box g w b2 #[pt lb 0] 143/\CP g w lb l/\l.src=to/\l.cn=u
 | .eo to b=>∃ b1 b2 b3,v=.func (.func 122) #[] #[pt b1 0,pt b2 0,pt b3 0]/\Box g w b1 #[pt nb 0] 70/\Box g w b2 #[iv (to:Int)] 3/\Box g w b3 #[iv b.r,iv b.n] 75
 | .prop u=>∃ b1 b2,v=.func (.func 106) #[] #[pt b1 0,pt b2 0]/\Box g w b1 #[pt nb 0] 70/\Box g w b2 (vtA u) 140
 | .askNews to=>∃ b1 b2 lb l,v=.func (.func 91) #[] #[pt b1 0,pt b2 0]/\Box g w b1 #[pt nb 0] 70/\Box g w b2 #[pt lb 0] 143/\CP g w lb l/\l.src=to
 | .start=>∃ b1,v=.func (.func 71) #[] #[pt b1 0]/\Box g w b1 #[pt nb 0] 70
 | .tell to bu=>∃ b1 b2 lb l,v=.func (.func 93) #[] #[pt b1 0,pt b2 0]/\Box g w b1 #[pt nb 0] 70/\Box g w b2 #[pt lb 0] 143/\CP g w lb l/\l.src=to/\l.bu=bu
theorem Lw.ch{v:Value}{q:Pend}(h:Lw g w nb v q)(c:Cg B T g w g' w')(a:Tg.z∉T:=by simp):Lw g' w' nb v q:=by
 cases q with
 | began b vs=>obtain⟨d,i,o,x,e,f,j,k,m⟩:=h;exact⟨d,i,o,x,e,f.ch c a,j.ch c a,k.ch c a,m.ch c a⟩
 | prom to b vs=>obtain⟨d,i,o,x,n,l,e,f,j,k,m,p,r⟩:=h;exact⟨d,i,o,x,n,l,e,f.ch c a,j.ch c a,k.ch c a,m.ch c a,p.ch c a,r⟩
 | voted to u=>obtain⟨d,i,n,l,e,f,j,k,m⟩:=h;exact⟨d,i,n,l,e,f.ch c a,j.ch c a,k.ch c a,m⟩
 | eo to b=>obtain⟨d,i,o,e,f,j,k⟩:=h;exact⟨d,i,o,e,f.ch c a,j.ch c a,k.ch c a⟩
 | prop u=>obtain⟨d,i,e,f,j⟩:=h;exact⟨d,i,e,f.ch c a,j.ch c a⟩
 | askNews to=>obtain⟨d,i,n,l,e,f,j,k,m⟩:=h;exact⟨d,i,n,l,e,f.ch c a,j.ch c a,k.ch c a,m⟩
 | start=>obtain⟨d,e,f⟩:=h;exact⟨d,e,f.ch c a⟩
 | tell to bu=>obtain⟨d,i,n,l,e,f,j,k,m⟩:=h;exact⟨d,i,n,l,e,f.ch c a,j.ch c a,k.ch c a,m⟩
def mkA(x:Cmd × Bal × Nat):MapEntry:={ key:=.agg (cmV x.1).toArray,val:=.agg #[iv x.2.1.r,iv x.2.1.n],born:=x.2.2 }
structure AskAt(g:Gh)(w:World)(τ:Tg)(b:Nat)(f:Cmd->Option Bal):Prop where
 t:g.t b=τ
 k:g.k b=0
 ex:∃ (es:List (Cmd × Bal × Nat)) (clock:Nat),w.heap[b]?=some (.map (es.map mkA).toArray clock)/\(∀ x∈es,x.2.2<clock)/\(es.map (·.2.2)).Nodup/\(es.map (·.1)).Nodup/\∀ c,f c=(es.find? λx=>decide (c=x.1)).map (·.2.1)
def XI(g:Gh)(w:World)(i:Nat)(f:Cmd->Option Bal):Option Nat->Prop
 | some b=>AskAt g w (.n 5 i) b f
 | none=>f=λ_=>none
structure Pends(g:Gh)(w:World)(nb:Nat)(vs:List Value)(l:List Pend):Prop where
 len:vs.length=l.length
 at_:∀ (k:Nat) (v:Value) (q:Pend),vs[k]?=some v->l[k]?=some q->Lw g w nb v q
structure NodeAt(g:Gh)(w:World)(i nb ob:Nat)(x:NX)(p:Nod):Prop where
 row:w.heap[nb]?=some (.cells (AG i ob p x) 97)
 tag:g.t nb=.n 0 i
 sH:g.k nb=0
 tape:FSl g w x.tape p.d
 mv:FSv g w x.mv p.vo.vs
 an:∀ j,j<5->FSv g w (x.hv j) (p.bn.an j).vs
 bw:∃ vs,OwnS g w (.n 1 i) true 1 1 x.synced vs/\Pends g w nb vs p.bw
 fa:OwnS g w (.n 2 i) false 49 5 x.fa (cmL p.bn.fa)
 ae:OwnS g w (.n 3 i) true 49 5 x.ae (cmL p.ae)
 br:OwnS g w (.n 4 i) false 49 5 x.br (cmL p.br)
 cl:XI g w i p.cl x.cl
 sJ:p.up=true->∃ b,x.cl=some b
structure Lets(g:Gh)(w:World)(bs:List Nat)(l:List Let):Prop where
 len:bs.length=l.length
 at_:∀ (k b:Nat) (m:Let),bs[k]?=some b->l[k]?=some m->CP g w b m
structure OutAt(g:Gh)(w:World)(ob:Nat)(lt tl:S3)(ls:List Let)(ts:List Tol):Prop where
 row:w.heap[ob]?=some (.cells #[lt.v,tl.v] 67)
 tag:g.t ob=.n 50 0
 sH:g.k ob=0
 bt:∃ bs,OwnS g w (.n 51 0) false 143 1 lt (bs.map (pt · 0))/\Lets g w bs ls
 ew:OwnS g w (.n 52 0) false 103 5 tl (ts.flatMap GM)
theorem Pends.ch{a:List Value}{l:List Pend}(h:Pends g w nb a l)(c:Cg B T g w g' w')(e:Tg.z∉T:=by simp):Pends g' w' nb a l:=⟨h.len,λk v q b d=>(h.at_ k v q b d).ch c e⟩
theorem Lets.ch(h:Lets g w bs l)(c:Cg B T g w g' w')(d:Tg.z∉T:=by simp):Lets g' w' bs l:=⟨h.len,λk v q a b=>(h.at_ k v q a b).ch c d⟩
theorem Lets.snoc{m:Let}(h:Lets g w bs l)(f:CP g w b m):Lets g w (bs++[b]) (l++[m]):=by
 refine⟨by simp[h.len],λk c q a d=>?_⟩;by_cases e:k<bs.length
 .rw[nm e]at a
  rw[nm (by rw[<- h.len];exact e)]at d
  exact h.at_ k c q a d
 .rw[nt (by omega)]at a
  rw[nt (by rw[<- h.len];omega),<- h.len]at d
  cases hx:k-bs.length with
  | zero=>rw[hx]at a d;simp at a d;subst a d;exact f
  | succ n=>rw[hx]at a;simp at a
theorem Cg.rc(c:Cg B T g w g' w'){o:Obj}(h:w.heap[b]?=some o)(a:g.t b=.n r i)(d:Tg.n r i∉T):w'.heap[b]?=some o/\g'.t b=.n r i/\g'.k b=g.k b :=
 ⟨(c.same b (rl h) (by rw[a];exact d) (λh=>by rw[a]at h;cases h)).trans h,(c.tag (rl h) (by rw[a];intro h;cases h)).trans a,c.tm b (rl h) (by rw[a];exact d) (by rw[a];intro h;cases h)⟩
theorem AskAt.ch(h:AskAt g w (.n r i) b f)(c:Cg B T g w g' w')(hn:Tg.n r i∉T:=by simp):AskAt g' w' (.n r i) b f:=by
 obtain⟨e,j,d,k,l,m⟩:=h;have a:=c.rc l e hn;exact⟨a.2.1,a.2.2.trans j,d,k,a.1,m⟩
theorem XI.ch{a:Option Nat}(h:XI g w i f a)(c:Cg B T g w g' w')(hn:Tg.n 5 i∉T:=by simp):XI g' w' i f a:=by
 cases a with
 | none=>exact h
 | some b=>exact AskAt.ch h c hn
theorem NodeAt.ch{x:NX}{p:Nod}(h:NodeAt g w i nb ob x p)(c:Cg B T g w g' w')(a:Tg.z∉T:=by simp)(hn:∀ r,r<6->Tg.n r i∉T:=by simp):NodeAt g' w' i nb ob x p:=by
 have b:=c.rc h.row h.tag (hn 0 (by omega));obtain⟨k,d,e⟩:=h.bw;exact⟨b.1,b.2.1,b.2.2.trans h.sH,h.tape.ch c a,h.mv.ch c a,λj f=>(h.an j f).ch c a,⟨k,d.ch c (hn 1 (by omega)) (by simp),e.ch c a⟩,h.fa.ch c (hn 2 (by omega)) (by simp),h.ae.ch c (hn 3 (by omega)) (by simp),h.br.ch c (hn 4 (by omega)) (by simp),h.cl.ch c (hn 5 (by omega)),h.sJ⟩
theorem OutAt.ch{lt d:S3}{b:List Let}{e:List Tol}(h:OutAt g w ob lt d b e)(c:Cg B T g w g' w')(k:Tg.z∉T:=by simp)(hn:∀ r,50<=r->Tg.n r 0∉T:=by simp):OutAt g' w' ob lt d b e:=by
 have a:=c.rc h.row h.tag (hn 50 (by omega));obtain⟨f,i,j⟩:=h.bt;exact⟨a.1,a.2.1,a.2.2.trans h.sH,⟨f,i.ch c (hn 51 (by omega)) (by simp),j.ch c k⟩,h.ew.ch c (hn 52 (by omega)) (by simp)⟩
end
end
section
def TN(i:Nat):List Tg:=[.n 0 i,.n 1 i,.n 2 i,.n 3 i,.n 4 i,.n 5 i,.n 50 0,.n 51 0,.n 52 0,.n 60 0]
theorem BB(i:Nat):Tg.z∉TN i:=by simp[TN]
def NS(i nb ob:Nat)(g:Gh)(w:World)(p:Nod)(ls:List Let)(ts:List Tol):Prop:=∃ x lt tl,NodeAt g w i nb ob x p/\OutAt g w ob lt tl ls ts/\Jw g w
variable{B i nb ob:Nat}{T:List Tg}{e:TypeId}{g g':Gh}{l:List Pend}{ls:List Let}{p:Nod}{ts:List Tol}{w w':World}{x:S3}{τ:Tg}
theorem nsC{c:Nat}{x:NX}{lt b:S3}{L:List Sh}(d:NodeAt g w i nb ob x p)(e:OutAt g w ob lt b ls ts)(C:Cg B T g w g' w')(K:Kn c g' w' L)(a:Tg.z∉T:=by simp)(f:∀ r,r<6->Tg.n r i∉T:=by simp)(h:∀ r,50<=r->Tg.n r 0∉T:=by simp):NS i nb ob g' w' p ls ts:=⟨x,lt,b,d.ch C a f,e.ch C a h,K.new⟩
def NP(i nb ob:Nat)(g:Gh)(w:World)(v:Value)(p:Nod)(ls:List Let)(ts:List Tol):Ending->World->Prop:=λe w'=>∃ g',e=.returned v/\NS i nb ob g' w' p ls ts/\Cg w.heap.size (TN i) g w g' w'
theorem NS.new(h:NS i nb ob g w p ls ts):Jw g w:=let ⟨_,_,_,_,_,h⟩:=h;h
theorem NS.af(h:NS i nb ob g w p ls ts)(b:Bw w w'):NS i nb ob g w' p ls ts :=
 let ⟨x,lt,tl,h1,h2,h3⟩:=h
 have c:=Cg.ed (B:=0) (T:=[]) (g:=g) b
 ⟨x,lt,tl,h1.ch c,h2.ch c,λk a=>h3 k (mV b.size a)⟩
theorem NS.sc(h:NS i nb ob g w p ls ts)(c:Cg B [] g w g' w')(a:Jw g' w'):NS i nb ob g' w' p ls ts :=
 let ⟨x,lt,tl,h1,h2,_⟩:=h
 ⟨x,lt,tl,h1.ch c,h2.ch c,a⟩
theorem NodeAt.sG{b:Nat}{x:NX}(h:NodeAt g w i nb ob x p)(a:x.cl=some b):AskAt g w (.n 5 i) b p.cl:=by have:=h.cl;rw[a]at this;exact this
theorem Ci(h:∃ vs,OwnS g w (.n 1 i) true 1 1 x vs/\Pends g w nb vs l)(c:Cg B T g w g' w')(b:Tg.z∉T:=by simp)(a:Tg.n 1 i∉T:=by simp):∃ vs,OwnS g' w' (.n 1 i) true 1 1 x vs/\Pends g' w' nb vs l :=
 let ⟨vs,h1,h2⟩:=h
 ⟨vs,h1.ch c a (by simp),h2.ch c b⟩
theorem DZ{l:List Let}(h:∃ bs:List Nat,OwnS g w (.n 51 0) false 143 1 x (bs.map (pt · 0))/\Lets g w bs l)(c:Cg B T g w g' w')(b:Tg.z∉T:=by simp)(a:Tg.n 51 0∉T:=by simp):∃ bs:List Nat,OwnS g' w' (.n 51 0) false 143 1 x (bs.map (pt · 0))/\Lets g' w' bs l :=
 let ⟨bs,h1,h2⟩:=h
 ⟨bs,h1.ch c a (by simp),h2.ch c b⟩
theorem BG{a:Nat->S3}{f:Nat->Acc}(h:∀ j,j<5->FSv g w (a j) (f j).vs)(c:Cg B T g w g' w')(d:Tg.z∉T:=by simp):∀ j,j<5->FSv g' w' (a j) (f j).vs:=λj b=>(h j b).ch c d
theorem Pends.snoc{d:List Value}{v:Value}{q:Pend}(h:Pends g w nb d l)(f:Lw g w nb v q):Pends g w nb (d++[v]) (l++[q]):=by
 refine⟨by simp[h.len],λk c m a b=>?_⟩;by_cases e:k<d.length
 .rw[nm e]at a
  rw[nm (by rw[<- h.len];exact e)]at b
  exact h.at_ k c m a b
 .rw[nt (by omega)]at a
  rw[nt (by rw[<- h.len];omega),<- h.len]at b
  cases hx:k-d.length with
  | zero=>rw[hx]at a b;simp at a b;subst a b;exact f
  | succ n=>rw[hx]at a;simp at a
theorem OwnS.num{a:Bool}{l:List Cmd}(h:OwnS g w τ a e 5 x (cmL l)):x.n=l.length:=by have:=h.len;rw[BO]at this;omega
theorem OwnS.rc{l:List Cmd}(h:OwnS g w τ true e 5 x (cmL l)):Rc g w x l:=by
 have a:=h.num;rcases h.ex with⟨h1,h2,h3⟩|⟨b,cur,h1,h2,h3,h4,h5,h6,h7,h8⟩
 .exact⟨a,by omega,λ_=>h3,.inl (Z' (by omega))⟩
 .refine⟨a,h3,λh=>(by rw[h1]at h;cases h),.inr ⟨b,0,h1,rl h2,λj u c=>?_,.inr ?_⟩⟩
  .obtain⟨b',hb',_,hc⟩:=h.cell c;rw[h1]at hb'
   simp only[Y',Addr.mk.injEq,and_true]at hb';subst hb';rw[nS];exact hc
  .rw[h8,BO];simp;omega
end
section
variable{P:Program}{fn:Func}{R:Ending->World->Prop}{B:Nat}{T:List Tg}{g:Gh}{w:World}
section
def Tf:List Kt->Bool|.c (.loop _)::_=>true|_=>false
def kP:List Kt->Code|.c (.loop b)::_=>b|_=>.skip
def isJ:List Kt->Bool|.j _::_=>true|_=>false
def jK:List Kt->Act->World->Prop|.j J::_=>J|_=>λ_ _=>False
def fB(s:Xs)(n:Nat)(J:Act->World->Prop)(e:List (Nat × Value))(z:Nat->Value)(L:List Sh):Xs:=⟨.c (kP s.K)::.j J::s.K.tail,⟨n,e,z⟩,L⟩
variable{s:Xs}
theorem Ce(n:Nat)(d:List (Nat × Value))(m:List Bool)(i:List Sh)(a:Nat->Gh->World->List (Nat × Value)->List Sh->Prop)(o:Tf s.K=true)(q:s.f.n=n)(C:d.map (λp=>lk s.f.z s.f.e p.1)=d.map (·.2))(y:BS (AI m s.L)=i)(k:Nat)(r:Kn B g w s.L->a k g w d i)(round:∀ k g w e z L,a k g w e L->∀ J:Act->World->Prop,(∀ k' g' w' e' z' L',k'<k->a k' g' w' e' L'->Kn B g' w' L'->J (⟨n,e',z'⟩:Fm).act w')->GG P fn R B T (fB s n J e z L) g w):GG P fn R B T s g w:=by
 refine Af λj=>gFm d C λz=>?_;obtain⟨K,f,L⟩:=s;simp only at q;subst q;have l:BS (AI m L)=i:=y;have A:GG P fn R B T ⟨K,⟨f.n,d,z⟩,BS (AI m L)⟩ g w->GG P fn R B T ⟨K,⟨f.n,d,z⟩,L⟩ g w:=λh=>⟨λj=>h.ex (j.sub (D2 m L)).tL⟩;refine A ?_;rw[l];cases K with
 | nil=>cases o
 | cons t K =>
  cases t with
  | c x =>
   cases x with
   | loop b=>exact kD a (λk g w e z L u J v=>round k g w e z L u J v) (r j)
   | _=>cases o
  | _=>cases o
theorem EE(J:Act->World->Prop)(n:Nat)(e:List (Nat × Value))(m:List Bool)(b:List Sh)(i:isJ s.K=true)(c:jK s.K=J)(l:s.f.n=n)(q:e.map (λp=>lk s.f.z s.f.e p.1)=e.map (·.2))(k:BS (AI m s.L)=b)(h:∀ z,Kn B g w s.L->Kn B g w b->J (⟨n,e,z⟩:Fm).act w):GG P fn R B T s g w:=by
 refine Af λa=>gFm e q λz=>⟨λo=>?_⟩;obtain⟨K,f,L⟩:=s;simp only at l c k i a;subst l;have d:Kn B g w b:=by rw[<- k];exact(o.sub (D2 m L)).tL
 cases K with
 | nil=>cases i
 | cons t K =>
  cases t with
  | j J'=>simp only[jK]at c;rw[c];exact h z a d
  | _=>cases i
def Ka(s:Xs)(i:Nat):Xs:=match s.K with|.x ops (u+1) Ld e L0::K=>⟨.y ops u Ld e L0 i::K,s.f,s.L⟩|_=>s
def fZ(s:Xs)(i j:Nat):Bool:=match s.K with|.x ops (_+1) Ld _ _::_=>(match Region.ready .any ops Ld with|[k,l]=>Nat.beq k i&&Nat.beq l j|_=>false)|_=>false
theorem Dp(i j:Nat)(a:fZ s i j=true)(h:GG P fn R B T (Ka s i) g w)(m:GG P fn R B T (Ka s j) g w):GG P fn R B T s g w:=by
 refine⟨λd=>?_⟩;obtain⟨K,f,L⟩:=s;have b:=h.ex;have c:=m.ex;unfold Ka at b c;unfold fZ at a;cases K with
 | nil=>cases a
 | cons t K =>
  cases t with
  | x ops u Ld e L0 =>
   cases u with
   | zero=>cases a
   | succ u =>
    simp only at b c a;have n:Region.ready .any ops Ld=[i,j]:=by
     split at a
     .rename_i k l hk
      simp only[nC]at a;rw[hk,nF a.1,nF a.2]
     .cases a
    exact mS n (b d) (c d)
  | _=>cases a
def Y1(s:Xs)(J:Act->World->Prop):Xs:=match s.K with|t::K=>⟨t::.j J::K,s.f,s.L⟩|[]=>s
theorem Ej(Q:Exit->Act->World->Prop):Exit.then (Q .normal) Q=Q:=by
 funext e a w
 cases e<;>rfl
theorem Ct(n:Nat)(d:Gh->World->List (Nat × Value)->List Sh->Prop)(r:s.K.isEmpty=false)(k:∀ J:Act->World->Prop,(∀ g' w' e z L,d g' w' e L->Kn B g' w' L->J (⟨n,e,z⟩:Fm).act w')->GG P fn R B T (Y1 s J) g w)(l:∀ g' w' e z L,d g' w' e L->GG P fn R B T ⟨s.K.tail,⟨n,e,z⟩,L⟩ g' w'):GG P fn R B T s g w:=by
 obtain⟨K,f,L⟩:=s;cases K with
 | nil=>cases r
 | cons t K =>
  have p:=k (Kq P (bodyPost P fn R) K .normal) (λg' w' e z L q h=>(l g' w' e z L q).ex h);refine⟨λh=>?_⟩;have a:=p.ex h;unfold Y1 at a;simp only at a;cases t with
  | c x=>simp only[Kq,Ej]at a ⊢;exact a
  | b id=>simp only[Kq,Ej]at a ⊢;exact a
  | o ops is=>simp only[Kq,Ej]at a ⊢;exact a
  | x ops m Ld e L0=>simp only[Kq,Ej]at a ⊢;exact a
  | y ops m Ld e L0 i=>simp only[Kq,Ej]at a ⊢;exact a
  | j J=>simp only[Kq,Ej]at a ⊢;exact a
def zL(L:List Sh)(k:Nat):List Sh:=L.set k { L.getD k default with t:=.z,w:=false }
theorem kH(k:Nat)(b:Nat)(A:(BS s.L)[k]?.map (λx=>(x.g,x.t))=some (b,.l))(h:∀ g',Cg B [] g w g' w->GG P fn R B T ⟨s.K,s.f,zL (BS s.L) k⟩ g' w):GG P fn R B T s g w:=by
 refine⟨λF=>?_⟩;have q:=F.tL;generalize O:BS s.L=L at *;have V:∀ x∈L,x.w=false:=λx e=>by rw[<- O]at e;obtain⟨y,_,rfl⟩:=ny.1 e;rfl
 have m:k<L.length:=by
  cases e:L[k]? with
  | none=>rw[e]at A;cases A
  | some x=>exact(V'.1 e).1
 have N:L.getD k default=L[k]:=by rw[nT,E' m];rfl
 rw[E' m]at A
 simp only[nZ,Y',n8]at A;obtain⟨r,I⟩:=A;have d:=q.row _ (nM m);have G:∀ n (D:n<L.length),n≠k->L[n].g≠b:=λn D o a=>by
  have:=q.two D m o (by rw[r];exact a);rw[I]at this
  cases this.2.1
 let g':Gh:=⟨λc=>if c=b then .z else g.t c,g.k⟩
 have H:g.t b=.l:=by rw[<- r,d.2.1];exact I
 have E:B<=b:=by rw[<- r];exact d.2.2.1 I
 refine(h g' ⟨rfl,rfl,rfl,A' _,λc M=>?_,λ_ _=>A' _,λ_ _ _ _=>rfl,λ_ _ _ _=>rfl,λ_ _ _ _=>rfl⟩).ex ⟨λx e=>?_,?_,λc M=>?_,q.base⟩
 .show(if c=b then _ else _)=_\/(_/\_/\(if c=b then _ else _)=_);by_cases a:c=b
  .subst a;right;exact⟨H,E,if_pos rfl⟩
  .left;exact if_neg a
 .unfold zL at e;simp only at e;rw[N]at e
  obtain⟨n,D,rfl⟩:=pB e;have C:n<L.length:=by simpa using D
  rw[pc];split
  .refine⟨d.1,?_,λh=>(by cases h),λh=>absurd rfl h⟩;show(if L[k].g=b then _ else _)=_;rw[if_pos r]
  .rename_i o
   have p:=q.row _ (nM C);refine⟨p.1,?_,p.2.2⟩;show(if L[n].g=b then _ else _)=_;rw[if_neg (G n C (λh=>o h.symm))];exact p.2.1
 .show(zL L k).Pairwise _;unfold zL;rw[N,oP];intro i j Q U S a;have u:i<L.length:=by simpa using Q
  have v:j<L.length:=by simpa using U
  rw[pc,pc]at a ⊢
  by_cases p:k=i
  .rw[if_pos p]at a ⊢
   rw[if_neg (by omega)]at a ⊢
   exact absurd a.symm (by show L[j].g≠L[k].g;rw[r];exact G j v (by omega))
  .rw[if_neg p]at a ⊢
   by_cases J:k=j
   .rw[if_pos J]at a ⊢
    exact absurd a (by show L[i].g≠L[k].g;rw[r];exact G i u (by omega))
   .rw[if_neg J]at a ⊢
    exact q.two u v (by omega) a
 .have:=q.new c M;show(if c=b then _ else _)=_/\_;refine⟨?_,this.2⟩;split
  .rfl
  .exact this.1
end
end
def gS:Gh:=⟨λ_=>.z,λ_=>0⟩
section
variable{P:Program}{fn:Func}{R:Ending->World->Prop}{B:Nat}{T:List Tg}{g:Gh}{w:World}
def me(s:Xs)(i j l:Nat):Bool:=match s.K with|.x ops (_+1) Ld _ _::_=>(match Region.ready .any ops Ld with|[a,b,c]=>Nat.beq a i&&(Nat.beq b j&&Nat.beq c l)|_=>false)|_=>false
theorem YX{s:Xs}(i j l:Nat)(d:me s i j l=true)(r:GG P fn R B T (Ka s i) g w)(v:GG P fn R B T (Ka s j) g w)(y:GG P fn R B T (Ka s l) g w):GG P fn R B T s g w:=by
 refine⟨λn=>?_⟩;obtain⟨K,f,L⟩:=s;have h:=r.ex;have k:=v.ex;have m:=y.ex;unfold Ka at h k m;unfold me at d;cases K with
 | nil=>cases d
 | cons t K =>
  cases t with
  | x ops u Ld e L0 =>
   cases u with
   | zero=>cases d
   | succ u =>
    simp only at h k m d;have o:Region.ready .any ops Ld=[i,j,l]:=by
     split at d
     .rename_i a b c hk
      simp only[nC]at d;rw[hk,nF d.1,nF d.2.1,nF d.2.2]
     .cases d
    refine⟨λp=>absurd (o▸p) (by simp),o▸(λq z=>?_)⟩;rcases(show q=i\/q=j\/q=l by simpa using z)with rfl|rfl|rfl
    .exact h n
    .exact k n
    .exact m n
  | _=>cases d
def Vs:List Sh->List Sh
 | [a,b]=>[b,a]
 | a::l=>a::Vs l
 | []=>[]
theorem I3:∀ L:List Sh,(Vs L).Perm L
 | []=>.refl _
 | [a]=>by simp[Vs]
 | [a,b]=>.swap _ _ _
 | a::b::c::l=>(I3 (b::c::l)).cons a
theorem Ow{s:Xs}(h:GG P fn R B T ⟨s.K,s.f,Vs s.L⟩ g w):GG P fn R B T s g w:=by
 refine⟨λa=>h.ex ⟨λx c=>a.row x ((I3 s.L).mem_iff.1 c),?_,a.new,a.base⟩⟩;refine(I3 s.L).symm.pairwise a.sX ?_;intro x y b e;have:=b e.symm;exact⟨this.2,this.1⟩
theorem m5{s:Xs}{r i:Nat}{e:TypeId}{o:Nat}{x:S3}{l:List Value}(c:OwnS g w (.n r i) false e o x l)(p:s.L.all (λy=>y.t.ne (.n r i))=true)(h:∀ g',Cg B [.n r i] g w g' w->OwnS g' w (.n r i) true e o x l->GG P fn R B T s g' w):GG P fn R B T s g w:=by
 refine⟨λa=>?_⟩;rcases c.ex with h1|⟨b,cur,h1,h2,h3,h4,h5,h6,h7,h8⟩
 .exact(h g (Cg.refl _ _ _ _) ⟨c.len,.inl h1⟩).ex a
 .have h80:g.k b=0:=h8;have q:b<w.heap.size:=(Q'.1 h2).1;refine(h (kA g b l.length) ⟨rfl,rfl,rfl,A' _,λ_ _=>.inl rfl,λd f=>?_,λd f j _=>if_neg (λe=>j (by rw[e,h7];exact G'.2 rfl)),λ_ _ _ _=>rfl,λ_ _ _ _=>rfl⟩ ⟨c.len,.inr ⟨b,cur,h1,h2,h3,h4,h5,h6,h7,if_pos rfl⟩⟩).ex ⟨λy m=>?_,a.sX,λd f=>?_,a.base⟩
  .show g.k d<=(if d=b then _ else g.k d);split
   .rename_i e;rw[e,h80];exact nB _
   .exact A' _
  .obtain⟨k1,k2,k3,k4⟩:=a.row y m;refine⟨k1,k2,k3,λu=>?_⟩;show(if y.g=b then _ else g.k y.g)=0;rw[if_neg (λe=>Tg.tf (oB.1 p y m) (by rw[<- k2,e,h7]))];exact k4 u
  .have:=a.new d f;refine⟨this.1,?_⟩;show(if d=b then _ else g.k d)=0;rw[if_neg (by omega)];exact this.2
end
theorem Yh{P:Program}{s:Xs}{a:Nat}{S:Sem Value}{v:Value}{W:World}(h:D7 s a=some (S>>=λv=>pure (.value v)))(b:S.run P W=.ok v W):Df P s a W=some (.ok (.value v) W):=by
 unfold Df;unfold D7 at h;cases hx:opN s a with
 | none=>rw[hx]at h;cases h
 | some x =>
  rw[hx]at h
  simp only[nZ,Y']at h ⊢;rw[h,Sem.run_bind,b,Result.andThen_ok];rfl
section
variable{P:Program}{W:World}
section
theorem lD(d:Array TypeId)(t:TypeId)(a b:Int):(Builtin.max_ d t #[iv a,iv b]).run P W=.ok (iv (max a b)) W:=by
 rw[run_max_int2]
 congr 2
 rw[Int.max_def];by_cases h:a<b
 .rw[if_pos h,if_pos (by omega)]
 .rw[if_neg h];by_cases c:a<=b
  .rw[if_pos c];omega
  .rw[if_neg c]
theorem j0(c:Array TypeId)(t:TypeId)(a b:Int):(Builtin.min_ c t #[iv a,iv b]).run P W=.ok (iv (min a b)) W:=by
 rw[run_min_int2]
 congr 2
 rw[Int.min_def];by_cases h:b<a
 .rw[if_pos h,if_neg (by omega)]
 .rw[if_neg h,if_pos (by omega)]
variable{t:TypeId}{x y:Operand}
theorem Mz(a b:Int)(d:P.underlying t=some (.int .i64))(h:-9223372036854775808<=a+b/\a+b<=9223372036854775807):(do Go.eqGuard .add t x y (iv a) (iv b);Go.binOp .add t (iv a) (iv b):Sem Value).run P W=.ok (iv (a+b)) W:=by
 have c:IntKind.i64.wrap (a+b)=a+b:=by rw[IntKind.wrap_i64];omega
 simp[Go.eqGuard,Go.binOp,go_sem,c]
theorem AU(k:Nat)(a:Int)(b:P.underlying 3=some (.int .i64))(h:-9223372036854775808<=a+1/\a+1<=9223372036854775807):(do Go.eqGuard .add 3 (.tmp k) (.const (iv 1)) (iv a) (iv 1);Go.binOp .add 3 (iv a) (iv 1):Sem Value).run P W=.ok (iv (a+1)) W:=Mz a 1 b h
theorem lO(a b:Int)(d:P.underlying t=some (.int .i64))(h:-9223372036854775808<=a-b/\a-b<=9223372036854775807):(do Go.eqGuard .sub t x y (iv a) (iv b);Go.binOp .sub t (iv a) (iv b):Sem Value).run P W=.ok (iv (a-b)) W:=by
 have c:IntKind.i64.wrap (a-b)=a-b:=by rw[IntKind.wrap_i64];omega
 simp[Go.eqGuard,Go.binOp,go_sem,c]
end
end
section
theorem U9(a b:Bal):decide (a.r=b.r/\a.n=b.n)=decide (a=b):=og.2 (Bal.eq_iff a b)
variable{W:World}{x y:Operand}
theorem mA(a b:Bal):(do Go.eqGuard .eql 75 x y (.agg #[iv a.r,iv a.n]) (.agg #[iv b.r,iv b.n]);Go.binOp .eql 75 (.agg #[iv a.r,iv a.n]) (.agg #[iv b.r,iv b.n]):Sem Value).run prog W=.ok (.bool (decide (a=b))) W:=by
 have c:=dG a.r a.n b.r b.n W;rw[U9]at c
 have d:(Go.eqGuard .eql 75 x y (.agg #[iv a.r,iv a.n]) (.agg #[iv b.r,iv b.n])).run prog W=.ok () W:=by kernel_rfl
 rw[Sem.run_bind,d,Result.andThen_ok];exact c
theorem jf(a b c d:Int):∀ w,(binOp .neq 75 (.agg #[.int .i64 a,.int .i64 b]) (.agg #[.int .i64 c,.int .i64 d])).run prog w=.ok (.bool (!decide (a=c/\b=d))) w:=by
 intro w;rw[run_neq_struct,run_equalIn_agg w 9999 _ _ _ (by kernel_rfl) (by kernel_rfl)];unfold Program.fieldsOf;rw[underlying75];have e:=underlying3;simp[Op.eqFields,go_sem,e]
 repeat' split
 all_goals simp_all
theorem lE(a b:Bal):(do Go.eqGuard .neq 75 x y (.agg #[iv a.r,iv a.n]) (.agg #[iv b.r,iv b.n]);Go.binOp .neq 75 (.agg #[iv a.r,iv a.n]) (.agg #[iv b.r,iv b.n]):Sem Value).run prog W=.ok (.bool (!decide (a=b))) W:=by
 have c:=jf a.r a.n b.r b.n W;rw[U9]at c
 have d:(Go.eqGuard .neq 75 x y (.agg #[iv a.r,iv a.n]) (.agg #[iv b.r,iv b.n])).run prog W=.ok () W:=by kernel_rfl
 rw[Sem.run_bind,d,Result.andThen_ok];exact c
theorem Pk(a b:Cmd):decide (a.k=b.k/\a.c=b.c/\a.s=b.s/\a.n=b.n/\a.v=b.v)=decide (a=b):=og.2 (Cmd.eq_iff a b)
theorem mB(a b:Cmd):(do Go.eqGuard .eql 49 x y (.agg #[iv a.k,iv a.c,iv a.s,iv a.n,iv a.v]) (.agg #[iv b.k,iv b.c,iv b.s,iv b.n,iv b.v]);Go.binOp .eql 49 (.agg #[iv a.k,iv a.c,iv a.s,iv a.n,iv a.v]) (.agg #[iv b.k,iv b.c,iv b.s,iv b.n,iv b.v]):Sem Value).run prog W=.ok (.bool (decide (a=b))) W:=by
 have d:=UM a.k a.c a.s a.n a.v b.k b.c b.s b.n b.v W;rw[Pk]at d
 have e:(Go.eqGuard .eql 49 x y (.agg #[iv a.k,iv a.c,iv a.s,iv a.n,iv a.v]) (.agg #[iv b.k,iv b.c,iv b.s,iv b.n,iv b.v])).run prog W=.ok () W:=by kernel_rfl
 rw[Sem.run_bind,e,Result.andThen_ok];exact d
theorem Jd(a b:Bal)(h:a≠b):(do Go.eqGuard .neq 75 x y (.agg #[iv a.r,iv a.n]) (.agg #[iv b.r,iv b.n]);Go.binOp .neq 75 (.agg #[iv a.r,iv a.n]) (.agg #[iv b.r,iv b.n]):Sem Value).run prog W=.ok (.bool true) W:=by rw[lE,D' h];rfl
theorem Ja(a b:Bal)(h:a=b):(do Go.eqGuard .neq 75 x y (.agg #[iv a.r,iv a.n]) (.agg #[iv b.r,iv b.n]);Go.binOp .neq 75 (.agg #[iv a.r,iv a.n]) (.agg #[iv b.r,iv b.n]):Sem Value).run prog W=.ok (.bool false) W:=by rw[lE,M' h];rfl
theorem rU{j:Nat}(h:j<5):j=0\/j=1\/j=2\/j=3\/j=4:=by omega
theorem GN:∀ ts:List Tol,(ts.flatMap GM).length=ts.length*5
 | []=>rfl
 | t::r=>by rw[po,H',GN r,nD];show 5+_=_;omega
end
section
variable{P:Program}{fn:Func}{R:Ending->World->Prop}{B:Nat}{T:List Tg}{g:Gh}{w:World}
section
variable{B' i nb ob:Nat}{C:Ending->World->Prop}{L:List Sh}{S:Sem Value}{T':List Tg}{av:Array Value}{f:FuncId}{g0:Gh}{ls:List Let}{lt tl:S3}{p p0:Nod}{s:Xs}{ts:List Tol}{v:Value}{w0:World}{x x0:NX}
theorem qR(a:List Tg)(m:Nat)(h:List Nat)(c:∀ gs g' w',Cg B a g w g' w'->GG P fn R B T (rn0 P a gs m s h).s g' w')(b:∀ gs,(rn0 P a gs m s h).o.map Ob.l'=(rn0 P a gs m s h).o.map Ob.r':=by intro _;kernel_rfl):GG P fn R B T s g w:=dS a m h b c
theorem qV(i:Nat)(v:Value)(c:S.run P w=.ok v w)(b:GG P fn R B T (nxt s i v s.L).s g w)(d:D7 s i=some (S>>=λv=>pure (.value v)):=by kernel_rfl)(a:(nxt s i undef s.L).o.map Ob.l'=(nxt s i undef s.L).o.map Ob.r':=by kernel_rfl):GG P fn R B T s g w:=dU i v (λ_=>Yh d c) a b
theorem qT(i:Nat)(v:Value)(c:∀ W,S.run P W=.ok v W)(b:GG P fn R B T (tkN s i v false).s g w)(d:D7 s i=some (S>>=λv=>pure (.value v)):=by kernel_rfl)(a:(tkN s i undef false).o.map Ob.l'=(tkN s i undef false).o.map Ob.r':=by kernel_rfl):GG P fn R B T s g w:=QI i v false (λW _=>Yh d (c W)) a b
theorem qU(i:Nat)(v:Value)(c:∀ W,(true=true->AV (be s) W)->S.run P W=.ok v W)(b:GG P fn R B T (tkN s i v true).s g w)(d:D7 s i=some (S>>=λv=>pure (.value v)):=by kernel_rfl)(a:(tkN s i undef true).o.map Ob.l'=(tkN s i undef true).o.map Ob.r':=by kernel_rfl):GG P fn R B T s g w:=QI i v true (λW h=>Yh d (c W h)) a b
theorem qI(b t:Bool)(a:b=t)(h:GG P fn R B T (LG s t) g w)(c:Qy s=.bool b:=by kernel_rfl):GG P fn R B T s g w:=gIf b t a c h
theorem qC(i:Nat)(b:Calls P f av w C)(d:∀ e w',C e w'->∃ v,e=.returned v/\Bw w w'/\GG P fn R B T (nxt s i v s.L).s g w')(h:∀ W,Df P s i W=some (.ok (.enter f av) W):=by intro _;kernel_rfl)(c:KK s i=true:=by kernel_rfl)(a:(nxt s i undef s.L).o.map Ob.l'=(nxt s i undef s.L).o.map Ob.r':=by kernel_rfl):GG P fn R B T s g w:=iN i f av h c a b d
theorem qG(i:Nat)(a:List Tg)(m:List Bool)(h:Calls P f av w C)(l:∀ e w',C e w'->∃ v g',e=.returned v/\Cg w.heap.size a g w g' w'/\(∀ b,w'.heap.size<=b->g'.t b=.z/\g'.k b=0)/\GG P fn R B T (nxt s i v (AI m s.L)).s g' w')(n:∀ W,Df P s i W=some (.ok (.enter f av) W):=by intro _;kernel_rfl)(j:KK s i=true:=by kernel_rfl)(c:(nxt s i undef (AI m s.L)).o.map Ob.l'=(nxt s i undef (AI m s.L)).o.map Ob.r':=by kernel_rfl)(d:(AI m s.L).all (λx=>a.all λt=>x.t.ne t)=true:=by kernel_rfl):GG P fn R B T s g w:=ST i f av a m n j c d h l
theorem qE(v:Value)(h:Kn B g w s.L->R (.returned v) w)(a:Kn B g w s.L->(results fn s.f.act.tmps).run P w=.ok v w:=by intro _;kernel_rfl)(b:Ny s.K=true:=by kernel_rfl):GG P fn R B T s g w:=Wd v b a h
theorem qB{J:Act->World->Prop}{n:Nat}{e:List (Nat × Value)}(m:List Bool){a:List Sh}(h:∀ z,Kn B g w s.L->Kn B g w a->J (⟨n,e,z⟩:Fm).act w)(i:isJ s.K=true:=by kernel_rfl)(b:jK s.K=J:=by kernel_rfl)(j:s.f.n=n:=by kernel_rfl)(d:e.map (λp=>lk s.f.z s.f.e p.1)=e.map (·.2):=by kernel_rfl)(c:BS (AI m s.L)=a:=by kernel_rfl):GG P fn R B T s g w:=EE J n e m a i b j d c h
theorem Kn.tJ(h:Kn B g w L){b:Nat}{d:Array Value}(a:(L[i]?).map (λx=>(x.g,CX x.o,Ex x.o))=some (b,d,true)):∃ e,w.heap[b]?=some (.cells d e (0,0)):=by
 cases hi:L[i]? with
 | none=>rw[hi]at a;cases a
 | some x =>
  rw[hi]at a
  have f:=(h.row x (nH hi)).1;obtain⟨j,k,u,m⟩:=x;simp only[nZ,Y',n8]at a f;obtain⟨rfl,rfl,c⟩:=a;rw[f];unfold Ex at c;split at c
  .exact⟨_,rfl⟩
  .cases c
theorem Iy{a:TypeId}(h:GH P a=true):∃ d,P.underlying a=some d/\d.isRow=true:=by
 unfold GH at h;split at h
 .rename_i d hd
  exact⟨d,hd,h⟩
 .cases h
theorem qE1(p:Tmp)(c:TypeId)(i b:Nat)(a:Array Value)(h:Kn B g w s.L->R (.returned (.agg a)) w)(q:(s.L[i]?).map (λx=>(x.g,CX x.o,Ex x.o))=some (b,a,true):=by kernel_rfl)(j:fn.results=#[.cell p c]:=by kernel_rfl)(l:s.f.act.tmps.getD p undef=pt b 0:=by kernel_rfl)(n:GH P c=true:=by kernel_rfl)(k:(P.info? c).map (·.size)=some a.size:=by kernel_rfl)(m:Ny s.K=true:=by kernel_rfl):GG P fn R B T s g w :=
 Wd _ m (λK=>let ⟨e,he⟩:=K.tJ q;let ⟨d,h1,h2⟩:=Iy n;bW j _ _ b e a (0,0) d l he h1 (by cases d<;>first|rfl|cases h2) k) h
theorem qE2(p u:Tmp)(c:TypeId)(i b:Nat)(a:Array Value)(v:Value)(h:Kn B g w s.L->R (.returned (.tuple #[.agg a,v])) w)(r:(s.L[i]?).map (λx=>(x.g,CX x.o,Ex x.o))=some (b,a,true):=by kernel_rfl)(j:fn.results=#[.cell p c,.tmp u]:=by kernel_rfl)(l:s.f.act.tmps.getD p undef=pt b 0:=by kernel_rfl)(q:s.f.act.tmps.getD u undef=v:=by kernel_rfl)(n:GH P c=true:=by kernel_rfl)(k:(P.info? c).map (·.size)=some a.size:=by kernel_rfl)(m:Ny s.K=true:=by kernel_rfl):GG P fn R B T s g w :=
 Wd _ m (λK=>let ⟨e,he⟩:=K.tJ r;let ⟨d,h1,h2⟩:=Iy n;by rw[<- q];exact Vu j _ _ b e a (0,0) d l he h1 (by cases d<;>first|rfl|cases h2) k) h
theorem qE3(p u k:Tmp)(j:TypeId)(i b:Nat)(a:Array Value)(v l:Value)(h:Kn B g w s.L->R (.returned (.tuple #[.agg a,v,l])) w)(z:(s.L[i]?).map (λx=>(x.g,CX x.o,Ex x.o))=some (b,a,true):=by kernel_rfl)(m:fn.results=#[.cell p j,.tmp u,.tmp k]:=by kernel_rfl)(q:s.f.act.tmps.getD p undef=pt b 0:=by kernel_rfl)(y:s.f.act.tmps.getD u undef=v:=by kernel_rfl)(c:s.f.act.tmps.getD k undef=l:=by kernel_rfl)(t:GH P j=true:=by kernel_rfl)(n:(P.info? j).map (·.size)=some a.size:=by kernel_rfl)(r:Ny s.K=true:=by kernel_rfl):GG P fn R B T s g w :=
 Wd _ r (λK=>let ⟨e,he⟩:=K.tJ z;let ⟨d,h1,h2⟩:=Iy t;by rw[<- y,<- c];exact lh m _ _ b e a (0,0) d q he h1 (by cases d<;>first|rfl|cases h2) n) h
theorem qE4(p u:Tmp)(t c:TypeId)(i b j l:Nat)(k a:Array Value)(h:Kn B g w s.L->R (.returned (.tuple #[.agg k,.agg a])) w)(D:(s.L[i]?).map (λx=>(x.g,CX x.o,Ex x.o))=some (b,k,true):=by kernel_rfl)(r:(s.L[j]?).map (λx=>(x.g,CX x.o,Ex x.o))=some (l,a,true):=by kernel_rfl)(v:fn.results=#[.cell p t,.cell u c]:=by kernel_rfl)(z:s.f.act.tmps.getD p undef=pt b 0:=by kernel_rfl)(n:s.f.act.tmps.getD u undef=pt l 0:=by kernel_rfl)(C:GH P t=true:=by kernel_rfl)(q:GH P c=true:=by kernel_rfl)(y:(P.info? t).map (·.size)=some k.size:=by kernel_rfl)(m:(P.info? c).map (·.size)=some a.size:=by kernel_rfl)(A:Ny s.K=true:=by kernel_rfl):GG P fn R B T s g w :=
 Wd _ A (λK=>let ⟨e,he⟩:=K.tJ D;let ⟨e',he'⟩:=K.tJ r;let ⟨d,h1,h2⟩:=Iy C;let ⟨d',h3,h4⟩:=Iy q;kt v _ _ b l e e' k a (0,0) (0,0) d d' z he h1 (by cases d<;>first|rfl|cases h2) y n he' h3 (by cases d'<;>first|rfl|cases h4) m) h
theorem qE5(p y u:Tmp)(t c:TypeId)(i b j l:Nat)(k a:Array Value)(v:Value)(h:Kn B g w s.L->R (.returned (.tuple #[.agg k,.agg a,v])) w)(G:(s.L[i]?).map (λx=>(x.g,CX x.o,Ex x.o))=some (b,k,true):=by kernel_rfl)(r:(s.L[j]?).map (λx=>(x.g,CX x.o,Ex x.o))=some (l,a,true):=by kernel_rfl)(z:fn.results=#[.cell p t,.cell y c,.tmp u]:=by kernel_rfl)(C:s.f.act.tmps.getD p undef=pt b 0:=by kernel_rfl)(n:s.f.act.tmps.getD y undef=pt l 0:=by kernel_rfl)(F:s.f.act.tmps.getD u undef=v:=by kernel_rfl)(E:GH P t=true:=by kernel_rfl)(q:GH P c=true:=by kernel_rfl)(A:(P.info? t).map (·.size)=some k.size:=by kernel_rfl)(m:(P.info? c).map (·.size)=some a.size:=by kernel_rfl)(D:Ny s.K=true:=by kernel_rfl):GG P fn R B T s g w :=
 Wd _ D (λK=>let ⟨e,he⟩:=K.tJ G;let ⟨e',he'⟩:=K.tJ r;let ⟨d,h1,h2⟩:=Iy E;let ⟨d',h3,h4⟩:=Iy q;by rw[<- F];exact ku z _ _ b l e e' k a (0,0) (0,0) d d' C he h1 (by cases d<;>first|rfl|cases h2) A n he' h3 (by cases d'<;>first|rfl|cases h4) m) h
theorem qN(h:NodeAt g w i nb ob x p)(b:GG P fn R B T ⟨s.K,s.f,BS s.L++[⟨nb,.cells (AG i ob p x) 97,.n 0 i,false⟩]⟩ g w)(a:s.L.all (λy=>(Tg.n 0 i).ne y.t)=true:=by kernel_rfl):GG P fn R B T s g w:=II nb _ 0 i h.row h.tag h.sH a b
theorem qO(h:OutAt g w ob lt tl ls ts)(b:GG P fn R B T ⟨s.K,s.f,BS s.L++[⟨ob,.cells #[lt.v,tl.v] 67,.n 50 0,false⟩]⟩ g w)(a:s.L.all (λy=>(Tg.n 50 0).ne y.t)=true:=by kernel_rfl):GG P fn R B T s g w:=II ob _ 50 0 h.row h.tag h.sH a b
theorem qS0(n:Nat)(m:List Bool)(j:Calls P f av w (NP i nb ob g w v p ls ts))(l:∀ g' w' x lt tl,NodeAt g' w' i nb ob x p->OutAt g' w' ob lt tl ls ts->Cg B (TN i) g w g' w'->GG P fn R B T ⟨(nxt s n v (AI m s.L)).s.K,(nxt s n v (AI m s.L)).s.f,BS (BS (nxt s n v (AI m s.L)).s.L++[⟨nb,.cells (AG i ob p x) 97,.n 0 i,false⟩])++[⟨ob,.cells #[lt.v,tl.v] 67,.n 50 0,false⟩]⟩ g' w')(q:∀ W,Df P s n W=some (.ok (.enter f av) W):=by intro _;kernel_rfl)(k:KK s n=true:=by kernel_rfl)(d:(nxt s n undef (AI m s.L)).o.map Ob.l'=(nxt s n undef (AI m s.L)).o.map Ob.r':=by kernel_rfl)(h:(AI m s.L).all (λx=>(TN i).all λt=>x.t.ne t)=true:=by kernel_rfl)(a:(nxt s n v (AI m s.L)).s.L.all (λy=>(Tg.n 0 i).ne y.t)=true:=by kernel_rfl)(b:∀ x:NX,(BS (nxt s n v (AI m s.L)).s.L++[(⟨nb,.cells (AG i ob p x) 97,.n 0 i,false⟩:Sh)]).all (λy=>(Tg.n 50 0).ne y.t)=true:=by intro _;kernel_rfl):GG P fn R B T s g w :=
 qG n (TN i) m j (λ_ w' ⟨g',e,M,c⟩=>⟨v,g',e,c,M.new,let ⟨x,lt,tl,hN,hO,_⟩:=M;qN hN (qO hO (l g' w' x lt tl hN hO c.ret) (b x)) a⟩) q k d h
theorem qS(n:Nat)(m:List Bool){h j:S3}{a:List Let}{b:List Tol}(k:NodeAt g0 w0 i nb ob x0 p0)(l:OutAt g0 w0 ob h j a b)(C:Cg B' T' g0 w0 g w)(u:NS i nb ob g w p0 a b->Calls P f av w (NP i nb ob g w v p ls ts))(D:∀ g' w' x lt tl,NodeAt g' w' i nb ob x p->OutAt g' w' ob lt tl ls ts->Cg B (TN i) g w g' w'->GG P fn R B T ⟨(nxt s n v (AI m s.L)).s.K,(nxt s n v (AI m s.L)).s.f,BS (BS (nxt s n v (AI m s.L)).s.L++[⟨nb,.cells (AG i ob p x) 97,.n 0 i,false⟩])++[⟨ob,.cells #[lt.v,tl.v] 67,.n 50 0,false⟩]⟩ g' w')(H:Tg.z∉T':=by simp)(E:∀ r,r<6->Tg.n r i∉T':=by simp)(F:∀ r,50<=r->Tg.n r 0∉T':=by simp)(G:∀ W,Df P s n W=some (.ok (.enter f av) W):=by intro _;kernel_rfl)(A:KK s n=true:=by kernel_rfl)(e:(nxt s n undef (AI m s.L)).o.map Ob.l'=(nxt s n undef (AI m s.L)).o.map Ob.r':=by kernel_rfl)(q:(AI m s.L).all (λx=>(TN i).all λt=>x.t.ne t)=true:=by kernel_rfl)(c:(nxt s n v (AI m s.L)).s.L.all (λy=>(Tg.n 0 i).ne y.t)=true:=by kernel_rfl)(d:∀ x:NX,(BS (nxt s n v (AI m s.L)).s.L++[(⟨nb,.cells (AG i ob p x) 97,.n 0 i,false⟩:Sh)]).all (λy=>(Tg.n 50 0).ne y.t)=true:=by intro _;kernel_rfl):GG P fn R B T s g w :=
 Af λK=>qS0 n m (u (nsC k l C K H E F)) D G A e q c d
theorem qF{a:Gh}{b:World}(d:NodeAt a b i nb ob x p)(e:OutAt a b ob lt tl ls ts)(c:Cg B' T' a b g w)(C:Cg w0.heap.size (TN i) g0 w0 g w)(m:Tg.z∉T':=by simp)(h:∀ r,r<6->Tg.n r i∉T':=by simp)(j:∀ r,50<=r->Tg.n r 0∉T':=by simp)(k:Kn w0.heap.size g w s.L->(results fn s.f.act.tmps).run P w=.ok v w:=by intro _;kernel_rfl)(l:Ny s.K=true:=by kernel_rfl):GG P fn (NP i nb ob g0 w0 v p ls ts) w0.heap.size T s g w :=
 qE v (λK=>⟨_,rfl,nsC d e c K m h j,C⟩) k l
theorem Kn.nd(h:Kn B g w L)(k:Nat)(a:FSl g w x.tape p.d)(c:FSv g w x.mv p.vo.vs)(e:∀ j,j<5->FSv g w (x.hv j) (p.bn.an j).vs)(f:∃ vs,OwnS g w (.n 1 i) true 1 1 x.synced vs/\Pends g w nb vs p.bw)(l:OwnS g w (.n 2 i) false 49 5 x.fa (cmL p.bn.fa))(m:OwnS g w (.n 3 i) true 49 5 x.ae (cmL p.ae))(o:OwnS g w (.n 4 i) false 49 5 x.br (cmL p.br))(r:XI g w i p.cl x.cl)(s:p.up=true->∃ b,x.cl=some b)(t:L[k]?=some ⟨nb,.cells (AG i ob p x) 97,.n 0 i,false⟩:=by kernel_rfl):NodeAt g w i nb ob x p :=
 have q:=h.sC k nb _ 0 i t
 ⟨q.1,q.2.1,q.2.2,a,c,e,f,l,m,o,r,s⟩
theorem Kn.tM{C:Nat}{f:List Tg}(h:Kn B g w L)(k:Nat)(a:NodeAt g0 w0 i nb ob x0 p0)(c:Cg C f g0 w0 g w)(H:L[k]?=some ⟨nb,.cells (AG i ob p x) 97,.n 0 i,false⟩:=by kernel_rfl)(e:Tg.z∉f:=by simp)(b:∀ r,1<=r->r<6->Tg.n r i∉f:=by simp;try omega)(m:x=x0:=by rfl)(o:p.d=p0.d:=by rfl)(s:p.vo.vs=p0.vo.vs:=by rfl)(t:p.bn.an=p0.bn.an:=by rfl)(u:p.bw=p0.bw:=by rfl)(v:p.bn.fa=p0.bn.fa:=by rfl)(y:p.ae=p0.ae:=by rfl)(A:p.br=p0.br:=by rfl)(D:p.cl=p0.cl:=by rfl)(l:p.up=p0.up:=by rfl):NodeAt g w i nb ob x p:=by
 have q:=h.sC k nb _ 0 i H;subst m;obtain⟨vs,E,F⟩:=a.bw;exact⟨q.1,q.2.1,q.2.2,by rw[o];exact a.tape.ch c e,by rw[s];exact a.mv.ch c e,by rw[t];exact λj G=>(a.an j G).ch c e,by rw[u];exact⟨vs,E.ch c (b 1 (by omega) (by omega)) (by simp),F.ch c e⟩,by rw[v];exact a.fa.ch c (b 2 (by omega) (by omega)) (by simp),by rw[y];exact a.ae.ch c (b 3 (by omega) (by omega)) (by simp),by rw[A];exact a.br.ch c (b 4 (by omega) (by omega)) (by simp),by rw[D];exact a.cl.ch c (b 5 (by omega) (by omega)),by rw[l];exact a.sJ⟩
theorem Kn.od(h:Kn B g w L)(k:Nat)(a:∃ bs:List Nat,OwnS g w (.n 51 0) false 143 1 lt (bs.map (pt · 0))/\Lets g w bs ls)(b:OwnS g w (.n 52 0) false 103 5 tl (ts.flatMap GM))(c:L[k]?=some ⟨ob,.cells #[lt.v,tl.v] 67,.n 50 0,false⟩:=by kernel_rfl):OutAt g w ob lt tl ls ts :=
 have q:=h.sC k ob _ 50 0 c
 ⟨q.1,q.2.1,q.2.2,a,b⟩
end
end
section
structure RdC(w:World)(x:S3)(l:List Cmd):Prop where
 len:x.n=l.length
 cap:x.n<=x.c
 tg:x.a=none->x.c=0
 ex:l=[]\/∃ b off,x.a=some ⟨b,off,none⟩/\b<w.heap.size/\∀ j u,(cmL l)[j]?=some u->w.cell? ⟨b,off+j,none⟩=some u
variable{b j k off q:Nat}{c:Cmd}{g:Gh}{l:List Cmd}{u:Value}{w:World}{x:S3}
theorem OwnS.rd{τ:Tg}{i:Bool}{e:TypeId}(h:OwnS g w τ i e 5 x (cmL l)):RdC w x l:=by
 have c:=h.num;rcases h.ex with⟨h1,h2,h3⟩|⟨b,cur,h1,h2,h3,h4,h5,h6,h7,h8⟩
 .exact⟨c,by omega,λ_=>h3,.inl (Z' (by omega))⟩
 .refine⟨c,h3,λh=>(by rw[h1]at h;cases h),.inr ⟨b,0,h1,rl h2,λj u f=>?_⟩⟩;obtain⟨k,a,_,d⟩:=h.cell f;rw[h1]at a
  simp only[Y',Addr.mk.injEq,and_true]at a;subst a;rw[nS];exact d
theorem RdC.af{d:World}(h:RdC w x l)(b:Bw w d):RdC d x l :=
 ⟨h.len,h.cap,h.tg,h.ex.imp id λ⟨k,a,e,c,f⟩=>⟨k,a,e,j' c b.size,λj u g=>(b.cell (p:=⟨k,a+j,none⟩) c).trans (f j u g)⟩⟩
def S3.cut(x:S3)(l h:Nat):S3:=⟨if x.c=l then x.a else x.a.map (·.add (l*5)),h-l,x.c-l⟩
theorem Rc.drop(h:Rc g w x l)(i:k<=l.length):Rc g w (x.cut k x.n) (l.drop k):=by
 have e:=h.len;have f:=h.cap;refine⟨by simp[S3.cut,e],by simp only[S3.cut];omega,λc=>?_,?_⟩
 .simp only[S3.cut]at c ⊢;split at c
  .omega
  .cases ha:x.a with
   | none=>have:=h.tg ha;omega
   | some a=>rw[ha]at c;cases c
 .rcases h.ex with rfl|⟨b,off,h1,h2,h3,h4⟩
  .exact .inl (by simp)
  .by_cases he:k=l.length
   .exact .inl (by rw[he];simp)
   .refine .inr ⟨b,off+k*5,?_,h2,λj u d=>?_,?_⟩
    .simp only[S3.cut];rw[if_neg (by omega),h1];simp only[nZ,Y'];unfold Addr.add;split
     .rename_i h0;rw[show k=0 by omega];simp
     .simp
    .rw[<- LE,nY]at d
     have:=h3 _ u d;rw[show off+k*5+j=off+(5*k+j)by omega];exact this
    .rcases h4 with h4|h4
     .exact .inl h4
     .right;rw[nc];omega
theorem Rc.addr(h:Rc g w x l)(c:k<l.length):∃ b off,x.a=some ⟨b,off,none⟩:=by
 rcases h.ex with rfl|⟨b,off,h2,_⟩
 .simp at c
 .exact⟨b,off,h2⟩
theorem Rc.cellAt(h:Rc g w x l)(e:x.a=some ⟨b,off,none⟩)(d:l[j]?=some c)(f:(cmV c)[q]?=some u):w.cell? ⟨b,off+5*j+q,none⟩=some u:=by
 rcases h.ex with rfl|⟨b',off',h1,h2,h3,_⟩
 .cases d
 .rw[e]at h1
  simp only[Y',Addr.mk.injEq,and_true]at h1;obtain⟨rfl,rfl⟩:=h1;rw[oe];exact h3 _ u (Pi d f)
theorem RdC.cellAt(h:RdC w x l)(e:x.a=some ⟨b,off,none⟩)(d:l[j]?=some c)(f:(cmV c)[q]?=some u):w.cell? ⟨b,off+5*j+q,none⟩=some u:=by
 rcases h.ex with rfl|⟨b',off',h1,h2,h3⟩
 .cases d
 .rw[e]at h1
  simp only[Y',Addr.mk.injEq,and_true]at h1;obtain⟨rfl,rfl⟩:=h1;rw[oe];exact h3 _ u (Pi d f)
theorem RdC.addr(h:RdC w x l)(c:k<l.length):∃ b off,x.a=some ⟨b,off,none⟩:=by
 rcases h.ex with rfl|⟨b,off,h2,_⟩
 .simp at c
 .exact⟨b,off,h2⟩
theorem Yt(l:List Cmd)(k:Nat)(h:(cmL (l.take k))[j]?=some u):(cmL l)[j]?=some u:=by
 have a:cmL l=cmL (l.take k)++cmL (l.drop k):=by rw[<- Cw,oz]
 rw[a,nm (V'.1 h).1];exact h
theorem RdC.take(h:RdC w x l)(g:k<=l.length):RdC w (x.cut 0 k) (l.take k):=by
 have i:=h.len;have f:=h.cap;have c:(x.cut 0 k).a=x.a:=by
  simp only[S3.cut];split
  .rfl
  .cases x.a with
   | none=>rfl
   | some a=>simp[Addr.add]
 refine⟨by simp[S3.cut];omega,by simp only[S3.cut];omega,λd=>?_,?_⟩
 .rw[c]at d
  have:=h.tg d;simp only[S3.cut];omega
 .rcases h.ex with rfl|⟨b,off,h1,h2,h3⟩
  .exact .inl (by simp)
  .exact .inr ⟨b,off,by rw[c];exact h1,h2,λj u e=>h3 j u (Yt l k e)⟩
end
section
variable{W:World}
section
theorem sz5:(Go.sizeOf (prog.elem 38)).run prog W=.ok 5 W:=by kernel_rfl
theorem unC:prog.underlying 38=some (.slice (prog.elem 38)):=by kernel_rfl
theorem j2(x:S3)(k:Nat)(a:k<=x.n):(Instr.sliceAt 38 x.v (some (iv (k:Int))) none none).run prog W=.ok (S3.v (x.cut k x.n)) W:=by
 rw[run_sliceAt_slice _ _ _ _ _ _ unC,run_slice_l (P:=prog) (w:=W) _ _ _ _ unC .i64 k (by omega) (by omega),sz5];simp[Result.andThen,sliced,S3.cut]
theorem lN(x:S3)(k:Nat)(a:k<=x.c):(Instr.sliceAt 38 x.v none (some (iv (k:Int))) none).run prog W=.ok (S3.v (x.cut 0 k)) W:=by
 rw[run_sliceAt_slice _ _ _ _ _ _ unC,run_slice_h (P:=prog) (w:=W) _ _ _ _ unC .i64 k (by omega) (by omega),sz5];simp[Result.andThen,sliced,S3.cut]
variable{b k off:Nat}{x:S3}{y:Operand}
theorem lK(d:x.a=some ⟨b,off,none⟩)(k:Nat)(f:k<x.n)(e:x.n<=x.c):(Instr.sliceAt 38 x.v (some (iv (k:Int))) none none).run prog W=.ok (.slice (some ⟨b,off+5*k,none⟩) (x.n-k) (x.c-k)) W:=by
 rw[j2 x k (by omega)];unfold S3.v S3.cut;simp only;rw[if_neg (by omega),d];simp only[nZ,Addr.add];split
 .rename_i h0;rw[show k=0 by omega];rfl
 .simp only[pZ]
theorem lP{P:Program}{x:Operand}(a b:Nat)(c:P.underlying 3=some (.int .i64))(h:b<=a)(d:a<4611686018427387904):(do Go.eqGuard .sub 3 x y (iv (a:Int)) (iv (b:Int));Go.binOp .sub 3 (iv (a:Int)) (iv (b:Int)):Sem Value).run P W=.ok (iv ((a-b:Nat):Int)) W:=by
 rw[lO _ _ c (by omega)]
 congr 3
 omega
theorem kW{g:Gh}{l:List Cmd}(e:x.a=some ⟨b,off,none⟩)(h:Rc g W x l)(k:Nat)(f:k<l.length):∀ j u,(cmL (l.drop k))[j]?=some u->W.cell? ((⟨b,off+5*k,none⟩:Addr).add j)=some u:=by
 intro j u d;rcases h.ex with rfl|⟨b',off',h1,h2,h3,h4⟩
 .simp at f
 .rw[e]at h1
  simp only[Y',Addr.mk.injEq,and_true]at h1;obtain⟨rfl,rfl⟩:=h1;rw[<- LE,nY]at d
  have:=h3 _ u d;have c:(⟨b,off+5*k,none⟩:Addr).add j=⟨b,off+5*k+j,none⟩:=by unfold Addr.add;split<;>simp_all
  rw[c,show off+5*k+j=off+(5*k+j)by omega];exact this
theorem MA(c:x.a=some ⟨b,off,none⟩)(j:Nat)(d:j<x.n):(Instr.indexAt 38 x.v (iv (j:Int))).run prog W=.ok (pt b (off+5*j)) W:=by
 unfold S3.v;rw[c];exact NL (P:=prog) (e:=49) (z:=5) underlying38 (by kernel_rfl) (by kernel_rfl) d _ rfl
theorem PF(c:Cmd)(h:∀ j u,(cmV c)[j]?=some u->W.cell? ⟨b,k+j,none⟩=some u):(Instr.loadAt 49 (pt b k)).run prog W=.ok (.agg #[iv c.k,iv c.c,iv c.s,iv c.n,iv c.v]) W:=by
 have a:=run_loadVar_mid (P:=prog) W b k 49 (cmV c) _ (λj u d=>h j u d) underlying49 rfl (by kernel_rfl);simp only[Instr.loadAt,Instr.sureAddr,Sem.run_bind,Sem.run_pure,Result.andThen_ok];exact a
theorem Vl(c:x.a=some ⟨b,off,none⟩)(j:Nat)(d:j<x.n):(Instr.indexAt 76 x.v (iv (j:Int))).run prog W=.ok (pt b (off+8*j)) W:=by
 unfold S3.v;rw[c];exact NL (P:=prog) (e:=140) (z:=8) underlying76 (by kernel_rfl) (by kernel_rfl) d _ rfl
theorem fs(v:Vt)(h:W.rangeAt b k (vtC v)):(Instr.loadAt 140 (pt b k)).run prog W=.ok (.agg #[iv v.bu,iv v.b.r,iv v.b.n,iv v.w.k,iv v.w.c,iv v.w.s,iv v.w.n,iv v.w.v]) W:=by
 have a:=run_loadVar_mid (P:=prog) W b k 140 (vtC v) _ h underlying140 rfl (by kernel_rfl);simp only[Instr.loadAt,Instr.sureAddr,Sem.run_bind,Sem.run_pure,Result.andThen_ok];exact a
theorem jT(u v:Vt):decide (u.bu=v.bu/\u.b.r=v.b.r/\u.b.n=v.b.n/\u.w.k=v.w.k/\u.w.c=v.w.c/\u.w.s=v.w.s/\u.w.n=v.w.n/\u.w.v=v.w.v)=decide (u=v):=by
 apply og.2;constructor
 .rintro⟨a1,a2,a3,a4,a5,a6,a7,a8⟩;exact(Vt.eq_iff u v).1 ⟨a1,(Bal.eq_iff _ _).1 ⟨a2,a3⟩,(Cmd.eq_iff _ _).1 ⟨a4,a5,a6,a7,a8⟩⟩
 .rintro rfl;exact⟨rfl,rfl,rfl,rfl,rfl,rfl,rfl,rfl⟩
theorem l7{x:Operand}(a b:Vt):(do Go.eqGuard .eql 140 x y (.agg #[iv a.bu,iv a.b.r,iv a.b.n,iv a.w.k,iv a.w.c,iv a.w.s,iv a.w.n,iv a.w.v]) (.agg #[iv b.bu,iv b.b.r,iv b.b.n,iv b.w.k,iv b.w.c,iv b.w.s,iv b.w.n,iv b.w.v]);Go.binOp .eql 140 (.agg #[iv a.bu,iv a.b.r,iv a.b.n,iv a.w.k,iv a.w.c,iv a.w.s,iv a.w.n,iv a.w.v]) (.agg #[iv b.bu,iv b.b.r,iv b.b.n,iv b.w.k,iv b.w.c,iv b.w.s,iv b.w.n,iv b.w.v]):Sem Value).run prog W=.ok (.bool (decide (a=b))) W:=by
 have d:=YL a.bu a.b.r a.b.n a.w.k a.w.c a.w.s a.w.n a.w.v b.bu b.b.r b.b.n b.w.k b.w.c b.w.s b.w.n b.w.v W;rw[jT]at d
 have e:(Go.eqGuard .eql 140 x y (.agg #[iv a.bu,iv a.b.r,iv a.b.n,iv a.w.k,iv a.w.c,iv a.w.s,iv a.w.n,iv a.w.v]) (.agg #[iv b.bu,iv b.b.r,iv b.b.n,iv b.w.k,iv b.w.c,iv b.w.s,iv b.w.n,iv b.w.v])).run prog W=.ok () W:=by kernel_rfl
 rw[Sem.run_bind,e,Result.andThen_ok];exact d
end
end
section
variable{B sz:Nat}{P:Program}{T:List Tg}{W w w':World}{e:TypeId}{g g':Gh}{l:List Cmd}{vs:List Value}{x:S3}
theorem D4{ty:TypeId}{c:TypeDesc}{b k:Nat}{v:Value}(g:prog.underlying ty=some c)(d:c.isRow=false)(e:W.cell? ⟨b,k,none⟩=some v):(Instr.loadAt ty (pt b k)).run prog W=.ok v W:=by
 have a:(isAgg ty).run prog W=.ok false W:=by
  unfold isAgg;rw[Sem.run_bind,run_underlying g W];cases c<;>first|rfl|(simp only[TypeDesc.isRow]at d;cases d)
 have f:(loadVar ty ⟨b,k,none⟩).run prog W=.ok v W:=by simp[loadVar,a,e,go_sem]
 simp only[Instr.loadAt,Instr.sureAddr,Sem.run_bind,Sem.run_pure,Result.andThen_ok,f]
theorem Kn.ue{L:List Sh}(h:Kn B g w L)(k b:Nat)(o:Obj)(r i:Nat)(v:Bool)(c:L[k]?=some ⟨b,o,.n r i,v⟩):w.heap[b]?=some o/\g.t b=.n r i/\g.k b=0 :=
 have a:=h.row _ (nH c)
 ⟨a.1,a.2.1,a.2.2.2 (by simp)⟩
structure RdV(w:World)(x:S3)(sz:Nat)(vs:List Value):Prop where
 len:vs.length=x.n*sz
 cap:x.n<=x.c
 tg:x.a=none->x.c=0
 ex:x.n=0\/∃ b off,x.a=some ⟨b,off,none⟩/\b<w.heap.size/\∀ j u,vs[j]?=some u->w.cell? ⟨b,off+j,none⟩=some u
theorem RdC.rv(h:RdC w x l):RdV w x 5 (cmL l) :=
 ⟨by rw[BO,h.len],h.cap,h.tg,h.ex.imp (λe=>by rw[h.len,e];rfl) id⟩
theorem RdV.rc(h:RdV w x 5 (cmL l)):RdC w x l :=
 have a:x.n=l.length:=by have:=h.len;rw[BO]at this;omega
 ⟨a,h.cap,h.tg,h.ex.imp (λe=>Z' (by omega)) id⟩
theorem RdV.af(h:RdV w x sz vs)(b:Bw w w'):RdV w' x sz vs :=
 ⟨h.len,h.cap,h.tg,h.ex.imp id λ⟨k,a,d,c,e⟩=>⟨k,a,d,j' c b.size,λj u f=>(b.cell (p:=⟨k,a+j,none⟩) c).trans (e j u f)⟩⟩
theorem OwnS.rv{τ:Tg}{f:Bool}(h:OwnS g w τ f e sz x vs):RdV w x sz vs:=by
 rcases h.ex with⟨h1,h2,h3⟩|⟨b,cur,h1,h2,h3,h4,h5,h6,h7,h8⟩
 .exact⟨h.len,by omega,λ_=>h3,.inl h2⟩
 .refine⟨h.len,h3,λh=>(by rw[h1]at h;cases h),.inr ⟨b,0,h1,rl h2,λj u d=>?_⟩⟩;obtain⟨i,a,_,c⟩:=h.cell d;rw[h1]at a
  simp only[Y',Addr.mk.injEq,and_true]at a;subst a;rw[nS];exact c
theorem fu{t:TypeId}{x y:Operand}{z:S3}{b:Bool}(f:z.a.isNone=b)(h:P.underlying t=some (.slice e))(g:(Go.eqGuard .eql t x y z.v (.slice none 0 0)).run P W=.ok () W):(do Go.eqGuard .eql t x y z.v (.slice none 0 0);Go.binOp .eql t z.v (.slice none 0 0):Sem Value).run P W=.ok (.bool b) W:=by
 subst f;rw[Sem.run_bind,g,Result.andThen_ok];have d:=run_equal_slice_nil (P:=P) (w:=W) t e z.a z.n z.c h;simp only[S3.v,binOp,Sem.run_bind,d,Result.andThen_ok];rfl
theorem gN(t h e:TypeId)(i:TypeInfo)(g:P.underlying t=some (.slice e))(f:P.info? e=some i)(b:Nat)(a:Addr)(c:Nat):(Builtin.append_ #[t,t] h #[.slice (some ⟨b,0,none⟩) 0 0,.slice (some a) 0 c]).run P W=.ok (.slice (some ⟨b,0,none⟩) 0 0) W:=by
 have d:=run_firstCells_some (P:=P) W i.size 0 a 0 c [] (by simp) (by simp);simp[Builtin.append_,run_underlying g,sizeOf,typeInfo,f,Builtin.lenOf,d,storeCells]
structure FzV(g:Gh)(w:World)(x:S3)(sz:Nat)(vs:List Value):Prop where
 rd:RdV w x sz vs
 z:vs≠[]->Frz g x
theorem FzV.ch(h:FzV g w x sz vs)(c:Cg B T g w g' w')(r:Tg.z∉T:=by simp):FzV g' w' x sz vs:=by
 obtain⟨⟨k,o,p,i⟩,q⟩:=h;by_cases n:vs=[]
 .subst n;exact⟨⟨k,o,p,i.imp id λ⟨b,d,e,f,_⟩=>⟨b,d,e,j' f c.size,λj u m=>(by cases m)⟩⟩,λh=>absurd rfl h⟩
 .rcases i with i|⟨b,d,e,f,e3⟩
  .exact absurd (Z' (by rw[k,i,rK])) n
  .have hb:g.t b=.z:=q n _ e;refine⟨⟨k,o,p,.inr ⟨b,d,e,j' f c.size,λj u m=>?_⟩⟩,λ_ a l=>?_⟩
   .rw[World.cell?_of_block (w:=w) (c.zc r f hb)];exact e3 j u m
   .rw[e]at l;simp only[Y']at l;subst l
    rw[c.tag f (by rw[hb];intro h;cases h)];exact hb
structure Fa where
 ro:Option Nat
 p:Gh->World->Prop
 st:∀ {B:Nat} {T:List Tg} {g g':Gh} {w w':World},Tg.z∉T->(∀ r,ro=some r->Tg.n 60 r∉T)->Cg B T g w g' w'->p g w->p g' w'
@[reducible] def AllF (g:Gh) (w:World):List Fa->Prop
 | []=>True
 | f::l=>f.p g w/\AllF g w l
variable{Φ:List Fa}
theorem AllF.ch(h:AllF g w Φ)(c:Cg B T g w g' w')(d:Tg.z∉T:=by simp)(a:∀ f∈Φ,∀ r,f.ro=some r->Tg.n 60 r∉T):AllF g' w' Φ:=by
 induction Φ with
 | nil=>trivial
 | cons f l ih=>exact⟨f.st d (a f O') c h.1,ih h.2 λf b=>a f (I' _ b)⟩
theorem AllF.sc(h:AllF g w Φ)(c:Cg B [] g w g' w'):AllF g' w' Φ:=h.ch c P' λ_ _ _ _=>P'
def Fa.zv(x:S3)(sz:Nat)(vs:List Value):Fa:=⟨none,λg w=>FzV g w x sz vs,λhz _ c h=>h.ch c hz⟩
def Fa.sl(x:S3)(l:List Int):Fa:=⟨none,λg w=>FSl g w x l,λhz _ c h=>h.ch c hz⟩
def Fa.ow(r:Nat)(e:TypeId)(sz:Nat)(x:S3)(vs:List Value):Fa:=⟨some r,λg w=>OwnS g w (.n 60 r) true e sz x vs,λ_ hr c h=>h.ch c (hr r rfl) (by simp)⟩
def TQ:List Tg:=[.n 60 0,.n 60 1,.n 60 2,.n 60 3]
theorem mq:Tg.z∉TQ:=by simp[TQ]
end
section
variable{P:Program}{fn:Func}{R:Ending->World->Prop}{w0:World}{Φ:List Fa}{g:Gh}{w:World}
section
structure GT(P:Program)(fn:Func)(R:Ending->World->Prop)(w0:World)(Φ:List Fa)(s:Xs)(g:Gh)(w:World):Prop where
 ex:AllF g w Φ->Cg w0.heap.size TQ gS w0 g w->GG P fn R w0.heap.size TQ s g w
theorem CgQ.af(c:Cg w0.heap.size TQ gS w0 g w):Bw w0 w:=Cg.af c λ_ _=>mq
variable{J:Act->World->Prop}{L':List Sh}{S:Sem Value}{av:Array Value}{e:List (Nat × Value)}{f:FuncId}{n:Nat}{s:Xs}{Φ':List Fa}
theorem tIn{a:Array Value}(Φ:List Fa)(e:P.funcs[f]?=some fn)(b:AllF gS w0 Φ)(h:GT P fn R w0 Φ ⟨[.c (Qj fn)],⟨fn.ntmps,Pd 0 a.toList,λ_=>undef⟩,[]⟩ gS w0)(d:fn.body.isSome=true:=by kernel_rfl)(g:Nat.ble a.size fn.ntmps=true:=by kernel_rfl):Calls P f a w0 R :=
 gIn TQ gS e d g (λ_ _=>⟨rfl,rfl⟩) (h.ex b (Cg.refl _ _ _ _))
theorem tX(h:AllF g w Φ->Cg w0.heap.size TQ gS w0 g w->GG P fn R w0.heap.size TQ s g w):GT P fn R w0 Φ s g w:=⟨h⟩
theorem tF(h:AllF g w Φ->Cg w0.heap.size TQ gS w0 g w->GT P fn R w0 Φ s g w):GT P fn R w0 Φ s g w:=⟨λF C=>(h F C).ex F C⟩
theorem tCv(Ψ:List Fa)(a:AllF g w Φ->AllF g w Ψ)(h:GT P fn R w0 Ψ s g w):GT P fn R w0 Φ s g w:=⟨λF C=>h.ex (a F) C⟩
theorem tR(m:Nat)(h:List Nat)(b:∀ gs g' w',GT P fn R w0 Φ (rn0 P [] gs m s h).s g' w')(a:∀ gs,(rn0 P [] gs m s h).o.map Ob.l'=(rn0 P [] gs m s h).o.map Ob.r':=by intro _;kernel_rfl):GT P fn R w0 Φ s g w :=
 ⟨λF C=>dS [] m h a λgs g' w' c=>(b gs g' w').ex (F.sc c) (C.n c)⟩
theorem tV(i:Nat)(v:Value)(c:AllF g w Φ->Cg w0.heap.size TQ gS w0 g w->S.run P w=.ok v w)(b:GT P fn R w0 Φ (nxt s i v s.L).s g w)(d:D7 s i=some (S>>=λv=>pure (.value v)):=by kernel_rfl)(a:(nxt s i undef s.L).o.map Ob.l'=(nxt s i undef s.L).o.map Ob.r':=by kernel_rfl):GT P fn R w0 Φ s g w:=⟨λF C=>qV i v (c F C) (b.ex F C) d a⟩
theorem tT(i:Nat)(v:Value)(c:∀ W,S.run P W=.ok v W)(b:GT P fn R w0 Φ (tkN s i v false).s g w)(d:D7 s i=some (S>>=λv=>pure (.value v)):=by kernel_rfl)(a:(tkN s i undef false).o.map Ob.l'=(tkN s i undef false).o.map Ob.r':=by kernel_rfl):GT P fn R w0 Φ s g w:=⟨λF C=>qT i v c (b.ex F C) d a⟩
theorem tI(b t:Bool)(a:b=t)(h:GT P fn R w0 Φ (LG s t) g w)(c:Qy s=.bool b:=by kernel_rfl):GT P fn R w0 Φ s g w:=⟨λF C=>qI b t a (h.ex F C) c⟩
theorem tC(i:Nat){K:Ending->World->Prop}(j:AllF g w Φ->Cg w0.heap.size TQ gS w0 g w->Calls P f av w K)(l:(∀ b,w.heap.size<=b->g.t b=.z)->∀ e w',K e w'->∃ v Ψ,e=.returned v/\Bw w w'/\(AllF g w' Φ->AllF g w' Ψ)/\GT P fn R w0 Ψ (nxt s i v s.L).s g w')(m:∀ W,Df P s i W=some (.ok (.enter f av) W):=by intro _;kernel_rfl)(k:KK s i=true:=by kernel_rfl)(a:(nxt s i undef s.L).o.map Ob.l'=(nxt s i undef s.L).o.map Ob.r':=by kernel_rfl):GT P fn R w0 Φ s g w :=
 ⟨λF C=>Af λc=>qC i (j F C) (λe w' h=>let ⟨v,Ψ,h1,h2,h3,h4⟩:=l (λb d=>(c.new b d).1) e w' h;⟨v,h1,h2,h4.ex (h3 (F.sc (Cg.ed (B:=w0.heap.size) h2))) (C.trans (Cg.ed h2))⟩) m k a⟩
theorem tC1(i:Nat){v:Value}(b:AllF g w Φ->Cg w0.heap.size TQ gS w0 g w->Calls P f av w λe w'=>e=.returned v/\Bw w w')(d:∀ w',GT P fn R w0 Φ (nxt s i v s.L).s g w')(j:∀ W,Df P s i W=some (.ok (.enter f av) W):=by intro _;kernel_rfl)(c:KK s i=true:=by kernel_rfl)(a:(nxt s i undef s.L).o.map Ob.l'=(nxt s i undef s.L).o.map Ob.r':=by kernel_rfl):GT P fn R w0 Φ s g w:=tC i b (λ_ e w' h=>⟨v,Φ,h.1,h.2,id,d w'⟩) j c a
theorem tE(v:Value)(h:AllF g w Φ->Bw w0 w->R (.returned v) w)(a:Kn w0.heap.size g w s.L->(results fn s.f.act.tmps).run P w=.ok v w:=by intro _;kernel_rfl)(b:Ny s.K=true:=by kernel_rfl):GT P fn R w0 Φ s g w:=⟨λF C=>qE v (λ_=>h F (CgQ.af C)) a b⟩
def JT(P:Program)(w0:World)(n:Nat)(Inv:Nat->List (Nat × Value)->List Sh->List Fa->Prop)(k:Nat)(J:Act->World->Prop):Prop:=∀ k' e' L' Φ' g' w' z',k'<k->Inv k' e' L' Φ'->AllF g' w' Φ'->Cg w0.heap.size TQ gS w0 g' w'->Kn w0.heap.size g' w' L'->J (⟨n,e',z'⟩:Fm).act w'
theorem DU(n:Nat)(c:List (Nat × Value))(m:List Bool)(l:List Sh)(b:List Fa)(a:Nat->List (Nat × Value)->List Sh->List Fa->Prop)(v:Nat)(D:a v c l b)(r:AllF g w Φ->AllF g w b)(round:∀ k e L Φ,a k e L Φ->∀ z g w J,JT P w0 n a k J->GT P fn R w0 Φ (fB s n J e z L) g w)(N:Tf s.K=true:=by kernel_rfl)(O:s.f.n=n:=by kernel_rfl)(I:c.map (λp=>lk s.f.z s.f.e p.1)=c.map (·.2):=by kernel_rfl)(H:BS (AI m s.L)=l:=by kernel_rfl):GT P fn R w0 Φ s g w :=
 ⟨λF C=>Ce n c m l (λk d h e L=>∃ Ψ,a k e L Ψ/\AllF d h Ψ/\Cg w0.heap.size TQ gS w0 d h) N O I H v (λ_=>⟨b,D,r F,C⟩) λk d h e z L ⟨Ψ,E,y,x⟩ J G=>(round k e L Ψ E z d h J λQ B A u o t S M q j i K=>G Q o t B S A M ⟨u,q,j,i⟩ K).ex y x⟩
theorem tB{k:Nat}{a:Nat->List (Nat × Value)->List Sh->List Fa->Prop}(h:JT P w0 n a k J)(c:Nat)(q:c<k)(m:List Bool)(d:a c e L' Φ')(b:AllF g w Φ->AllF g w Φ')(l:isJ s.K=true:=by kernel_rfl)(o:jK s.K=J:=by kernel_rfl)(r:s.f.n=n:=by kernel_rfl)(j:e.map (λp=>lk s.f.z s.f.e p.1)=e.map (·.2):=by kernel_rfl)(i:BS (AI m s.L)=L':=by kernel_rfl):GT P fn R w0 Φ s g w :=
 ⟨λF C=>qB m (λz _ K=>h c e L' Φ' g w z q d (b F) C K) l o r j i⟩
def JC(P:Program)(w0:World)(n:Nat)(Inv:List (Nat × Value)->List Sh->List Fa->Prop)(J:Act->World->Prop):Prop:=∀ e' L' Φ' g' w' z',Inv e' L' Φ'->AllF g' w' Φ'->Cg w0.heap.size TQ gS w0 g' w'->Kn w0.heap.size g' w' L'->J (⟨n,e',z'⟩:Fm).act w'
theorem KV(n:Nat)(a:List (Nat × Value)->List Sh->List Fa->Prop)(l:∀ J,JC P w0 n a J->GT P fn R w0 Φ (Y1 s J) g w)(m:∀ e L Φ,a e L Φ->∀ z g w,GT P fn R w0 Φ ⟨s.K.tail,⟨n,e,z⟩,L⟩ g w)(p:s.K.isEmpty=false:=by kernel_rfl):GT P fn R w0 Φ s g w :=
 ⟨λF C=>Ct n (λb c e L=>∃ Ψ,a e L Ψ/\AllF b c Ψ/\Cg w0.heap.size TQ gS w0 b c) p (λJ o=>(l J λk j i b c q h f d K=>o b c k q j ⟨i,h,f,d⟩ K).ex F C) λb c e z L ⟨Ψ,h,f,d⟩=>(m e L Ψ h z b c).ex f d⟩
theorem tD{a:List (Nat × Value)->List Sh->List Fa->Prop}(d:JC P w0 n a J)(m:List Bool)(c:a e L' Φ')(b:AllF g w Φ->AllF g w Φ')(j:isJ s.K=true:=by kernel_rfl)(k:jK s.K=J:=by kernel_rfl)(l:s.f.n=n:=by kernel_rfl)(i:e.map (λp=>lk s.f.z s.f.e p.1)=e.map (·.2):=by kernel_rfl)(h:BS (AI m s.L)=L':=by kernel_rfl):GT P fn R w0 Φ s g w :=
 ⟨λF C=>qB m (λz _ K=>d e L' Φ' g w z c (b F) C K) j k l i h⟩
theorem PR(i j:Nat)(a:GT P fn R w0 Φ (Ka s i) g w)(b:GT P fn R w0 Φ (Ka s j) g w)(c:fZ s i j=true:=by kernel_rfl):GT P fn R w0 Φ s g w:=⟨λF C=>Dp i j c (a.ex F C) (b.ex F C)⟩
theorem NU(i:Nat)(r:Nat){x:S3}{xs:List Value}(t N e:TypeId)(l b:Nat)(z:Value)(a:Addr)(m c:Nat)(news:List Value)(hx:AllF g w Φ->OwnS g w (.n 60 r) true e l x xs)(Ψ:List Fa)(K:AllF g w Φ->AllF g w Ψ)(H:Ψ.all (λf=>f.ro != some r)=true)(G:Tg.n 60 r∈TQ)(W:news.length=m*l)(O:∀ u∈news,u.oneCell'=true)(k:AllF g w Φ->Kn w0.heap.size g w s.L->∀ j u,news[j]?=some u->w.cell? (a.add j)=some u)(B:x.n+m<=maxLen)(d:(x.n+m)*b<=140737488355328)(V:∀ x' g' w',x'.n=x.n+m->GT P fn R w0 (Fa.ow r e l x' (xs++news)::Ψ) (nxt s i (S3.v x') s.L).s g' w')(D:0<m:=by decide)(I:0<l:=by decide)(Z:P.underlying t=some (.slice e):=by kernel_rfl)(h:(P.info? e).map (λi=>(i.zero,i.size,i.bytes))=some (some z,l,b):=by kernel_rfl)(J:Nat.beq z.cells.size l=true:=by kernel_rfl)(p:D7 s i=some (Builtin.append_ #[t,t] N #[x.v,.slice (some a) m c]>>=λv=>pure (.value v)):=by kernel_rfl)(E:(nxt s i undef s.L).o.map Ob.l'=(nxt s i undef s.L).o.map Ob.r':=by kernel_rfl)(T:s.L.all (λy=>[Tg.n 60 r].all λt=>y.t.ne t)=true:=by kernel_rfl):GT P fn R w0 Φ s g w:=by
 refine⟨λF C=>KL i t N e l b z a m c news (hx F) p E T Z h J I D W O (k F) B d λx' g' w' S X M hG=>?_⟩;refine(V x' g' w' X).ex ⟨S,(K F).ch (M w0.heap.size [.n 60 r] (G'.2 rfl)) (by simp) λf U q Y D=>?_⟩ (C.trans (M _ _ G));have A:=oB.1 H f U;rw[Y]at A
 have Q:q=r:=by simpa using D
 rw[Q]at A
 simp at A
end
end
end
end Go.Proofs.YtogibonjmbhliabGreatDoor
