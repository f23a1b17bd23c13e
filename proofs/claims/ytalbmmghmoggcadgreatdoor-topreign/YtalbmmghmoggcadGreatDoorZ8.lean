/- Part 8 of the walk. -/
import Derived.Test.YtalbmmghmoggcadGreatDoorZ7
set_option maxRecDepth 100000
set_option maxHeartbeats 4000000
open Go.Proofs.Tryz
set_option linter.unusedVariables false
namespace Go.Proofs.YtalbmmghmoggcadGreatDoor
section
open Go.RowKit
def Bd(d:List Int)(s:Int):Prop:=d.length<=100000/\0<=s/\s<=(d.length:Int)
instance (d:List Int) (s:Int):Decidable (Bd d s):=by unfold Bd;exact inferInstance
def CS(d:List Int)(s:Int):Int:=if Bd d s then 0 else 5
def Hd(d:List Int)(s:Int):List Int:=if Bd d s then d else[]
def In(d:List Int)(s:Int):Int:=if Bd d s then(d.length:Int)else 0
def F5(d:List Int)(s k:Int):Int:=if k<(d.length:Int)-s then s+k else(d.length:Int)
def Hm(d:List Int)(s k:Int):Int:=if ¬ Bd d s then 5 else if k<0 then 2 else 0
def JF(d:List Int)(s k:Int):List Int:=if Hm d s k=0 then d.take (F5 d s k).toNat else[]
def JG(d:List Int)(s k:Int):Int:=if Hm d s k=0 then F5 d s k else 0
def tpA(x:Value)(s:Int):Array Value:=#[x,.int .i64 s]
theorem LK:(prog.info? 121).map (·.size)=some 2:=by kernel_rfl
theorem YE(x:Option Addr)(n c:Nat)(s:Int):(#[.slice x n c,.int .i64 s]:Array Value).all (·.oneCell')=true:=by simp[Value.oneCell']
end
section
section
def Dv(b:List Int):List Int:=(b.length:Int)::b
def AI(b:List Int):List Int:=Dv b++(dig (Dv b)).take 4
theorem Cl(b:List Int):(Dv b).length=b.length+1:=rfl
theorem Bg(b:List Int):(AI b).length=b.length+5:=by
 unfold AI;rw[G',Cl,iO,Ax];omega
def Bn(b:Bal):List Int:=1::(Ad b.r++Ad b.n)
def Be(v:Vt):List Int:=2::(Ad v.slot++(Ad v.b.r++(Ad v.b.n++Dy v.w.k v.w.c v.w.s v.w.n v.w.v)))
theorem Q2(v:Vt):(Be v).length=33:=rfl
theorem UT(b:Bal):∀ x∈Bn b,0<=x/\x<256:=by
 intro x hx;rcases iX.1 hx with rfl|hx
 .omega
 .rcases V'.1 hx with hx|hx
  .exact AU _ x hx
  .exact AU _ x hx
theorem V5(v:Vt):∀ x∈Be v,0<=x/\x<256:=by
 intro x hx;rcases iX.1 hx with rfl|hx
 .omega
 .rcases V'.1 hx with hx|hx
  .exact AU _ x hx
  .rcases V'.1 hx with hx|hx
   .exact AU _ x hx
   .rcases V'.1 hx with hx|hx
    .exact AU _ x hx
    .exact MI _ _ _ _ _ x hx
variable{N k m n:Nat}{a b c:Acc}{all:List Acc}{bs:List (List Int)}{r:List Int}
theorem KN{b:List Int}(hb:∀ x∈b,0<=x/\x<256)(hl:b.length<=255):∀ x∈Dv b,0<=x/\x<256:=by
 intro x hx;rcases iX.1 hx with rfl|hx
 .omega
 .exact hb x hx
theorem Ls{b:List Int}(hb:∀ x∈b,0<=x/\x<256)(hl:b.length<=255):∀ x∈AI b,0<=x/\x<256:=by
 intro x hx;rcases V'.1 hx with hx|hx
 .exact KN hb hl x hx
 .exact Dn _ x (jb hx)
def Zt(l:List Int):Cmd:=⟨Ac l 0,Ac l 4,Ac l 8,Ac l 12,Ac l 16⟩
def Fz(b:List Int):Bal:=⟨Ac b 1,Ac b 5⟩
def Fo(b:List Int):Vt:=⟨Ac b 1,⟨Ac b 5,Ac b 9⟩,Zt (b.drop 13)⟩
def Dp(a:Acc)(b:List Int):Option Acc :=
 if b.length=9/\b.getD 0 0=1 then(if BQ a (Fz b)=0 then some ⟨Fz b,a.vs⟩else none)
 else if b.length=33/\b.getD 0 0=2 then(if Cj (b.drop 13)=0 then(if AQ a (Fo b)=0 then some ⟨(Fo b).b,Ba a.vs (Fo b)⟩else none)else none)
 else none
def BG(r:List Int)(a:Acc):Option (Acc × Nat) :=
 if r=[]then none
 else if r.length<(r.getD 0 0).toNat+5 then none
 else if(dig (r.take ((r.getD 0 0).toNat+1))).take 4≠(r.drop ((r.getD 0 0).toNat+1)).take 4 then none
 else(Dp a ((r.take ((r.getD 0 0).toNat+1)).drop 1)).map λx=>(x,(r.getD 0 0).toNat+5)
def a0:Acc:=⟨⟨0,0⟩,[]⟩
def Jp(r:List Int)(p:Nat × Acc):Nat × Acc:=match BG (r.drop p.1) p.2 with
 | none=>p
 | some (c,m)=>(p.1+m,c)
def itR(r:List Int):Nat->Nat × Acc
 | 0=>(0,a0)
 | k+1=>Jp r (itR r k)
def DU(r:List Int):Nat × Acc:=itR r r.length
theorem LA(h:BG r a=some (c,m)):5<=m/\m<=r.length:=by
 unfold BG at h;split at h
 .cases h
 .split at h
  .cases h
  .split at h
   .cases h
   .obtain⟨x,_,e⟩:=j0.1 h;injection e with e1 e2
    omega
theorem GN{p:Nat × Acc}(h:BG (r.drop p.1) p.2=none):Jp r p=p:=by
 unfold Jp;rw[h]
theorem EV(h:BG (r.drop n) b=some (c,m)):Jp r (n,b)=(n+m,c):=by
 unfold Jp;rw[show BG (r.drop (n,b).1) (n,b).2=some (c,m)from h]
theorem Uz(h:itR r k=(n,b))(hs:BG (r.drop n) b=none)(j:Nat):itR r (k+j)=(n,b):=by
 induction j with
 | zero=>exact h
 | succ j ih =>
  rw[<- jI,itR,ih];exact GN hs
theorem Ov(h:itR r k=(n,b))(hk:k<=r.length)(hs:BG (r.drop n) b=none):DU r=(n,b):=by
 have:=Uz h hs (r.length-k);rw[show k+(r.length-k)=r.length by omega]at this
 exact this
theorem Xa(r:List Int)(k:Nat):(itR r k).1<=r.length:=by
 induction k with
 | zero=>exact jf _
 | succ k ih =>
  rw[itR];unfold Jp;split
  .exact ih
  .rename_i c m h
   have:=(LA h).2;rw[iQ]at this
   show(itR r k).1+m<=r.length;omega
theorem Nt{r':List Int}(h:BG r a=some (c,m))(hp:r'.take m=r.take m):BG r' a=some (c,m):=by
 have hl:=LA h;have hl':m<=r'.length:=by
  have e:=congrArg List.length hp;rw[iO,iO]at e
  omega
 unfold BG at h;split at h
 .cases h
 rename_i h0
 split at h
 .cases h
 rename_i h1
 split at h
 .cases h
 rename_i h2
 obtain⟨x,hx,e⟩:=j0.1 h;injection e with e1 e2
 have hg:r'.getD 0 0=r.getD 0 0:=by
  have e:=congrArg (λl=>l.getD 0 0) hp;simp only[jd,jL]at e ⊢;rw[if_pos (by omega),if_pos (by omega)]at e
  exact e
 have ht:∀ k,k<=m->r'.take k=r.take k:=λk hk=>by
  have e:=congrArg (List.take k) hp;rw[kl,kl,jR hk]at e
  exact e
 have hd:(r'.drop ((r.getD 0 0).toNat+1)).take 4=(r.drop ((r.getD 0 0).toNat+1)).take 4:=by
  have e:=congrArg (List.drop ((r.getD 0 0).toNat+1)) hp;rw[lK,lK,show m-((r.getD 0 0).toNat+1)=4 by omega]at e
  exact e
 unfold BG;rw[hg,if_neg (by rintro rfl;simp at hl';omega),if_neg (by omega),ht _ (by omega),hd,if_neg h2,hx,jC,e1,e2]
theorem F8(r:List Int)(h:n+m<=N):((r.take N).drop n).take m=(r.drop n).take m:=by
 rw[lK,kl,jR (by omega)]
theorem Xb(r:List Int)(k:Nat):(itR r k).1<=(itR r (k+1)).1:=by
 rw[itR];unfold Jp;split
 .exact A' _
 .show(itR r k).1<=(itR r k).1+_;omega
theorem Xc(h:(itR r k).1<=N):itR (r.take N) k=itR r k:=by
 induction k with
 | zero=>rfl
 | succ k ih =>
  have hm:=Xb r k;have ih:=ih (by omega);rw[itR,ih];cases e:BG (r.drop (itR r k).1) (itR r k).2 with
  | none =>
   have e2:BG ((r.take N).drop (itR r k).1) (itR r k).2=none:=by
    cases e3:BG ((r.take N).drop (itR r k).1) (itR r k).2 with
    | none=>rfl
    | some x =>
     obtain⟨c,m⟩:=x;have hl:=(LA e3).2;rw[iQ,iO]at hl
     have:=Nt (r':=r.drop (itR r k).1) e3 (F8 r (by omega)).symm;rw[e]at this
     cases this
   rw[GN e2,itR,GN e]
  | some x =>
   obtain⟨c,m⟩:=x;have e1:itR r (k+1)=((itR r k).1+m,c):=by rw[itR];exact EV e
   rw[e1]at h ⊢
   have h':(itR r k).1+m<=N:=h;have e2:=Nt (r':=(r.take N).drop (itR r k).1) e (F8 r h');exact EV e2
theorem Tq(r:List Int):(DU r).1<=r.length:=Xa r r.length
theorem So(b x:List Int)(a:Acc):BG (AI b++x) a=(Dp a b).map λc=>(c,b.length+5):=by
 have hl:=Bg b;have hg:(AI b++x).getD 0 0=(b.length:Int):=rfl;have hn:((b.length:Int)).toNat=b.length:=jA _;have ht:(AI b++x).take (b.length+1)=Dv b:=by
  unfold AI;rw[iR,jk (by rw[Cl];omega),iU (by rw[Cl];omega)]
 have hd:((AI b++x).drop (b.length+1)).take 4=(dig (Dv b)).take 4:=by
  unfold AI;rw[iR,lT (by rw[Cl];omega),kA (by rw[Cl];omega),j5,
   jk (by rw[iO,Ax];omega),kl]
  rfl
 unfold BG;rw[hg,hn,if_neg (by intro e;have:=congrArg List.length e;rw[G',hl]at this;simp at this),if_neg (by rw[G',hl];omega),ht,hd,if_neg (λg=>g rfl)];rfl
theorem Sp(b x:List Int)(a:Acc)(hk:k<b.length+5):BG ((AI b++x).take k) a=none:=by
 have hl:=Bg b;cases k with
 | zero=>rfl
 | succ k =>
  have hg:((AI b++x).take (k+1)).getD 0 0=(b.length:Int):=rfl;unfold BG;rw[hg,jA];split
  .rfl
  .rw[if_pos (by rw[iO,G',hl];omega)]
theorem Wu(a:Acc){b:Bal}(hb:Ab b):Dp a (Bn b)=if BQ a b=0 then some ⟨b,a.vs⟩else none:=by
 have hb':=hb;unfold Ab at hb';have e1:Ac (Bn b) 1=b.r:=Bz b.r (by omega) (by omega) [1] (Ad b.n);have e2:Ac (Bn b) 5=b.n:=by
  have:=Bz b.n (by omega) (by omega) (1::Ad b.r) [];rw[jy]at this
  exact this
 have e:Fz (Bn b)=b:=by unfold Fz;rw[e1,e2]
 unfold Dp;rw[if_pos ⟨rfl,rfl⟩,e]
theorem Wk{k c s n v:Int}(h:Bf k c s n v=0):Cj (Dy k c s n v)=0/\Zt (Dy k c s n v)=⟨k,c,s,n,v⟩:=by
 have hz:=E4 h;have hi:=hz.2;unfold InC at hi;have e0:=UG k c s n v (by omega) (by omega);have e1:=UH k c s n v (by omega) (by omega);have e2:=UI k c s n v (by omega) (by omega);have e3:=RC k c s n v (by omega) (by omega);have e4:=RD k c s n v (by omega) (by omega);unfold Cj Zt;rw[if_neg (λg=>g (DW k c s n v)),e0,e1,e2,e3,e4];exact⟨h,rfl⟩
theorem Wv(a:Acc){v:Vt}(hv:Ak v):Dp a (Be v)=if AQ a v=0 then some ⟨v.b,Ba a.vs v⟩else none:=by
 have hv':=hv;unfold Ak Ab at hv';obtain⟨slot,⟨r,n⟩,⟨k,c,s,nn,x⟩⟩:=v;simp only at hv';have e1:Ac (Be ⟨slot,⟨r,n⟩,⟨k,c,s,nn,x⟩⟩) 1=slot:=Bz slot (by omega) (by omega) [2] (Ad r++(Ad n++Dy k c s nn x));have e2:Ac (Be ⟨slot,⟨r,n⟩,⟨k,c,s,nn,x⟩⟩) 5=r:=Bz r (by omega) (by omega) (2::Ad slot) (Ad n++Dy k c s nn x);have e3:Ac (Be ⟨slot,⟨r,n⟩,⟨k,c,s,nn,x⟩⟩) 9=n:=Bz n (by omega) (by omega) (2::(Ad slot++Ad r)) (Dy k c s nn x);have ed:(Be ⟨slot,⟨r,n⟩,⟨k,c,s,nn,x⟩⟩).drop 13=Dy k c s nn x:=rfl;have hc:=Wk (k:=k) (c:=c) (s:=s) (n:=nn) (v:=x) hv'.2.2;have e:Fo (Be ⟨slot,⟨r,n⟩,⟨k,c,s,nn,x⟩⟩)=⟨slot,⟨r,n⟩,⟨k,c,s,nn,x⟩⟩:=by unfold Fo;rw[e1,e2,e3,ed,hc.2]
 unfold Dp;rw[if_neg (by rintro⟨h,_⟩;cases h),if_pos ⟨rfl,rfl⟩,e,ed,if_pos hc.1]
def Az(bs:List (List Int)):List Int:=bs.flatMap AI
theorem Ck(l m:List (List Int)):Az (l++m)=Az l++Az m:=by simp[Az]
structure Chn(all:List Acc)(bs:List (List Int)):Prop where
 len:all.length=bs.length+1
 first:all[0]?=some a0
 step:∀ (i:Nat) (b:List Int) (a c:Acc),bs[i]?=some b->all[i]?=some a->all[i+1]?=some c->Dp a b=some c
theorem Chn.at(h:Chn all bs)(j:Nat)(hj:j<=bs.length):∃ a,all[j]?=some a:=⟨_,E' (by have:=h.len;omega)⟩
theorem LG(bs:List (List Int))(j:Nat)(b:List Int)(h:bs[j]?=some b):bs.take (j+1)=bs.take j++[b]:=by
 obtain⟨hj,e⟩:=Q'.1 h;rw[iW hj,e]
theorem KH(bs:List (List Int))(j:Nat)(x:List Int):(Az bs++x).drop (Az (bs.take j)).length=Az (bs.drop j)++x:=by
 have e:Az bs=Az (bs.take j)++Az (bs.drop j):=by rw[<- Ck,jz]
 rw[e,iR,lT (A' _),kA (A' _),j5]
theorem KI(bs:List (List Int))(j:Nat)(b:List Int)(h:bs[j]?=some b):Az (bs.drop j)=AI b++Az (bs.drop (j+1)):=by
 obtain⟨hj,e⟩:=Q'.1 h;rw[js hj,e];rfl
theorem Chn.it(h:Chn all bs)(x:List Int)(j:Nat)(hj:j<=bs.length)(ha:all[j]?=some a):itR (Az bs++x) j=((Az (bs.take j)).length,a):=by
 induction j generalizing a with
 | zero =>
  rw[h.first]at ha
  obtain rfl:=jJ ha;rfl
 | succ j ih =>
  obtain⟨a',ha'⟩:=h.at j (by omega);have ih:=ih (by omega) ha';obtain⟨b,hb⟩:∃ b,bs[j]?=some b:=⟨_,E' (by omega)⟩;have hd:=h.step j b a' a hb ha' ha;have e:BG ((Az bs++x).drop (Az (bs.take j)).length) a'=some (a,b.length+5):=by
   rw[KH,KI bs j b hb,iR,So,hd];rfl
  rw[itR,ih,EV e,LG bs j b hb,Ck,G']
  congr 1
  show _=(Az (bs.take j)).length+(Az [b]).length;simp[Az,Bg]
theorem Pn(bs:List (List Int)):bs.length<=(Az bs).length:=by
 induction bs with
 | nil=>exact jf _
 | cons b bs ih =>
  show bs.length+1<=(AI b++Az bs).length;rw[G',Bg];omega
theorem dA(bs:List (List Int))(k:Nat):∃ j,j<=bs.length/\(Az (bs.take j)).length<=k/\(j=bs.length\/k<(Az (bs.take (j+1))).length):=by
 have:∀ n,n<=bs.length->∃ j,j<=n/\(Az (bs.take j)).length<=k/\(j=n\/k<(Az (bs.take (j+1))).length):=by
  intro n;induction n with
  | zero=>intro _;exact⟨0,A' _,by simp[Az],.inl rfl⟩
  | succ n ih =>
   intro hn;obtain⟨j,h1,h2,h3⟩:=ih (by omega);rcases h3 with rfl|h3
   .rcases jt k (Az (bs.take (j+1))).length with h4|h4
    .exact⟨j,by omega,h2,.inr h4⟩
    .exact⟨j+1,A' _,h4,.inl rfl⟩
   .exact⟨j,by omega,h2,.inr h3⟩
 exact this bs.length (A' _)
theorem Chn.torn(h:Chn all bs)(k:Nat):∃ j a,j<=bs.length/\all[j]?=some a/\DU ((Az bs).take k)=((Az (bs.take j)).length,a)/\(Az (bs.take j)).length<=k/\(j=bs.length\/k<(Az (bs.take (j+1))).length):=by
 obtain⟨j,h1,h2,h3⟩:=dA bs k;obtain⟨a,ha⟩:=h.at j h1;refine⟨j,a,h1,ha,?_,h2,h3⟩;have hi:=h.it [] j h1 ha;rw[jy]at hi
 have hi2:itR ((Az bs).take k) j=((Az (bs.take j)).length,a):=by
  rw[Xc (by rw[hi];exact h2),hi]
 have hdr:=KH bs j [];rw[jy,jy]at hdr
 refine Ov hi2 ?_ ?_
 .rw[iO];have g1:=Pn (bs.take j);rw[iO]at g1
  have g2:(Az (bs.take j)).length<=(Az bs).length:=by
   have:=congrArg List.length hdr;rw[iQ]at this
   have e:Az bs=Az (bs.take j)++Az (bs.drop j):=by rw[<- Ck,jz]
   rw[e,G'];omega
  omega
 .rw[lK,hdr];rcases h3 with rfl|h3
  .rw[kA (A' _)];simp[Az,BG]
  .rcases jt j bs.length with hj|hj
   .obtain⟨b,hb⟩:∃ b,bs[j]?=some b:=⟨_,E' hj⟩;rw[KI bs j b hb];refine Sp b _ a ?_;rw[LG bs j b hb,Ck,G']at h3
    have e:(Az [b]).length=b.length+5:=by simp[Az,Bg]
    omega
   .rw[kA hj];simp[Az,BG]
end
end
section
open Go.RowKit
def fbO(r:List Int):Option (List Int) :=
 if r=[]then none
 else if r.length<(r.getD 0 0).toNat+5 then none
 else if(dig (r.take ((r.getD 0 0).toNat+1))).take 4≠(r.drop ((r.getD 0 0).toNat+1)).take 4 then none
 else some ((r.take ((r.getD 0 0).toNat+1)).drop 1)
theorem SQ{r b:List Int}(h:fbO r=some b):b.length+5<=r.length/\b.length=(r.getD 0 0).toNat:=by
 unfold fbO at h;split at h
 .cases h
 .split at h
  .cases h
  .split at h
   .cases h
   .injection h with h
    subst h;rw[iQ,iO];omega
theorem L9(r:List Int)(a:Acc):BG r a=(fbO r).bind λb=>(Dp a b).map λc=>(c,b.length+5):=by
 have hl:∀ b,fbO r=some b->b.length=(r.getD 0 0).toNat:=λb h=>(SQ h).2;unfold BG;unfold fbO at hl ⊢;by_cases h0:r=[]
 .rw[if_pos h0,if_pos h0];rfl
 .rw[if_neg h0]at hl ⊢
  rw[if_neg h0];by_cases h1:r.length<(r.getD 0 0).toNat+5
  .rw[if_pos h1,if_pos h1];rfl
  .rw[if_neg h1]at hl ⊢
   rw[if_neg h1];by_cases h2:(dig (r.take ((r.getD 0 0).toNat+1))).take 4≠(r.drop ((r.getD 0 0).toNat+1)).take 4
   .rw[if_pos h2,if_pos h2];rfl
   .rw[if_neg h2]at hl ⊢
    rw[if_neg h2];have e:=hl _ rfl;show _=(Dp a _).map _;rw[e]
theorem Dc(l:List Int)(n i:Nat):Ac (l.drop n) i=Ac l (n+i):=by
 unfold Ac;simp only[jd,jB,jI]
def GH(a:Acc)(b:List Int):Int :=
 if b.length=9/\b.getD 0 0=1 then BQ a (Fz b)
 else if b.length=33/\b.getD 0 0=2 then(if Cj (b.drop 13)=0 then AQ a (Fo b)else Cj (b.drop 13))
 else 3
def F6(a:Acc)(b:List Int):Acc :=
 if b.length=9/\b.getD 0 0=1 then⟨Fv a (Fz b),Fu a (Fz b)⟩
 else if b.length=33/\b.getD 0 0=2 then(if Cj (b.drop 13)=0 then⟨BR a (Fo b),Ca a (Fo b)⟩else a0)
 else a0
theorem Pf(a:Acc)(b:List Int):Dp a b=if GH a b=0 then some (F6 a b)else none:=by
 unfold Dp GH F6;by_cases h1:b.length=9/\b.getD 0 0=1
 .rw[if_pos h1,if_pos h1,if_pos h1];by_cases h2:BQ a (Fz b)=0
  .rw[if_pos h2,if_pos h2];unfold Fv Fu;rw[if_pos h2,if_pos h2]
  .rw[if_neg h2,if_neg h2]
 .rw[if_neg h1,if_neg h1,if_neg h1];by_cases h2:b.length=33/\b.getD 0 0=2
  .rw[if_pos h2,if_pos h2,if_pos h2];by_cases h3:Cj (b.drop 13)=0
   .rw[if_pos h3,if_pos h3,if_pos h3];by_cases h4:AQ a (Fo b)=0
    .rw[if_pos h4,if_pos h4];unfold BR Ca;rw[if_pos h4,if_pos h4]
    .rw[if_neg h4,if_neg h4]
   .rw[if_neg h3,if_neg h3,if_neg h3]
  .rw[if_neg h2,if_neg h2,if_neg h2,if_neg (by decide)]
def voV(l:List Int):Vt:=if Cj (l.drop 12)=0 then⟨Ac l 0,⟨Ac l 4,Ac l 8⟩,Zt (l.drop 12)⟩else⟨0,⟨0,0⟩,⟨0,0,0,0,0⟩⟩
theorem bX{l:List Int}(h:Cj (l.drop 12)=0):∃ m0 m1 m2 m3 m4:Int,JH (l.drop 12)=#[.int .i64 m0,.int .i64 m1,.int .i64 m2,.int .i64 m3,.int .i64 m4]/\voV l=⟨Ac l 0,⟨Ac l 4,Ac l 8⟩,⟨m0,m1,m2,m3,m4⟩⟩:=by
 refine⟨Ac (l.drop 12) 0,Ac (l.drop 12) 4,Ac (l.drop 12) 8,Ac (l.drop 12) 12,Ac (l.drop 12) 16,?_,?_⟩
 .unfold JH;rw[if_pos h];rfl
 .unfold voV;rw[if_pos h];rfl
theorem bW{l:List Int}(h:¬ Cj (l.drop 12)=0):JH (l.drop 12)=zV5/\voV l=⟨0,⟨0,0⟩,⟨0,0,0,0,0⟩⟩:=by
 unfold voV JH;rw[if_neg h,if_neg h];exact⟨rfl,rfl⟩
theorem Qz(b:List Int)(h:Cj (b.drop 13)=0):voV (b.drop 1)=Fo b:=by
 unfold voV Fo;rw[kz,if_pos h,Dc,Dc,Dc]
theorem Kx(b:List Int):(⟨Ac (b.drop 1) 0,Ac (b.drop 1) 4⟩:Bal)=Fz b:=by
 unfold Fz;rw[Dc,Dc]
def FJ(d:List Int)(s:Int):Acc:=if Bd d s then(DU d).2 else a0
def Ms(d:List Int)(s:Int):Int:=if Bd d s then((DU d).1:Int)else 0
def IK(d:List Int)(s:Int):List Int:=if Bd d s then d.take (DU d).1 else[]
def Lv(d:List Int)(s:Int):Int:=if Bd d s then(if((DU d).1:Int)<s then((DU d).1:Int)else s)else 0
end
section
def GZ(d:List Int)(s:Int)(k:Nat):Int:=if ¬ Bd d s then 5 else if 100000<d.length+k then 8 else 0
def CM(d:List Int)(s:Int)(may:Prop)[Decidable may] (b:List Int):Int:=if GZ d s (b.length+5)≠0 then GZ d s (b.length+5)else if may then 0 else 2
def Fl(d:List Int)(s:Int)(may:Prop)[Decidable may] (b:List Int):List Int:=if CM d s may b=0 then d++AI b else[]
def FX(d:List Int)(s:Int)(may:Prop)[Decidable may] (b:List Int):Int:=if CM d s may b=0 then s else 0
theorem aO(b:Bal):BQ a0 b=if Ab b then 0 else 2:=by
 have h0:An a0:=⟨.inr ⟨rfl,rfl⟩,λv hv=>(M' hv).elim,trivial⟩;unfold BQ;rw[if_neg (λg=>g h0)];by_cases h:Ab b
 .rw[if_neg (λg=>g h),if_pos h,if_neg];intro g;unfold Ab at h;unfold Bal.lt a0 at g;simp only at g;omega
 .rw[if_pos h,if_neg h]
theorem bY(v:Vt):AQ a0 v=if Ak v then 0 else 2:=by
 have h0:An a0:=⟨.inr ⟨rfl,rfl⟩,λv hv=>(M' hv).elim,trivial⟩;unfold AQ;rw[if_neg (λg=>g h0)];by_cases h:Ak v
 .rw[if_neg (λg=>g h),if_pos h,if_neg];intro g;have hb:=h.2.1;unfold Ab at hb;unfold Bal.lt a0 at g;simp only at g;omega
 .rw[if_pos h,if_neg h]
end
section
open Go.RowKit
section
def Bo{α:Type}(f:Nat->α)(i:Nat)(x:α):Nat->α:=λj=>if j=i then x else f j
structure Sto where
 V:Nat->Int
 L:Nat->Int
 C:Nat->Int
 A:Nat->Int
 R:Nat->Bool
def FP:Sto:=⟨λ_=>0,λ_=>0,λ_=>0,λ_=>0,λ_=>false⟩
def ClB(l c a:Int):Prop:=(0<=l/\l<=1048577)/\(l=0->c=0/\a=0)
instance (l c a:Int):Decidable (ClB l c a):=by unfold ClB;exact inferInstance
def VaB(v:Int):Prop:=0<=v/\v<=1073741824
instance (v:Int):Decidable (VaB v):=by unfold VaB;exact inferInstance
def TG(s:Sto):Prop:=(∀ i,i<8->VaB (s.V i))/\∀ i,i<8->ClB (s.L i) (s.C i) (s.A i)
noncomputable instance (s:Sto):Decidable (TG s):=Classical.propDecidable _
noncomputable def Mx(s:Sto):Int:=if TG s then 0 else 5
variable{m:Cmd}{s:Sto}
theorem bF(h:TG s):Mx s=0:=if_pos h
theorem Kh(h:¬ TG s):Mx s=5:=if_neg h
def Mn(s:Sto)(m:Cmd):Int:=if m.k=1 then m.v else if m.k=2 then s.V m.n.toNat else 0
def Oi(s:Sto)(m:Cmd):Sto :=
 ⟨if m.k=1 then Bo s.V m.n.toNat m.v else s.V,Bo s.L m.c.toNat (m.s+1),Bo s.C m.c.toNat 0,Bo s.A m.c.toNat (Mn s m),if m.k=3 then Bo s.R m.n.toNat true else s.R⟩
def dnS(s:Sto)(m:Cmd):Sto:=if m.k≠0/\¬ m.s<s.L m.c.toNat/\s.R m.c.toNat=false then Oi s m else s
def dnC(s:Sto)(m:Cmd):Int :=
 if m.k=0 then 0 else if s.L m.c.toNat=m.s+1 then s.C m.c.toNat else if m.s<s.L m.c.toNat then 7 else if s.R m.c.toNat=true then 11 else 0
def dnA(s:Sto)(m:Cmd):Int :=
 if m.k=0 then 0 else if s.L m.c.toNat=m.s+1 then s.A m.c.toNat else if m.s<s.L m.c.toNat then 0 else if s.R m.c.toNat=true then 0 else Mn s m
noncomputable def doE(s:Sto)(m:Cmd):Int:=if TG s then m.e else 5
noncomputable def doS(s:Sto)(m:Cmd):Sto:=if doE s m=0 then dnS s m else FP
noncomputable def doC(s:Sto)(m:Cmd):Int:=if doE s m=0 then dnC s m else 0
noncomputable def doA(s:Sto)(m:Cmd):Int:=if doE s m=0 then dnA s m else 0
theorem dG(h:doE s m=0):doS s m=dnS s m:=if_pos h
theorem dC(h:doE s m=0):doC s m=dnC s m:=if_pos h
theorem dB(h:doE s m=0):doA s m=dnA s m:=if_pos h
theorem Wq(h:doE s m≠0):doS s m=FP:=if_neg h
theorem Wn(h:doE s m≠0):doC s m=0:=if_neg h
theorem Zn(h:m.e=0):(0<=m.k/\m.k<=3)/\InC m.c m.s m.n m.v:=E4 h
end
end
section
def K7(Q:Nat->Bool):Nat:=(Q 0).toNat+(Q 1).toNat+(Q 2).toNat+(Q 3).toNat+(Q 4).toNat
theorem KX(Q R:Nat->Bool)(hQ:3<=K7 Q)(hR:3<=K7 R):∃ q,q<5/\Q q=true/\R q=true:=by
 apply ma;intro h;have hh:∀ q,q<5->(Q q).toNat+(R q).toNat<=1:=by
  intro q hq;cases h1:Q q<;>cases h2:R q<;>simp;exact h ⟨q,hq,h1,h2⟩
 have h0:=hh 0 (by omega);have h1:=hh 1 (by omega);have h2:=hh 2 (by omega);have h3:=hh 3 (by omega);have h4:=hh 4 (by omega);unfold K7 at hQ hR;omega
section
variable{γ:Type}
section
def Ch(H:Nat->Nat->Int->γ->Prop)(s:Nat)(b:Int)(c:γ):Prop:=∃ Q:Nat->Bool,3<=K7 Q/\∀ q,q<5->Q q=true->H q s b c
def DA(H:Nat->Nat->Int->γ->Prop)(P:Nat->Int)(s:Nat)(b:Int)(c:γ):Prop :=
 ∃ Q:Nat->Bool,3<=K7 Q/\(∀ q,q<5->Q q=true->b<=P q) /\
  ((∀ q,q<5->Q q=true->∀ b' c',H q s b' c'->b<=b') \/
   ∃ b0,b0<b/\(∃ q,q<5/\Q q=true/\H q s b0 c)/\∀ q,q<5->Q q=true->∀ b' c',H q s b' c'->b'<b->b'<=b0)
structure PInv(H:Nat->Nat->Int->γ->Prop)(P:Nat->Int):Prop where
 le:∀ n s b c,H n s b c->0<b/\b<=P n
 uniq:∀ n n' s b c c',H n s b c->H n' s b c'->c=c'
 safe:∀ n s b c,H n s b c->DA H P s b c
variable{H:Nat->Nat->Int->γ->Prop}{P:Nat->Int}{b b' b1:Int}{c c1:γ}{n s:Nat}
theorem PInv.later(h:PInv H P)(h1:Ch H s b1 c1):∀ (m:Nat) (b2:Int) (c2:γ) (n:Nat),b2.toNat=m->b1<b2->H n s b2 c2->c2=c1:=by
 intro m;induction m using Nat.strongRecOn with
 | ind m ih =>
  intro b2 c2 n hm hlt hv;have hp:=(h.le n s b2 c2 hv).1;obtain⟨Q,hQ,hP,hS⟩:=h.safe n s b2 c2 hv;obtain⟨Q1,hQ1,hV1⟩:=h1;obtain⟨q,hq,hqQ,hq1⟩:=KX Q Q1 hQ hQ1;have hq1v:=hV1 q hq hq1;rcases hS with hS|⟨b0,hb0,⟨q0,hq0,hq0Q,hv0⟩,hmax⟩
  .have:=hS q hq hqQ b1 c1 hq1v;omega
  .have hle:=hmax q hq hqQ b1 c1 hq1v hlt;have hp0:=(h.le q0 s b0 c2 hv0).1;rcases(by omega:b1=b0\/b1<b0)with rfl|hlt0
   .exact h.uniq q0 q s b1 c2 c1 hv0 hq1v
   .exact ih b0.toNat (by omega) b0 c2 q0 rfl hlt0 hv0
theorem PInv.agree(h:PInv H P){b2:Int}{c2:γ}(h1:Ch H s b1 c1)(h2:Ch H s b2 c2):c1=c2:=by
 have some1:∀ {b:Int} {c:γ},Ch H s b c->∃ n,H n s b c:=by
  rintro b c ⟨Q,hQ,hV⟩;obtain⟨q,hq,hqQ,_⟩:=KX Q Q hQ hQ;exact⟨q,hV q hq hqQ⟩
 obtain⟨n1,v1⟩:=some1 h1;obtain⟨n2,v2⟩:=some1 h2;rcases(by omega:b1<b2\/b1=b2\/b2<b1)with hlt|rfl|hlt
 .exact(h.later h1 _ b2 c2 n2 rfl hlt v2).symm
 .exact h.uniq n1 n2 s b1 c1 c2 v1 v2
 .exact h.later h2 _ b1 c1 n1 rfl hlt v1
def upP(P:Nat->Int)(n:Nat)(b:Int):Nat->Int:=λi=>if i=n then b else P i
theorem LN(h:P n<=b)(q:Nat):P q<=upP P n b q:=by
 unfold upP;split
 .rename_i e;rw[e];exact h
 .exact jH _
theorem DA.up(h:DA H P s b c)(hb:P n<=b'):DA H (upP P n b') s b c:=by
 obtain⟨Q,hQ,hP,hS⟩:=h;exact⟨Q,hQ,λq hq hqQ=>jp (hP q hq hqQ) (LN hb q),hS⟩
theorem PInv.promise(h:PInv H P)(hb:P n<=b):PInv H (upP P n b) :=
 ⟨λm s b' c hv=>⟨(h.le m s b' c hv).1,jp (h.le m s b' c hv).2 (LN hb m)⟩,h.uniq,λm s b' c hv=>(h.safe m s b' c hv).up hb⟩
def db(H:Nat->Nat->Int->γ->Prop)(n s:Nat)(b:Int)(c:γ):Nat->Nat->Int->γ->Prop:=λn' s' b' c'=>H n' s' b' c'\/(n'=n/\s'=s/\b'=b/\c'=c)
theorem DA.vote(h:DA H P s b c){t:Nat}{c':γ}(hb:P n<=b'):DA (db H n t b' c') (upP P n b') s b c:=by
 obtain⟨Q,hQ,hP,hS⟩:=h;refine⟨Q,hQ,λq hq hqQ=>jp (hP q hq hqQ) (LN hb q),?_⟩;rcases hS with hS|⟨b0,hb0,⟨q0,hq0,hq0Q,hv0⟩,hmax⟩
 .left;intro q hq hqQ b2 c2 hv;rcases hv with hv|⟨rfl,rfl,rfl,rfl⟩
  .exact hS q hq hqQ b2 c2 hv
  .exact jp (hP q hq hqQ) hb
 .right;refine⟨b0,hb0,⟨q0,hq0,hq0Q,.inl hv0⟩,?_⟩;intro q hq hqQ b2 c2 hv hlt;rcases hv with hv|⟨rfl,rfl,rfl,rfl⟩
  .exact hmax q hq hqQ b2 c2 hv hlt
  .have:=hP q hq hqQ;omega
theorem PInv.vote(h:PInv H P)(hb:P n<=b)(h0:0<b)(hs:DA H P s b c)(hu:∀ m c',H m s b c'->c'=c):PInv (db H n s b c) (upP P n b):=by
 refine⟨?_,?_,?_⟩
 .rintro m t b' c' (hv|⟨rfl,rfl,rfl,rfl⟩)
  .exact⟨(h.le m t b' c' hv).1,jp (h.le m t b' c' hv).2 (LN hb m)⟩
  .exact⟨h0,by unfold upP;rw[if_pos rfl];exact jH _⟩
 .rintro m m' t b' c' c2 (hv|⟨_,e1,e2,e3⟩) (hv'|⟨_,e1',e2',e3'⟩)
  .exact h.uniq m m' t b' c' c2 hv hv'
  .subst e1' e2' e3';exact hu m c' hv
  .subst e1 e2 e3;exact(hu m' c2 hv').symm
  .rw[e3,e3']
 .rintro m t b' c' (hv|⟨rfl,rfl,rfl,rfl⟩)
  .exact(h.safe m t b' c' hv).vote hb
  .exact hs.vote hb
end
end
end
section
def upN{α:Type}(f:Nat->α)(n:Nat)(x:α):Nat->α:=λi=>if i=n then x else f i
theorem Ew{α:Type}(f:Nat->α)(n:Nat)(x:α):upN f n x n=x:=if_pos rfl
theorem FT{α:Type}(f:Nat->α){n i:Nat}(x:α)(h:i≠n):upN f n x i=f i:=if_neg h
end
section
theorem H9{l:List Vt}(h:BA l)(s:Int)(v:Vt):BN (Af l s) v<=(decide (v∈l/\v.slot=s)).toNat:=by
 induction l with
 | nil=>simp[BN,Af]
 | cons x xs ih =>
  obtain⟨hx,hxs⟩:=h;have ih:=ih hxs;have e:BN (Af (x::xs) s) v=(if x.slot=s/\x=v then 1 else 0)+BN (Af xs s) v:=by
   unfold BN Af;rw[List.filter_cons];by_cases h1:x.slot=s
   .rw[if_pos (by simpa using h1),mp];by_cases h2:x=v
    .have h1':v.slot=s:=h2▸h1;simp[h2,h1'];omega
    .simp[h1,h2]
   .rw[if_neg (by simpa using h1)];simp[h1]
  rw[e];by_cases h1:x.slot=s/\x=v
  .have h2:¬ (v∈xs/\v.slot=s):=λg=>by
    have:=hx v g.1;rw[<- h1.2]at this
    omega
   rw[D' h2]at ih
   rw[if_pos h1,I' ⟨h1.2▸U',h1.2▸h1.1⟩];simp at ih ⊢;omega
  .rw[if_neg h1];by_cases h2:v∈xs/\v.slot=s
   .rw[I' h2]at ih
    rw[I' ⟨P' _ h2.1,h2.2⟩];omega
   .rw[D' h2]at ih
    simp at ih ⊢;omega
theorem EX(l m:List Vt)(v:Vt):BN (l++m) v=BN l v+BN m v:=by unfold BN;rw[l8]
end
section
def Cc:Bal:=⟨0,0⟩
def TW:Cmd:=⟨0,0,0,0,0⟩
def vtz:Vt:=⟨0,Cc,TW⟩
def Ej:Acc:=⟨Cc,[]⟩
structure Let where
 kind:Nat
 src:Nat
 dst:Nat
 bal:Bal
 vote:Vt
 votes:List Vt
 slot:Nat
 what:List Cmd
def Cy(k:Nat):Let:=⟨k,0,0,Cc,vtz,[],0,[]⟩
inductive Pend where
 | began (b:Bal) (vs:List Vt)
 | prom (to:Nat) (b:Bal) (vs:List Vt)
 | voted (to:Nat) (v:Vt)
 | refuse (to:Nat) (b:Bal)
 | prop (v:Vt)
 | askNews (to:Nat)
 | start
 | tell (to:Nat) (slot:Nat)
structure Rnd where
 bal:Bal
 pro:Nat->Bool
 heard:Nat->Acc
 taught:Nat->Nat
 next:Nat
 queue:List Cmd
def eE:Rnd:=⟨Cc,λ_=>false,λ_=>Ej,λ_=>0,0,[]⟩
structure Tol where
 n:Nat
 c:Int
 s:Int
 e:Int
 a:Int
structure Nod where
 up:Bool
 d:List Int
 sy:Int
 bad:Nat
 vo:Acc
 pend:List Pend
 rounds:Int
 rnd:Rnd
 agreed:List Cmd
 done:Nat
 sto:Sto
 wants:List Cmd
 asked:Cmd->Option Bal
structure Meet where
 node:Nat->Nod
 lets:List Let
 told:List Tol
def Nod.bare(N:Nod)(up:Bool)(d:List Int)(sy:Int)(vo:Acc)(p:List Pend):Nod :=
 ⟨up,d,sy,N.bad,vo,p,0,eE,[],0,FP,[],λ_=>none⟩
def CV:Nod:=⟨true,[],0,0,Ej,[],0,eE,[],0,FP,[],λ_=>none⟩
def AK:Meet:=⟨λ_=>CV,[],[]⟩
def Meet.put(M:Meet)(i:Nat)(N:Nod):Meet:={ M with node:=upN M.node i N }
def Nod.promise(N:Nod)(b:Bal):Nod × List Vt × Int :=
 if BQ N.vo b≠0 then(N,[],BQ N.vo b)
 else if b=N.vo.p then({ N with vo:=⟨b,N.vo.vs⟩ },N.vo.vs,0)
 else if CM N.d N.sy (Ab b) (Bn b)≠0 then(N,[],CM N.d N.sy (Ab b) (Bn b))
 else({ N with d:=Fl N.d N.sy (Ab b) (Bn b),sy:=FX N.d N.sy (Ab b) (Bn b),vo:=⟨b,N.vo.vs⟩ },N.vo.vs,0)
def Nod.vote(N:Nod)(v:Vt):Nod × Int :=
 if AQ N.vo v≠0 then(N,AQ N.vo v)
 else if v∈N.vo.vs then({ N with vo:=⟨v.b,Ba N.vo.vs v⟩ },0)
 else if CM N.d N.sy (Ak v) (Be v)≠0 then(N,CM N.d N.sy (Ak v) (Be v))
 else({ N with d:=Fl N.d N.sy (Ak v) (Be v),sy:=FX N.d N.sy (Ak v) (Be v),vo:=⟨v.b,Ba N.vo.vs v⟩ },0)
def Nod.wait(N:Nod)(p:Pend):Nod:={ N with pend:=N.pend++[p] }
def Nod.refuse(N:Nod)(to:Nat)(e:Int):Nod:=if e=7 then N.wait (.refuse to N.vo.p)else N
def Nod.leads(N:Nod):Bool:=decide (N.rnd.bal≠Cc/\N.rnd.bal=N.vo.p)
def Rnd.enough(r:Rnd):Bool:=decide (5<2*K7 r.pro)
def CX(a:Acc):List Vt->Acc
 | []=>a
 | v::l=>CX (if AQ a v=0 then⟨BR a v,Ca a v⟩else a) l
def Rnd.hear(r:Rnd)(j:Nat)(vs:List Vt):Rnd:={ r with pro:=upN r.pro j true,heard:=upN r.heard j (CX ⟨r.bal,vs⟩ (r.heard j).vs) }
def Rnd.accs(r:Rnd):List Acc:=[r.heard 0,r.heard 1,r.heard 2,r.heard 3,r.heard 4]
def KW:Nat->Rnd->List Cmd->List Cmd
 | 0,_,l=>l
 | k+1,r,l=>if CZ r.accs (l.length:Int)=0 then KW k r (l++[Cv r.accs (l.length:Int)])else l
def Nod.learnC(N:Nod):Nod:={ N with agreed:=KW 41 N.rnd N.agreed }
def Nod.learn(N:Nod)(slot:Nat)(what:List Cmd):Nod:={ N with agreed:=N.agreed++what.drop (N.agreed.length-slot) }
def Nod.count(N:Nod)(j:Nat)(v:Vt):Nod :=
 if v.b≠N.rnd.bal then N
 else if AQ (N.rnd.heard j) v≠0 then N
 else Nod.learnC { N with rnd:={ N.rnd with heard:=upN N.rnd.heard j ⟨BR (N.rnd.heard j) v,Ca (N.rnd.heard j) v⟩ } }
def Pi(q:List Cmd):List Cmd->List Cmd
 | []=>q
 | c::l=>Pi (if q.length<40/\c∉q then q++[c]else q) l
def Nod.enqueue(N:Nod)(what:List Cmd):Nod:=if N.leads then{ N with rnd:={ N.rnd with queue:=Pi N.rnd.queue what } }else N
def Ex(f:Cmd->Option Bal)(c:Cmd)(b:Option Bal):Cmd->Option Bal:=λx=>if x=c then b else f x
def Nod.want(N:Nod)(c:Cmd):Nod:=if(N.asked c).isSome then N else{ N with wants:=N.wants++[c],asked:=Ex N.asked c (some Cc) }
def Nod.unwant(N:Nod)(c:Cmd):Nod:=if(N.asked c).isSome then{ N with wants:=N.wants.erase c,asked:=Ex N.asked c none }else N
def CY(b:Bal)(f:Cmd->Option Bal):List Cmd->List Cmd × (Cmd->Option Bal)
 | []=>([],f)
 | c::l=>if(f c).getD Cc≠b then(c::(CY b (Ex f c (some b)) l).1,(CY b (Ex f c (some b)) l).2)else CY b f l
def Nod.take(N:Nod)(l:Let):Nod :=
 match l.kind with
 | 0=>if(N.promise l.bal).2.2≠0 then N.refuse l.src (N.promise l.bal).2.2 else(N.promise l.bal).1.wait (.prom l.src l.bal (N.promise l.bal).2.1)
 | 1=>let K:=N.learn 0 l.what
  if K.leads=false\/l.bal≠K.rnd.bal\/K.rnd.pro l.src=true then K
  else Nod.learnC { K with rnd:={ K.rnd.hear l.src l.votes with taught:=upN K.rnd.taught l.src l.what.length } }
 | 2=>{ N with rounds:=max N.rounds l.bal.r }
 | 3=>if(N.vote l.vote).2≠0 then N.refuse l.src (N.vote l.vote).2 else(N.vote l.vote).1.wait (.voted l.src l.vote)
 | 4=>N.count l.src l.vote
 | 5=>if N.agreed.length<l.slot then N.wait (.askNews l.src)else N.learn l.slot l.what
 | 6=>let K:=N.enqueue l.what
  if l.slot<K.agreed.length then K.wait (.tell l.src l.slot)else K
 | _=>N
def Meet.come(M:Meet)(l:Let):Meet:=if(M.node l.dst).up then M.put l.dst ((M.node l.dst).take l)else M
def Nod.nextC(N:Nod)(slot:Nat):Option Cmd :=
 if C1 (N.rnd.accs.map (·.vs)) (slot:Int)≠0 then none
 else if Fr (N.rnd.accs.map (·.vs)) (slot:Int)then some (G7 (N.rnd.accs.map (·.vs)) (slot:Int))
 else N.rnd.queue.find? λc=>decide (c∉N.agreed)
def Nod.propose(N:Nod):Nod :=
 if N.leads=false\/N.rnd.enough=false\/N.agreed.length<N.rnd.next then N
 else match N.nextC N.agreed.length with
  | none=>N
  | some c =>
   if(N.vote ⟨(N.agreed.length:Int),N.rnd.bal,c⟩).2≠0 then N
   else Nod.wait { (N.vote ⟨(N.agreed.length:Int),N.rnd.bal,c⟩).1 with rnd:={ N.rnd with next:=N.agreed.length+1 } } (.prop ⟨(N.agreed.length:Int),N.rnd.bal,c⟩)
def Nod.lead(N:Nod)(i:Nat):Nod :=
 let b:Bal:=⟨max N.rounds N.vo.p.r+1,(i:Int)⟩
 if(N.promise b).2.2≠0 then N
 else Nod.wait { (N.promise b).1 with rnd:=⟨b,λ_=>false,λ_=>Ej,λ_=>N.agreed.length,0,[]⟩ } (.began b (N.promise b).2.1)
def Nod.crash(N:Nod)(k:Int):Nod:=if Hm N.d N.sy k≠0 then N else N.bare false (JF N.d N.sy k) (JG N.d N.sy k) Ej []
def Nod.start(N:Nod):Nod :=
 if CS N.d N.sy≠0 then N
 else if Ms N.d N.sy<(N.d.length:Int)then N.bare true (IK N.d N.sy) (Lv N.d N.sy) (FJ N.d N.sy) [.start]
 else N.bare true N.d N.sy (FJ N.d N.sy) [.start]
def Meet.move(M:Meet)(k:Int)(at_:Nat):Meet :=
 match M.lets[at_%M.lets.length]? with
 | none=>M
 | some l =>
  let A:=if k≠6 then{ M with lets:=M.lets.eraseIdx (at_%M.lets.length) }else M
  if k≠5 then A.come l else A
def Meet.comeAll(M:Meet):Meet:=M.lets.foldl (λM l=>M.come l) { M with lets:=[] }
end
section
open Go.RowKit
section
def stA(s:Sto):Array Value:=#[.int .i64 (s.V 0),.int .i64 (s.V 1),.int .i64 (s.V 2),.int .i64 (s.V 3),.int .i64 (s.V 4),.int .i64 (s.V 5),.int .i64 (s.V 6),.int .i64 (s.V 7),.int .i64 (s.L 0),.int .i64 (s.L 1),.int .i64 (s.L 2),.int .i64 (s.L 3),.int .i64 (s.L 4),.int .i64 (s.L 5),.int .i64 (s.L 6),.int .i64 (s.L 7),.int .i64 (s.C 0),.int .i64 (s.A 0),.int .i64 (s.C 1),.int .i64 (s.A 1),.int .i64 (s.C 2),.int .i64 (s.A 2),.int .i64 (s.C 3),.int .i64 (s.A 3),.int .i64 (s.C 4),.int .i64 (s.A 4),.int .i64 (s.C 5),.int .i64 (s.A 5),.int .i64 (s.C 6),.int .i64 (s.A 6),.int .i64 (s.C 7),.int .i64 (s.A 7),.bool (s.R 0),.bool (s.R 1),.bool (s.R 2),.bool (s.R 3),.bool (s.R 4),.bool (s.R 5),.bool (s.R 6),.bool (s.R 7)]
theorem gO(s:Sto)(i:Nat)(h:i<8):(stA s)[i]?=some (.int .i64 (s.V i)):=by
 rcases(by omega:i=0\/i=1\/i=2\/i=3\/i=4\/i=5\/i=6\/i=7)with rfl|rfl|rfl|rfl|rfl|rfl|rfl|rfl<;>rfl
theorem gN(s:Sto)(i:Nat)(h:i<8):(stA s)[8+i]?=some (.int .i64 (s.L i)):=by
 rcases(by omega:i=0\/i=1\/i=2\/i=3\/i=4\/i=5\/i=6\/i=7)with rfl|rfl|rfl|rfl|rfl|rfl|rfl|rfl<;>rfl
theorem gM(s:Sto)(i:Nat)(h:i<8):(stA s)[16+i*2]?=some (.int .i64 (s.C i)):=by
 rcases(by omega:i=0\/i=1\/i=2\/i=3\/i=4\/i=5\/i=6\/i=7)with rfl|rfl|rfl|rfl|rfl|rfl|rfl|rfl<;>rfl
theorem gL(s:Sto)(i:Nat)(h:i<8):(stA s)[16+i*2+1]?=some (.int .i64 (s.A i)):=by
 rcases(by omega:i=0\/i=1\/i=2\/i=3\/i=4\/i=5\/i=6\/i=7)with rfl|rfl|rfl|rfl|rfl|rfl|rfl|rfl<;>rfl
def Bs(w:World)(g:Nat)(s:Sto):Prop:=w.heap[g]?=some (.cells (stA s) 115)
variable{g:Nat}{s:Sto}{w:World}
theorem Bs.cellV(h:Bs w g s)(i:Nat)(hi:i<8):w.cell? ⟨g,i,none⟩=some (.int .i64 (s.V i)):=(cell_of_row _ _ i _ _ _ h).trans (gO s i hi)
theorem Bs.cellL(h:Bs w g s)(i:Nat)(hi:i<8):w.cell? ⟨g,8+i,none⟩=some (.int .i64 (s.L i)):=(cell_of_row _ _ (8+i) _ _ _ h).trans (gN s i hi)
theorem Bs.cellC(h:Bs w g s)(i:Nat)(hi:i<8):w.cell? ⟨g,16+i*2,none⟩=some (.int .i64 (s.C i)):=(cell_of_row _ _ (16+i*2) _ _ _ h).trans (gM s i hi)
theorem Bs.cellA(h:Bs w g s)(i:Nat)(hi:i<8):w.cell? ⟨g,16+i*2+1,none⟩=some (.int .i64 (s.A i)):=(cell_of_row _ _ (16+i*2+1) _ _ _ h).trans (gL s i hi)
theorem ef(a b a' b':Int):∀ w,(binOp .neq 112 (.agg #[.int .i64 a,.int .i64 b]) (.agg #[.int .i64 a',.int .i64 b'])).run prog w=.ok (.bool (!decide (a=a'/\b=b'))) w:=by
 intro w;rw[run_neq_struct,run_equalIn_agg w 9999 _ _ _ (by kernel_rfl) (by kernel_rfl)];unfold Program.fieldsOf;rw[underlying112];have h3:=underlying3;have hE:=underlying29;simp[Op.eqFields,go_sem,h3,hE]
 repeat' split
 all_goals simp_all
theorem aA(a b:Int):∀ w,(binOp .neq 112 (.agg #[.int .i64 a,.int .i64 b]) (.agg #[.int .i64 0,.int .i64 0])).run prog w=.ok (.bool (!decide (a=0/\b=0))) w:=ef a b 0 0
def vaL(f:Nat->Int):List Value:=[.int .i64 (f 0),.int .i64 (f 1),.int .i64 (f 2),.int .i64 (f 3),.int .i64 (f 4),.int .i64 (f 5),.int .i64 (f 6),.int .i64 (f 7)]
def vaA(f:Nat->Int):Array Value:=(vaL f).toArray
theorem YK(f:Nat->Int)(j:Nat)(u:Value)(h:(vaL f)[j]?=some u):j<8/\u=.int .i64 (f j):=by
 have hj:j<8:=(Q'.1 h).1;refine⟨hj,?_⟩;rcases(by omega:j=0\/j=1\/j=2\/j=3\/j=4\/j=5\/j=6\/j=7)with rfl|rfl|rfl|rfl|rfl|rfl|rfl|rfl<;>(simp[vaL]at h;exact h.symm)
theorem Bs.rangeV(h:Bs w g s):w.rangeAt g 0 (vaL s.V):=by
 intro j u hj;obtain⟨h1,rfl⟩:=YK _ _ _ hj;rw[jm];exact h.cellV j h1
theorem Bs.rangeL(h:Bs w g s):w.rangeAt g 8 (vaL s.L):=by
 intro j u hj;obtain⟨h1,rfl⟩:=YK _ _ _ hj;exact h.cellL j h1
theorem ff(f:Nat->Int):(prog.info? 110).map (·.size)=some (vaL f).length:=by show _=some 8;kernel_rfl
theorem FW{ops:Array Oper}{rest:List Oper}{op:Oper}{a:Act}{Q:Exit->Act->World->Prop}(hgd:op.guard=none)(x:Operand)(ho:op.op=.load 110 x)(b o:Nat)(hx:a.eval x=.pointer (some ⟨b,o,none⟩))(f:Nat->Int)(hc:w.rangeAt b o (vaL f))(h:wpList prog ops Q rest (a.put op.dst (.agg (vaA f))) w):wpList prog ops Q (op::rest) a w :=
 wpList_load_mid hgd 110 x ho b o hx (vaL f) _ hc underlying110 rfl (ff f) h
theorem T5(f:Nat->Int)(i:Nat)(hi:i<8)(w:World):(Instr.index 110 (.agg (vaA f)) (.int .i64 (i:Int))).run prog w=.ok (.int .i64 (f i)) w:=by
 rcases(by omega:i=0\/i=1\/i=2\/i=3\/i=4\/i=5\/i=6\/i=7)with rfl|rfl|rfl|rfl|rfl|rfl|rfl|rfl<;>kernel_rfl
structure NX where
 tape:S3
 votes:S3
 synced:S3
 queue:S3
 agreed:S3
 wants:S3
 hv:Nat->S3
 asked:Option Nat
def AB(i ob:Nat)(p:Nod)(x:NX):Array Value:=([iv (i:Int),.bool p.up,S3.v x.tape,iv p.sy,iv (p.bad:Int),pt ob 0,iv p.vo.p.r,iv p.vo.p.n,S3.v x.votes,S3.v x.synced,iv p.rounds,iv p.rnd.bal.r,iv p.rnd.bal.n,.bool (p.rnd.pro 0),.bool (p.rnd.pro 1),.bool (p.rnd.pro 2),.bool (p.rnd.pro 3),.bool (p.rnd.pro 4),iv ((p.rnd.heard 0).p.r),iv ((p.rnd.heard 0).p.n),S3.v (x.hv 0),iv ((p.rnd.heard 1).p.r),iv ((p.rnd.heard 1).p.n),S3.v (x.hv 1),iv ((p.rnd.heard 2).p.r),iv ((p.rnd.heard 2).p.n),S3.v (x.hv 2),iv ((p.rnd.heard 3).p.r),iv ((p.rnd.heard 3).p.n),S3.v (x.hv 3),iv ((p.rnd.heard 4).p.r),iv ((p.rnd.heard 4).p.n),S3.v (x.hv 4),iv (p.rnd.taught 0:Int),iv (p.rnd.taught 1:Int),iv (p.rnd.taught 2:Int),iv (p.rnd.taught 3:Int),iv (p.rnd.taught 4:Int),iv (p.rnd.next:Int),S3.v x.queue,S3.v x.agreed,iv (p.done:Int)]++((stA p.sto).toList++[S3.v x.wants,.map x.asked])).toArray
def EQ(l:Let)(vs wh:S3):Array Value:=#[iv (l.kind:Int),iv (l.src:Int),iv (l.dst:Int),iv l.bal.r,iv l.bal.n,iv l.vote.slot,iv l.vote.b.r,iv l.vote.b.n,iv l.vote.w.k,iv l.vote.w.c,iv l.vote.w.s,iv l.vote.w.n,iv l.vote.w.v,S3.v vs,iv (l.slot:Int),S3.v wh]
def FQ(t:Tol):List Value:=[iv (t.n:Int),iv t.c,iv t.s,iv t.e,iv t.a]
def cmV(c:Cmd):List Value:=[iv c.k,iv c.c,iv c.s,iv c.n,iv c.v]
def cmL(l:List Cmd):List Value:=l.flatMap cmV
theorem Cd(l m:List Cmd):cmL (l++m)=cmL l++cmL m:=by simp[cmL]
theorem Bu(l:List Cmd):(cmL l).length=l.length*5:=by
 induction l with
 | nil=>rfl
 | cons c l ih=>rw[cmL,kq,G'];show 5+(cmL l).length=_;rw[ih,jo];omega
theorem NQ(l:List Cmd):∀ u∈cmL l,u.oneCell'=true:=by
 intro u hu;obtain⟨c,_,hc⟩:=kW.1 hu;simp only[cmV,iX,M',or_false]at hc;rcases hc with rfl|rfl|rfl|rfl|rfl<;>rfl
theorem NO{l:List Cmd}{k:Nat}{c:Cmd}(h:l[k]?=some c){j:Nat}{u:Value}(hj:(cmV c)[j]?=some u):(cmL l)[5*k+j]?=some u:=by
 induction l generalizing k with
 | nil=>cases h
 | cons d l ih =>
  rw[cmL,kq];cases k with
  | zero =>
   simp only[jT,X']at h;subst h;rw[iT (by have:=(Q'.1 hj).1;omega)];simpa using hj
  | succ k =>
   rw[iV (by show 5<=_;omega),show 5*(k+1)+j-(cmV d).length=5*k+j by show 5*(k+1)+j-5=_;omega];exact ih (by simpa using h)
theorem K6(l:List Cmd)(k:Nat):(cmL l).drop (5*k)=cmL (l.drop k):=by
 induction l generalizing k with
 | nil=>simp[cmL]
 | cons c l ih =>
  cases k with
  | zero=>simp
  | succ k =>
   show(cmV c++cmL l).drop (5*(k+1))=cmL (l.drop k);rw[<- ih k,List.drop_append,show(cmV c).drop (5*(k+1))=[]from jD (by show 5<=_;omega),j5,show 5*(k+1)-(cmV c).length=5*k by show 5*(k+1)-5=_;omega]
def Frz(g:Gh)(x:S3):Prop:=∀ a,x.a=some a->g.t a.block=.z
structure FSl(g:Gh)(w:World)(x:S3)(l:List Int):Prop where
 s:Sl w x.v l
 z:l≠[]->Frz g x
structure FSv(g:Gh)(w:World)(x:S3)(l:List Vt):Prop where
 s:Sv w x.v l
 z:l≠[]->Frz g x
end
section
variable{B:Nat}{T:List Tg}{g g':Gh}{w w':World}
section
variable{b i nb ob r:Nat}{bs:List Nat}{f:Cmd->Option Bal}{l:List Let}{x:S3}
theorem Cg.zc(c:Cg B T g w g' w')(hz:Tg.z∉T)(hb:b<w.heap.size)(ht:g.t b=.z):w'.heap[b]?=w.heap[b]?:=c.same b hb (by rw[ht];exact hz) (λh=>by rw[ht]at h;cases h)
theorem FSl.ch{l:List Int}(h:FSl g w x l)(c:Cg B T g w g' w')(hz:Tg.z∉T:=by simp):FSl g' w' x l:=by
 obtain⟨⟨⟨a,cap,hv,hc,hn,h1⟩,h2,h3⟩,h4⟩:=h;simp only[Value.slice.injEq]at hv;obtain⟨rfl,hxn,rfl⟩:=hv;rcases h1 with h1|⟨b,off,ha,hbs,hcell⟩
 .exact⟨⟨⟨_,_,by simp only[Value.slice.injEq,and_true,true_and];exact hxn,hc,hn,.inl h1⟩,h2,h3⟩,λh=>absurd h1 h⟩
 .have hne:∀ _:l≠[],g.t b=.z:=λh=>h4 h _ ha;by_cases hl:l=[]
  .exact⟨⟨⟨_,_,by simp only[Value.slice.injEq,and_true,true_and];exact hxn,hc,hn,.inl hl⟩,h2,h3⟩,λh=>absurd hl h⟩
  .refine⟨⟨⟨_,_,by simp only[Value.slice.injEq,and_true,true_and];exact hxn,hc,hn,.inr ⟨b,off,ha,Z' hbs c.size,λi hi=>?_⟩⟩,h2,h3⟩,λ_ a' ha'=>?_⟩
   .rw[World.cell?_of_block (w:=w) (c.zc hz hbs (hne hl))];exact hcell i hi
   .rw[ha]at ha';simp only[X']at ha';subst ha';rw[c.tag hbs (λh=>absurd ((hne hl).symm.trans h) (by simp))];exact hne hl
theorem FSv.ch{l:List Vt}(h:FSv g w x l)(c:Cg B T g w g' w')(hz:Tg.z∉T:=by simp):FSv g' w' x l:=by
 obtain⟨⟨⟨a,cap,hv,hc,hn,h1⟩,h2⟩,h4⟩:=h;simp only[Value.slice.injEq]at hv;obtain⟨rfl,hxn,rfl⟩:=hv;rcases h1 with h1|⟨b,off,ha,hbs,hcell⟩
 .exact⟨⟨⟨_,_,by simp only[Value.slice.injEq,and_true,true_and];exact hxn,hc,hn,.inl h1⟩,h2⟩,λh=>absurd h1 h⟩
 .by_cases hl:l=[]
  .exact⟨⟨⟨_,_,by simp only[Value.slice.injEq,and_true,true_and];exact hxn,hc,hn,.inl hl⟩,h2⟩,λh=>absurd hl h⟩
  .have hzb:g.t b=.z:=h4 hl _ ha;refine⟨⟨⟨_,_,by simp only[Value.slice.injEq,and_true,true_and];exact hxn,hc,hn,.inr ⟨b,off,ha,Z' hbs c.size,λi v hi j u hj=>?_⟩⟩,h2⟩,λ_ a' ha'=>?_⟩
   .rw[World.cell?_of_block (w:=w) (c.zc hz hbs hzb)];exact hcell i v hi j u hj
   .rw[ha]at ha';simp only[X']at ha';subst ha';rw[c.tag hbs (λh=>absurd (hzb.symm.trans h) (by simp))];exact hzb
structure Rc(g:Gh)(w:World)(x:S3)(l:List Cmd):Prop where
 len:x.n=l.length
 cap:x.n<=x.c
 nul:x.a=none->x.c=0
 ex:l=[]\/∃ b off,x.a=some ⟨b,off,none⟩/\b<w.heap.size/\(∀ j u,(cmL l)[j]?=some u->w.cell? ⟨b,off+j,none⟩=some u)/\(g.t b=.z\/off+5*l.length<=g.k b)
theorem Rc.nil(g:Gh)(w:World):Rc g w s30 []:=⟨rfl,A' _,λ_=>rfl,.inl rfl⟩
theorem Rc.ch{l:List Cmd}(h:Rc g w x l)(c:Cg B T g w g' w')(hz:Tg.z∉T:=by simp):Rc g' w' x l:=by
 refine⟨h.len,h.cap,h.nul,?_⟩;rcases h.ex with h1|⟨b,off,h1,h2,h3,h4⟩
 .exact .inl h1
 .refine .inr ⟨b,off,h1,Z' h2 c.size,λj u hj=>?_,?_⟩
  .rcases h4 with h4|h4
   .rw[World.cell?_of_block (w:=w) (c.zc hz h2 h4)];exact h3 j u hj
   .have hjl:j<(cmL l).length:=(Q'.1 hj).1;rw[Bu]at hjl
    rw[c.pref b h2 (off+j) (by omega)];exact h3 j u hj
  .rcases h4 with h4|h4
   .exact .inl ((c.tag h2 (by rw[h4];intro h;cases h)).trans h4)
   .exact .inr (iP h4 (c.kap b h2))
structure Box(g:Gh)(w:World)(b:Nat)(cs:Array Value)(t:TypeId):Prop where
 r:w.heap[b]?=some (.cells cs t)
 z:g.t b=.z
theorem Box.ch{cs:Array Value}{t:TypeId}(h:Box g w b cs t)(c:Cg B T g w g' w')(hz:Tg.z∉T:=by simp):Box g' w' b cs t:=⟨(c.zc hz (rl h.r) h.z).trans h.r,(c.tag (rl h.r) (by rw[h.z];intro h;cases h)).trans h.z⟩
def Cu(g:Gh)(w:World)(b:Nat)(l:Let):Prop:=∃ vs wh,Box g w b (EQ l vs wh) 168/\FSv g w vs l.votes/\Rc g w wh l.what
theorem Cu.ch{l:Let}(h:Cu g w b l)(c:Cg B T g w g' w')(hz:Tg.z∉T:=by simp):Cu g' w' b l:=let ⟨vs,wh,h1,h2,h3⟩:=h;⟨vs,wh,h1.ch c hz,h2.ch c hz,h3.ch c hz⟩
def Km(g:Gh)(w:World)(nb:Nat)(v:Value):Pend->Prop
 | .began b vs=>∃ b1 b2 b3 x,v=.func (.func 84) #[] #[pt b1 0,pt b2 0,pt b3 0]/\Box g w b1 #[pt nb 0] 97/\Box g w b2 #[iv b.r,iv b.n] 102/\Box g w b3 #[S3.v x] 103/\FSv g w x vs
 | .prom to b vs=>∃ b1 b2 b3 x lb l,v=.func (.func 110) #[] #[pt b1 0,pt b2 0,pt b3 0]/\Box g w b1 #[pt nb 0] 97/\Box g w b2 #[pt lb 0] 169/\Box g w b3 #[S3.v x] 103/\FSv g w x vs/\Cu g w lb l/\l.src=to/\l.bal=b
 | .voted to u=>∃ b1 b2 lb l,v=.func (.func 116) #[] #[pt b1 0,pt b2 0]/\Box g w b1 #[pt nb 0] 97/\Box g w b2 #[pt lb 0] 169/\Cu g w lb l/\l.src=to/\l.vote=u
 | .refuse to b=>∃ b1 b2 b3,v=.func (.func 146) #[] #[pt b1 0,pt b2 0,pt b3 0]/\Box g w b1 #[pt nb 0] 97/\Box g w b2 #[iv (to:Int)] 3/\Box g w b3 #[iv b.r,iv b.n] 102
 | .prop u=>∃ b1 b2,v=.func (.func 133) #[] #[pt b1 0,pt b2 0]/\Box g w b1 #[pt nb 0] 97/\Box g w b2 (vtA u) 166
 | .askNews to=>∃ b1 b2 lb l,v=.func (.func 118) #[] #[pt b1 0,pt b2 0]/\Box g w b1 #[pt nb 0] 97/\Box g w b2 #[pt lb 0] 169/\Cu g w lb l/\l.src=to
 | .start=>∃ b1,v=.func (.func 97) #[] #[pt b1 0]/\Box g w b1 #[pt nb 0] 97
 | .tell to slot=>∃ b1 b2 lb l,v=.func (.func 120) #[] #[pt b1 0,pt b2 0]/\Box g w b1 #[pt nb 0] 97/\Box g w b2 #[pt lb 0] 169/\Cu g w lb l/\l.src=to/\l.slot=slot
theorem Km.ch{v:Value}{q:Pend}(h:Km g w nb v q)(c:Cg B T g w g' w')(hz:Tg.z∉T:=by simp):Km g' w' nb v q:=by
 cases q with
 | began b vs=>obtain⟨b1,b2,b3,x,e,h1,h2,h3,h4⟩:=h;exact⟨b1,b2,b3,x,e,h1.ch c hz,h2.ch c hz,h3.ch c hz,h4.ch c hz⟩
 | prom to b vs=>obtain⟨b1,b2,b3,x,lb,l,e,h1,h2,h3,h4,h5,h6⟩:=h;exact⟨b1,b2,b3,x,lb,l,e,h1.ch c hz,h2.ch c hz,h3.ch c hz,h4.ch c hz,h5.ch c hz,h6⟩
 | voted to u=>obtain⟨b1,b2,lb,l,e,h1,h2,h3,h4⟩:=h;exact⟨b1,b2,lb,l,e,h1.ch c hz,h2.ch c hz,h3.ch c hz,h4⟩
 | refuse to b=>obtain⟨b1,b2,b3,e,h1,h2,h3⟩:=h;exact⟨b1,b2,b3,e,h1.ch c hz,h2.ch c hz,h3.ch c hz⟩
 | prop u=>obtain⟨b1,b2,e,h1,h2⟩:=h;exact⟨b1,b2,e,h1.ch c hz,h2.ch c hz⟩
 | askNews to=>obtain⟨b1,b2,lb,l,e,h1,h2,h3,h4⟩:=h;exact⟨b1,b2,lb,l,e,h1.ch c hz,h2.ch c hz,h3.ch c hz,h4⟩
 | start=>obtain⟨b1,e,h1⟩:=h;exact⟨b1,e,h1.ch c hz⟩
 | tell to slot=>obtain⟨b1,b2,lb,l,e,h1,h2,h3,h4⟩:=h;exact⟨b1,b2,lb,l,e,h1.ch c hz,h2.ch c hz,h3.ch c hz,h4⟩
def mkA(x:Cmd × Bal × Nat):MapEntry:={ key:=.agg (cmV x.1).toArray,val:=.agg #[iv x.2.1.r,iv x.2.1.n],born:=x.2.2 }
structure AskAt(g:Gh)(w:World)(τ:Tg)(b:Nat)(f:Cmd->Option Bal):Prop where
 t:g.t b=τ
 k:g.k b=0
 ex:∃ (es:List (Cmd × Bal × Nat)) (clock:Nat),w.heap[b]?=some (.map (es.map mkA).toArray clock)/\(∀ x∈es,x.2.2<clock)/\(es.map (·.2.2)).Nodup/\(es.map (·.1)).Nodup/\∀ c,f c=(es.find? λx=>decide (c=x.1)).map (·.2.1)
def V8(g:Gh)(w:World)(i:Nat)(f:Cmd->Option Bal):Option Nat->Prop
 | some b=>AskAt g w (.n 5 i) b f
 | none=>f=λ_=>none
structure Pends(g:Gh)(w:World)(nb:Nat)(vs:List Value)(l:List Pend):Prop where
 len:vs.length=l.length
 at_:∀ (k:Nat) (v:Value) (q:Pend),vs[k]?=some v->l[k]?=some q->Km g w nb v q
structure NodeAt(g:Gh)(w:World)(i nb ob:Nat)(x:NX)(p:Nod):Prop where
 row:w.heap[nb]?=some (.cells (AB i ob p x) 123)
 tag:g.t nb=.n 0 i
 kap:g.k nb=0
 tape:FSl g w x.tape p.d
 votes:FSv g w x.votes p.vo.vs
 heard:∀ j,j<5->FSv g w (x.hv j) (p.rnd.heard j).vs
 pend:∃ vs,OwnS g w (.n 1 i) true 1 1 x.synced vs/\Pends g w nb vs p.pend
 queue:OwnS g w (.n 2 i) false 25 5 x.queue (cmL p.rnd.queue)
 agreed:OwnS g w (.n 3 i) true 25 5 x.agreed (cmL p.agreed)
 wants:OwnS g w (.n 4 i) false 25 5 x.wants (cmL p.wants)
 asked:V8 g w i p.asked x.asked
 upm:p.up=true->∃ b,x.asked=some b
structure Lets(g:Gh)(w:World)(bs:List Nat)(l:List Let):Prop where
 len:bs.length=l.length
 at_:∀ (k b:Nat) (m:Let),bs[k]?=some b->l[k]?=some m->Cu g w b m
structure OutAt(g:Gh)(w:World)(ob:Nat)(lt tl:S3)(ls:List Let)(ts:List Tol):Prop where
 row:w.heap[ob]?=some (.cells #[lt.v,tl.v] 94)
 tag:g.t ob=.n 50 0
 kap:g.k ob=0
 lets:∃ bs,OwnS g w (.n 51 0) false 169 1 lt (bs.map (pt · 0))/\Lets g w bs ls
 told:OwnS g w (.n 52 0) false 129 5 tl (ts.flatMap FQ)
theorem Pends.ch{vs:List Value}{l:List Pend}(h:Pends g w nb vs l)(c:Cg B T g w g' w')(hz:Tg.z∉T:=by simp):Pends g' w' nb vs l:=⟨h.len,λk v q h1 h2=>(h.at_ k v q h1 h2).ch c hz⟩
theorem Lets.ch(h:Lets g w bs l)(c:Cg B T g w g' w')(hz:Tg.z∉T:=by simp):Lets g' w' bs l:=⟨h.len,λk v q h1 h2=>(h.at_ k v q h1 h2).ch c hz⟩
theorem Lets.snoc{m:Let}(h:Lets g w bs l)(hm:Cu g w b m):Lets g w (bs++[b]) (l++[m]):=by
 refine⟨by simp[h.len],λk c q h1 h2=>?_⟩;by_cases hk:k<bs.length
 .rw[iT hk]at h1
  rw[iT (by rw[<- h.len];exact hk)]at h2
  exact h.at_ k c q h1 h2
 .rw[iV (by omega)]at h1
  rw[iV (by rw[<- h.len];omega),<- h.len]at h2
  cases hx:k-bs.length with
  | zero=>rw[hx]at h1 h2;simp at h1 h2;subst h1 h2;exact hm
  | succ n=>rw[hx]at h1;simp at h1
theorem Cg.rc(c:Cg B T g w g' w'){o:Obj}(h:w.heap[b]?=some o)(ht:g.t b=.n r i)(hn:Tg.n r i∉T):w'.heap[b]?=some o/\g'.t b=.n r i/\g'.k b=g.k b :=
 ⟨(c.same b (rl h) (by rw[ht];exact hn) (λh=>by rw[ht]at h;cases h)).trans h,(c.tag (rl h) (by rw[ht];intro h;cases h)).trans ht,c.kat b (rl h) (by rw[ht];exact hn) (by rw[ht];intro h;cases h)⟩
theorem AskAt.ch(h:AskAt g w (.n r i) b f)(c:Cg B T g w g' w')(hn:Tg.n r i∉T:=by simp):AskAt g' w' (.n r i) b f:=by
 obtain⟨h1,h2,es,k,h3,h4⟩:=h;have h5:=c.rc h3 h1 hn;exact⟨h5.2.1,h5.2.2.trans h2,es,k,h5.1,h4⟩
theorem V8.ch{a:Option Nat}(h:V8 g w i f a)(c:Cg B T g w g' w')(hn:Tg.n 5 i∉T:=by simp):V8 g' w' i f a:=by
 cases a with
 | none=>exact h
 | some b=>exact AskAt.ch h c hn
theorem NodeAt.ch{x:NX}{p:Nod}(h:NodeAt g w i nb ob x p)(c:Cg B T g w g' w')(hz:Tg.z∉T:=by simp)(hn:∀ r,r<6->Tg.n r i∉T:=by simp):NodeAt g' w' i nb ob x p:=by
 have h1:=c.rc h.row h.tag (hn 0 (by omega));obtain⟨vs,h2,h3⟩:=h.pend;exact⟨h1.1,h1.2.1,h1.2.2.trans h.kap,h.tape.ch c hz,h.votes.ch c hz,λj hj=>(h.heard j hj).ch c hz,⟨vs,h2.ch c (hn 1 (by omega)) (by simp),h3.ch c hz⟩,h.queue.ch c (hn 2 (by omega)) (by simp),h.agreed.ch c (hn 3 (by omega)) (by simp),h.wants.ch c (hn 4 (by omega)) (by simp),h.asked.ch c (hn 5 (by omega)),h.upm⟩
theorem OutAt.ch{lt tl:S3}{ls:List Let}{ts:List Tol}(h:OutAt g w ob lt tl ls ts)(c:Cg B T g w g' w')(hz:Tg.z∉T:=by simp)(hn:∀ r,50<=r->Tg.n r 0∉T:=by simp):OutAt g' w' ob lt tl ls ts:=by
 have h1:=c.rc h.row h.tag (hn 50 (by omega));obtain⟨bs,h2,h3⟩:=h.lets;exact⟨h1.1,h1.2.1,h1.2.2.trans h.kap,⟨bs,h2.ch c (hn 51 (by omega)) (by simp),h3.ch c hz⟩,h.told.ch c (hn 52 (by omega)) (by simp)⟩
end
end
section
def TN(i:Nat):List Tg:=[.n 0 i,.n 1 i,.n 2 i,.n 3 i,.n 4 i,.n 5 i,.n 50 0,.n 51 0,.n 52 0,.n 60 0]
theorem Bi(i:Nat):Tg.z∉TN i:=by simp[TN]
def NS(i nb ob:Nat)(g:Gh)(w:World)(p:Nod)(ls:List Let)(ts:List Tol):Prop:=∃ x lt tl,NodeAt g w i nb ob x p/\OutAt g w ob lt tl ls ts/\Iy g w
variable{B i nb ob:Nat}{T:List Tg}{e:TypeId}{g g':Gh}{l:List Pend}{ls:List Let}{p:Nod}{ts:List Tol}{w w':World}{x:S3}{τ:Tg}
theorem nsC{B':Nat}{x:NX}{lt tl:S3}{L:List Sh}(hN:NodeAt g w i nb ob x p)(hO:OutAt g w ob lt tl ls ts)(C:Cg B T g w g' w')(K:Kn B' g' w' L)(hz:Tg.z∉T:=by simp)(hn:∀ r,r<6->Tg.n r i∉T:=by simp)(ho:∀ r,50<=r->Tg.n r 0∉T:=by simp):NS i nb ob g' w' p ls ts:=⟨x,lt,tl,hN.ch C hz hn,hO.ch C hz ho,K.new⟩
def NP(i nb ob:Nat)(g:Gh)(w:World)(v:Value)(p:Nod)(ls:List Let)(ts:List Tol):Ending->World->Prop:=λe w'=>∃ g',e=.returned v/\NS i nb ob g' w' p ls ts/\Cg w.heap.size (TN i) g w g' w'
theorem NS.new(h:NS i nb ob g w p ls ts):Iy g w:=let ⟨_,_,_,_,_,h⟩:=h;h
theorem NS.below(h:NS i nb ob g w p ls ts)(b:Bw w w'):NS i nb ob g w' p ls ts :=
 let ⟨x,lt,tl,h1,h2,h3⟩:=h
 have c:=Cg.ofBelow (B:=0) (T:=[]) (g:=g) b
 ⟨x,lt,tl,h1.ch c,h2.ch c,λk hk=>h3 k (iP b.size hk)⟩
theorem NS.ch0(h:NS i nb ob g w p ls ts)(c:Cg B [] g w g' w')(hn:Iy g' w'):NS i nb ob g' w' p ls ts :=
 let ⟨x,lt,tl,h1,h2,_⟩:=h
 ⟨x,lt,tl,h1.ch c,h2.ch c,hn⟩
theorem NodeAt.askSome{b:Nat}{x:NX}(h:NodeAt g w i nb ob x p)(hx:x.asked=some b):AskAt g w (.n 5 i) b p.asked:=by have:=h.asked;rw[hx]at this;exact this
theorem BP(h:∃ vs,OwnS g w (.n 1 i) true 1 1 x vs/\Pends g w nb vs l)(c:Cg B T g w g' w')(hz:Tg.z∉T:=by simp)(hn:Tg.n 1 i∉T:=by simp):∃ vs,OwnS g' w' (.n 1 i) true 1 1 x vs/\Pends g' w' nb vs l :=
 let ⟨vs,h1,h2⟩:=h
 ⟨vs,h1.ch c hn (by simp),h2.ch c hz⟩
theorem Dz{l:List Let}(h:∃ bs:List Nat,OwnS g w (.n 51 0) false 169 1 x (bs.map (pt · 0))/\Lets g w bs l)(c:Cg B T g w g' w')(hz:Tg.z∉T:=by simp)(hn:Tg.n 51 0∉T:=by simp):∃ bs:List Nat,OwnS g' w' (.n 51 0) false 169 1 x (bs.map (pt · 0))/\Lets g' w' bs l :=
 let ⟨bs,h1,h2⟩:=h
 ⟨bs,h1.ch c hn (by simp),h2.ch c hz⟩
theorem Bl{hv:Nat->S3}{f:Nat->Acc}(h:∀ j,j<5->FSv g w (hv j) (f j).vs)(c:Cg B T g w g' w')(hz:Tg.z∉T:=by simp):∀ j,j<5->FSv g' w' (hv j) (f j).vs:=λj hj=>(h j hj).ch c hz
theorem Pends.snoc{vs:List Value}{v:Value}{q:Pend}(h:Pends g w nb vs l)(hm:Km g w nb v q):Pends g w nb (vs++[v]) (l++[q]):=by
 refine⟨by simp[h.len],λk c m h1 h2=>?_⟩;by_cases hk:k<vs.length
 .rw[iT hk]at h1
  rw[iT (by rw[<- h.len];exact hk)]at h2
  exact h.at_ k c m h1 h2
 .rw[iV (by omega)]at h1
  rw[iV (by rw[<- h.len];omega),<- h.len]at h2
  cases hx:k-vs.length with
  | zero=>rw[hx]at h1 h2;simp at h1 h2;subst h1 h2;exact hm
  | succ n=>rw[hx]at h1;simp at h1
theorem OwnS.num{kp:Bool}{l:List Cmd}(h:OwnS g w τ kp e 5 x (cmL l)):x.n=l.length:=by have:=h.len;rw[Bu]at this;omega
theorem OwnS.rc{l:List Cmd}(h:OwnS g w τ true e 5 x (cmL l)):Rc g w x l:=by
 have hn:=h.num;rcases h.ex with⟨h1,h2,h3⟩|⟨b,cur,h1,h2,h3,h4,h5,h6,h7,h8⟩
 .exact⟨hn,by omega,λ_=>h3,.inl (iN (by omega))⟩
 .refine⟨hn,h3,λh=>(by rw[h1]at h;cases h),.inr ⟨b,0,h1,rl h2,λj u hj=>?_,.inr ?_⟩⟩
  .obtain⟨b',hb',_,hc⟩:=h.cell hj;rw[h1]at hb'
   simp only[X',Addr.mk.injEq,and_true]at hb';subst hb';rw[jm];exact hc
  .rw[h8,Bu];simp;omega
end
end
end Go.Proofs.YtalbmmghmoggcadGreatDoor
