/- Part 8 of the walk. -/
import Derived.Test.YtalbmmghmoggcacGreatDoorZ7
set_option maxRecDepth 100000
set_option maxHeartbeats 4000000
open Go.Proofs.Tryz
set_option linter.unusedVariables false
namespace Go.Proofs.YtalbmmghmoggcacGreatDoor
section
open Go.RowKit
def B2(d:List Int)(s:Int):Prop:=d.length<=100000/\0<=s/\s<=(d.length:Int)
instance (d:List Int) (s:Int):Decidable (B2 d s):=by unfold B2;exact inferInstance
def De(d:List Int)(s:Int):Int:=if B2 d s then 0 else 5
def Lm(d:List Int)(s:Int):List Int:=if B2 d s then d else[]
def Mb(d:List Int)(s:Int):Int:=if B2 d s then(d.length:Int)else 0
def Fy(d:List Int)(s k:Int):Int:=if k<(d.length:Int)-s then s+k else(d.length:Int)
def Hi(d:List Int)(s k:Int):Int:=if ¬ B2 d s then 5 else if k<0 then 2 else 0
def Jz(d:List Int)(s k:Int):List Int:=if Hi d s k=0 then d.take (Fy d s k).toNat else[]
def J0(d:List Int)(s k:Int):Int:=if Hi d s k=0 then Fy d s k else 0
def tpA(x:Value)(s:Int):Array Value:=#[x,.int .i64 s]
theorem Lt:(prog.info? 94).map (·.size)=some 2:=by kernel_rfl
theorem Ys(x:Option Addr)(n c:Nat)(s:Int):(#[.slice x n c,.int .i64 s]:Array Value).all (·.oneCell')=true:=by simp[Value.oneCell']
end
section
section
def Ds(b:List Int):List Int:=(b.length:Int)::b
def AH(b:List Int):List Int:=Ds b++(dig (Ds b)).take 4
theorem Cj(b:List Int):(Ds b).length=b.length+1:=rfl
theorem Bq(b:List Int):(AH b).length=b.length+5:=by
 unfold AH;rw[M',Cj,X',Ax];omega
def Bk(b:Bal):List Int:=1::(Ad b.r++Ad b.n)
def Bd(v:Vt):List Int:=2::(Ad v.slot++(Ad v.b.r++(Ad v.b.n++Dv v.w.k v.w.c v.w.s v.w.n v.w.v)))
theorem Qg(v:Vt):(Bd v).length=33:=rfl
theorem UA(b:Bal):∀ x∈Bk b,0<=x/\x<256:=by
 intro x hx;rcases iF.1 hx with rfl|hx
 .omega
 .rcases V'.1 hx with hx|hx
  .exact AQ _ x hx
  .exact AQ _ x hx
theorem Vn(v:Vt):∀ x∈Bd v,0<=x/\x<256:=by
 intro x hx;rcases iF.1 hx with rfl|hx
 .omega
 .rcases V'.1 hx with hx|hx
  .exact AQ _ x hx
  .rcases V'.1 hx with hx|hx
   .exact AQ _ x hx
   .rcases V'.1 hx with hx|hx
    .exact AQ _ x hx
    .exact Mm _ _ _ _ _ x hx
variable{N k m n:Nat}{a b c:Acc}{all:List Acc}{bs:List (List Int)}{r:List Int}
theorem K6{b:List Int}(hb:∀ x∈b,0<=x/\x<256)(hl:b.length<=255):∀ x∈Ds b,0<=x/\x<256:=by
 intro x hx;rcases iF.1 hx with rfl|hx
 .omega
 .exact hb x hx
theorem La{b:List Int}(hb:∀ x∈b,0<=x/\x<256)(hl:b.length<=255):∀ x∈AH b,0<=x/\x<256:=by
 intro x hx;rcases V'.1 hx with hx|hx
 .exact K6 hb hl x hx
 .exact Dl _ x (iM hx)
def YV(l:List Int):Cmd:=⟨Ac l 0,Ac l 4,Ac l 8,Ac l 12,Ac l 16⟩
def Fu(b:List Int):Bal:=⟨Ac b 1,Ac b 5⟩
def Fh(b:List Int):Vt:=⟨Ac b 1,⟨Ac b 5,Ac b 9⟩,YV (b.drop 13)⟩
def Dm(a:Acc)(b:List Int):Option Acc :=
 if b.length=9/\b.getD 0 0=1 then(if BN a (Fu b)=0 then some ⟨Fu b,a.vs⟩else none)
 else if b.length=33/\b.getD 0 0=2 then(if Cf (b.drop 13)=0 then(if AO a (Fh b)=0 then some ⟨(Fh b).b,AZ a.vs (Fh b)⟩else none)else none)
 else none
def BE(r:List Int)(a:Acc):Option (Acc × Nat) :=
 if r=[]then none
 else if r.length<(r.getD 0 0).toNat+5 then none
 else if(dig (r.take ((r.getD 0 0).toNat+1))).take 4≠(r.drop ((r.getD 0 0).toNat+1)).take 4 then none
 else(Dm a ((r.take ((r.getD 0 0).toNat+1)).drop 1)).map λx=>(x,(r.getD 0 0).toNat+5)
def a0:Acc:=⟨⟨0,0⟩,[]⟩
def IZ(r:List Int)(p:Nat × Acc):Nat × Acc:=match BE (r.drop p.1) p.2 with
 | none=>p
 | some (c,m)=>(p.1+m,c)
def itR(r:List Int):Nat->Nat × Acc
 | 0=>(0,a0)
 | k+1=>IZ r (itR r k)
def DR(r:List Int):Nat × Acc:=itR r r.length
theorem Ll(h:BE r a=some (c,m)):5<=m/\m<=r.length:=by
 unfold BE at h;split at h
 .cases h
 .split at h
  .cases h
  .split at h
   .cases h
   .obtain⟨x,_,e⟩:=jE.1 h;injection e with e1 e2
    omega
theorem GH{p:Nat × Acc}(h:BE (r.drop p.1) p.2=none):IZ r p=p:=by
 unfold IZ;rw[h]
theorem ER(h:BE (r.drop n) b=some (c,m)):IZ r (n,b)=(n+m,c):=by
 unfold IZ;rw[show BE (r.drop (n,b).1) (n,b).2=some (c,m)from h]
theorem Uf(h:itR r k=(n,b))(hs:BE (r.drop n) b=none)(j:Nat):itR r (k+j)=(n,b):=by
 induction j with
 | zero=>exact h
 | succ j ih =>
  rw[<- jn,itR,ih];exact GH hs
theorem NN(h:itR r k=(n,b))(hk:k<=r.length)(hs:BE (r.drop n) b=none):DR r=(n,b):=by
 have:=Uf h hs (r.length-k);rw[show k+(r.length-k)=r.length by omega]at this
 exact this
theorem WF(r:List Int)(k:Nat):(itR r k).1<=r.length:=by
 induction k with
 | zero=>exact iP _
 | succ k ih =>
  rw[itR];unfold IZ;split
  .exact ih
  .rename_i c m h
   have:=(Ll h).2;rw[iC]at this
   show(itR r k).1+m<=r.length;omega
theorem MQ{r':List Int}(h:BE r a=some (c,m))(hp:r'.take m=r.take m):BE r' a=some (c,m):=by
 have hl:=Ll h;have hl':m<=r'.length:=by
  have e:=congrArg List.length hp;rw[X',X']at e
  omega
 unfold BE at h;split at h
 .cases h
 rename_i h0
 split at h
 .cases h
 rename_i h1
 split at h
 .cases h
 rename_i h2
 obtain⟨x,hx,e⟩:=jE.1 h;injection e with e1 e2
 have hg:r'.getD 0 0=r.getD 0 0:=by
  have e:=congrArg (λl=>l.getD 0 0) hp;simp only[i7,jr]at e ⊢;rw[if_pos (by omega),if_pos (by omega)]at e
  exact e
 have ht:∀ k,k<=m->r'.take k=r.take k:=λk hk=>by
  have e:=congrArg (List.take k) hp;rw[jU,jU,jw hk]at e
  exact e
 have hd:(r'.drop ((r.getD 0 0).toNat+1)).take 4=(r.drop ((r.getD 0 0).toNat+1)).take 4:=by
  have e:=congrArg (List.drop ((r.getD 0 0).toNat+1)) hp;rw[kS,kS,show m-((r.getD 0 0).toNat+1)=4 by omega]at e
  exact e
 unfold BE;rw[hg,if_neg (by rintro rfl;simp at hl';omega),if_neg (by omega),ht _ (by omega),hd,if_neg h2,hx,ji,e1,e2]
theorem F1(r:List Int)(h:n+m<=N):((r.take N).drop n).take m=(r.drop n).take m:=by
 rw[kS,jU,jw (by omega)]
theorem WG(r:List Int)(k:Nat):(itR r k).1<=(itR r (k+1)).1:=by
 rw[itR];unfold IZ;split
 .exact A' _
 .show(itR r k).1<=(itR r k).1+_;omega
theorem WH(h:(itR r k).1<=N):itR (r.take N) k=itR r k:=by
 induction k with
 | zero=>rfl
 | succ k ih =>
  have hm:=WG r k;have ih:=ih (by omega);rw[itR,ih];cases e:BE (r.drop (itR r k).1) (itR r k).2 with
  | none =>
   have e2:BE ((r.take N).drop (itR r k).1) (itR r k).2=none:=by
    cases e3:BE ((r.take N).drop (itR r k).1) (itR r k).2 with
    | none=>rfl
    | some x =>
     obtain⟨c,m⟩:=x;have hl:=(Ll e3).2;rw[iC,X']at hl
     have:=MQ (r':=r.drop (itR r k).1) e3 (F1 r (by omega)).symm;rw[e]at this
     cases this
   rw[GH e2,itR,GH e]
  | some x =>
   obtain⟨c,m⟩:=x;have e1:itR r (k+1)=((itR r k).1+m,c):=by rw[itR];exact ER e
   rw[e1]at h ⊢
   have h':(itR r k).1+m<=N:=h;have e2:=MQ (r':=(r.take N).drop (itR r k).1) e (F1 r h');exact ER e2
theorem SY(r:List Int):(DR r).1<=r.length:=WF r r.length
theorem RS(b x:List Int)(a:Acc):BE (AH b++x) a=(Dm a b).map λc=>(c,b.length+5):=by
 have hl:=Bq b;have hg:(AH b++x).getD 0 0=(b.length:Int):=rfl;have hn:((b.length:Int)).toNat=b.length:=jq _;have ht:(AH b++x).take (b.length+1)=Ds b:=by
  unfold AH;rw[iD,iT (by rw[Cj];omega),iG (by rw[Cj];omega)]
 have hd:((AH b++x).drop (b.length+1)).take 4=(dig (Ds b)).take 4:=by
  unfold AH;rw[iD,lu (by rw[Cj];omega),j8 (by rw[Cj];omega),jL,
   iT (by rw[X',Ax];omega),jU]
  rfl
 unfold BE;rw[hg,hn,if_neg (by intro e;have:=congrArg List.length e;rw[M',hl]at this;simp at this),if_neg (by rw[M',hl];omega),ht,hd,if_neg (λg=>g rfl)];rfl
theorem RT(b x:List Int)(a:Acc)(hk:k<b.length+5):BE ((AH b++x).take k) a=none:=by
 have hl:=Bq b;cases k with
 | zero=>rfl
 | succ k =>
  have hg:((AH b++x).take (k+1)).getD 0 0=(b.length:Int):=rfl;unfold BE;rw[hg,jq];split
  .rfl
  .rw[if_pos (by rw[X',M',hl];omega)]
theorem Wb(a:Acc){b:Bal}(hb:Ab b):Dm a (Bk b)=if BN a b=0 then some ⟨b,a.vs⟩else none:=by
 have hb':=hb;unfold Ab at hb';have e1:Ac (Bk b) 1=b.r:=Bu b.r (by omega) (by omega) [1] (Ad b.n);have e2:Ac (Bk b) 5=b.n:=by
  have:=Bu b.n (by omega) (by omega) (1::Ad b.r) [];rw[iV]at this
  exact this
 have e:Fu (Bk b)=b:=by unfold Fu;rw[e1,e2]
 unfold Dm;rw[if_pos ⟨rfl,rfl⟩,e]
theorem VR{k c s n v:Int}(h:Bb k c s n v=0):Cf (Dv k c s n v)=0/\YV (Dv k c s n v)=⟨k,c,s,n,v⟩:=by
 have hz:=Ez h;have hi:=hz.2;unfold InC at hi;have e0:=Ur k c s n v (by omega) (by omega);have e1:=Us k c s n v (by omega) (by omega);have e2:=Ut k c s n v (by omega) (by omega);have e3:=Rq k c s n v (by omega) (by omega);have e4:=Rr k c s n v (by omega) (by omega);unfold Cf YV;rw[if_neg (λg=>g (DU k c s n v)),e0,e1,e2,e3,e4];exact⟨h,rfl⟩
theorem Wc(a:Acc){v:Vt}(hv:Ak v):Dm a (Bd v)=if AO a v=0 then some ⟨v.b,AZ a.vs v⟩else none:=by
 have hv':=hv;unfold Ak Ab at hv';obtain⟨slot,⟨r,n⟩,⟨k,c,s,nn,x⟩⟩:=v;simp only at hv';have e1:Ac (Bd ⟨slot,⟨r,n⟩,⟨k,c,s,nn,x⟩⟩) 1=slot:=Bu slot (by omega) (by omega) [2] (Ad r++(Ad n++Dv k c s nn x));have e2:Ac (Bd ⟨slot,⟨r,n⟩,⟨k,c,s,nn,x⟩⟩) 5=r:=Bu r (by omega) (by omega) (2::Ad slot) (Ad n++Dv k c s nn x);have e3:Ac (Bd ⟨slot,⟨r,n⟩,⟨k,c,s,nn,x⟩⟩) 9=n:=Bu n (by omega) (by omega) (2::(Ad slot++Ad r)) (Dv k c s nn x);have ed:(Bd ⟨slot,⟨r,n⟩,⟨k,c,s,nn,x⟩⟩).drop 13=Dv k c s nn x:=rfl;have hc:=VR (k:=k) (c:=c) (s:=s) (n:=nn) (v:=x) hv'.2.2;have e:Fh (Bd ⟨slot,⟨r,n⟩,⟨k,c,s,nn,x⟩⟩)=⟨slot,⟨r,n⟩,⟨k,c,s,nn,x⟩⟩:=by unfold Fh;rw[e1,e2,e3,ed,hc.2]
 unfold Dm;rw[if_neg (by rintro⟨h,_⟩;cases h),if_pos ⟨rfl,rfl⟩,e,ed,if_pos hc.1]
def Az(bs:List (List Int)):List Int:=bs.flatMap AH
theorem Ci(l m:List (List Int)):Az (l++m)=Az l++Az m:=by simp[Az]
structure Chn(all:List Acc)(bs:List (List Int)):Prop where
 len:all.length=bs.length+1
 first:all[0]?=some a0
 step:∀ (i:Nat) (b:List Int) (a c:Acc),bs[i]?=some b->all[i]?=some a->all[i+1]?=some c->Dm a b=some c
theorem Chn.at(h:Chn all bs)(j:Nat)(hj:j<=bs.length):∃ a,all[j]?=some a:=⟨_,E' (by have:=h.len;omega)⟩
theorem Lr(bs:List (List Int))(j:Nat)(b:List Int)(h:bs[j]?=some b):bs.take (j+1)=bs.take j++[b]:=by
 obtain⟨hj,e⟩:=P'.1 h;rw[iI hj,e]
theorem Kx(bs:List (List Int))(j:Nat)(x:List Int):(Az bs++x).drop (Az (bs.take j)).length=Az (bs.drop j)++x:=by
 have e:Az bs=Az (bs.take j)++Az (bs.drop j):=by rw[<- Ci,jg]
 rw[e,iD,lu (A' _),j8 (A' _),jL]
theorem Ky(bs:List (List Int))(j:Nat)(b:List Int)(h:bs[j]?=some b):Az (bs.drop j)=AH b++Az (bs.drop (j+1)):=by
 obtain⟨hj,e⟩:=P'.1 h;rw[iY hj,e];rfl
theorem Chn.it(h:Chn all bs)(x:List Int)(j:Nat)(hj:j<=bs.length)(ha:all[j]?=some a):itR (Az bs++x) j=((Az (bs.take j)).length,a):=by
 induction j generalizing a with
 | zero =>
  rw[h.first]at ha
  obtain rfl:=jp ha;rfl
 | succ j ih =>
  obtain⟨a',ha'⟩:=h.at j (by omega);have ih:=ih (by omega) ha';obtain⟨b,hb⟩:∃ b,bs[j]?=some b:=⟨_,E' (by omega)⟩;have hd:=h.step j b a' a hb ha' ha;have e:BE ((Az bs++x).drop (Az (bs.take j)).length) a'=some (a,b.length+5):=by
   rw[Kx,Ky bs j b hb,iD,RS,hd];rfl
  rw[itR,ih,ER e,Lr bs j b hb,Ci,M']
  congr 1
  show _=(Az (bs.take j)).length+(Az [b]).length;simp[Az,Bq]
theorem OP(bs:List (List Int)):bs.length<=(Az bs).length:=by
 induction bs with
 | nil=>exact iP _
 | cons b bs ih =>
  show bs.length+1<=(AH b++Az bs).length;rw[M',Bq];omega
theorem da(bs:List (List Int))(k:Nat):∃ j,j<=bs.length/\(Az (bs.take j)).length<=k/\(j=bs.length\/k<(Az (bs.take (j+1))).length):=by
 have:∀ n,n<=bs.length->∃ j,j<=n/\(Az (bs.take j)).length<=k/\(j=n\/k<(Az (bs.take (j+1))).length):=by
  intro n;induction n with
  | zero=>intro _;exact⟨0,A' _,by simp[Az],.inl rfl⟩
  | succ n ih =>
   intro hn;obtain⟨j,h1,h2,h3⟩:=ih (by omega);rcases h3 with rfl|h3
   .rcases jd k (Az (bs.take (j+1))).length with h4|h4
    .exact⟨j,by omega,h2,.inr h4⟩
    .exact⟨j+1,A' _,h4,.inl rfl⟩
   .exact⟨j,by omega,h2,.inr h3⟩
 exact this bs.length (A' _)
theorem Chn.torn(h:Chn all bs)(k:Nat):∃ j a,j<=bs.length/\all[j]?=some a/\DR ((Az bs).take k)=((Az (bs.take j)).length,a)/\(Az (bs.take j)).length<=k/\(j=bs.length\/k<(Az (bs.take (j+1))).length):=by
 obtain⟨j,h1,h2,h3⟩:=da bs k;obtain⟨a,ha⟩:=h.at j h1;refine⟨j,a,h1,ha,?_,h2,h3⟩;have hi:=h.it [] j h1 ha;rw[iV]at hi
 have hi2:itR ((Az bs).take k) j=((Az (bs.take j)).length,a):=by
  rw[WH (by rw[hi];exact h2),hi]
 have hdr:=Kx bs j [];rw[iV,iV]at hdr
 refine NN hi2 ?_ ?_
 .rw[X'];have g1:=OP (bs.take j);rw[X']at g1
  have g2:(Az (bs.take j)).length<=(Az bs).length:=by
   have:=congrArg List.length hdr;rw[iC]at this
   have e:Az bs=Az (bs.take j)++Az (bs.drop j):=by rw[<- Ci,jg]
   rw[e,M'];omega
  omega
 .rw[kS,hdr];rcases h3 with rfl|h3
  .rw[j8 (A' _)];simp[Az,BE]
  .rcases jd j bs.length with hj|hj
   .obtain⟨b,hb⟩:∃ b,bs[j]?=some b:=⟨_,E' hj⟩;rw[Ky bs j b hb];refine RT b _ a ?_;rw[Lr bs j b hb,Ci,M']at h3
    have e:(Az [b]).length=b.length+5:=by simp[Az,Bq]
    omega
   .rw[j8 hj];simp[Az,BE]
end
end
section
open Go.RowKit
def fbO(r:List Int):Option (List Int) :=
 if r=[]then none
 else if r.length<(r.getD 0 0).toNat+5 then none
 else if(dig (r.take ((r.getD 0 0).toNat+1))).take 4≠(r.drop ((r.getD 0 0).toNat+1)).take 4 then none
 else some ((r.take ((r.getD 0 0).toNat+1)).drop 1)
theorem S7{r b:List Int}(h:fbO r=some b):b.length+5<=r.length/\b.length=(r.getD 0 0).toNat:=by
 unfold fbO at h;split at h
 .cases h
 .split at h
  .cases h
  .split at h
   .cases h
   .injection h with h
    subst h;rw[iC,X'];omega
theorem Lk(r:List Int)(a:Acc):BE r a=(fbO r).bind λb=>(Dm a b).map λc=>(c,b.length+5):=by
 have hl:∀ b,fbO r=some b->b.length=(r.getD 0 0).toNat:=λb h=>(S7 h).2;unfold BE;unfold fbO at hl ⊢;by_cases h0:r=[]
 .rw[if_pos h0,if_pos h0];rfl
 .rw[if_neg h0]at hl ⊢
  rw[if_neg h0];by_cases h1:r.length<(r.getD 0 0).toNat+5
  .rw[if_pos h1,if_pos h1];rfl
  .rw[if_neg h1]at hl ⊢
   rw[if_neg h1];by_cases h2:(dig (r.take ((r.getD 0 0).toNat+1))).take 4≠(r.drop ((r.getD 0 0).toNat+1)).take 4
   .rw[if_pos h2,if_pos h2];rfl
   .rw[if_neg h2]at hl ⊢
    rw[if_neg h2];have e:=hl _ rfl;show _=(Dm a _).map _;rw[e]
theorem Db(l:List Int)(n i:Nat):Ac (l.drop n) i=Ac l (n+i):=by
 unfold Ac;simp only[i7,jh,jn]
def GB(a:Acc)(b:List Int):Int :=
 if b.length=9/\b.getD 0 0=1 then BN a (Fu b)
 else if b.length=33/\b.getD 0 0=2 then(if Cf (b.drop 13)=0 then AO a (Fh b)else Cf (b.drop 13))
 else 3
def Fz(a:Acc)(b:List Int):Acc :=
 if b.length=9/\b.getD 0 0=1 then⟨Fp a (Fu b),Fo a (Fu b)⟩
 else if b.length=33/\b.getD 0 0=2 then(if Cf (b.drop 13)=0 then⟨BO a (Fh b),BY a (Fh b)⟩else a0)
 else a0
theorem OI(a:Acc)(b:List Int):Dm a b=if GB a b=0 then some (Fz a b)else none:=by
 unfold Dm GB Fz;by_cases h1:b.length=9/\b.getD 0 0=1
 .rw[if_pos h1,if_pos h1,if_pos h1];by_cases h2:BN a (Fu b)=0
  .rw[if_pos h2,if_pos h2];unfold Fp Fo;rw[if_pos h2,if_pos h2]
  .rw[if_neg h2,if_neg h2]
 .rw[if_neg h1,if_neg h1,if_neg h1];by_cases h2:b.length=33/\b.getD 0 0=2
  .rw[if_pos h2,if_pos h2,if_pos h2];by_cases h3:Cf (b.drop 13)=0
   .rw[if_pos h3,if_pos h3,if_pos h3];by_cases h4:AO a (Fh b)=0
    .rw[if_pos h4,if_pos h4];unfold BO BY;rw[if_pos h4,if_pos h4]
    .rw[if_neg h4,if_neg h4]
   .rw[if_neg h3,if_neg h3,if_neg h3]
  .rw[if_neg h2,if_neg h2,if_neg h2,if_neg (by decide)]
def voV(l:List Int):Vt:=if Cf (l.drop 12)=0 then⟨Ac l 0,⟨Ac l 4,Ac l 8⟩,YV (l.drop 12)⟩else⟨0,⟨0,0⟩,⟨0,0,0,0,0⟩⟩
theorem bB{l:List Int}(h:Cf (l.drop 12)=0):∃ m0 m1 m2 m3 m4:Int,J1 (l.drop 12)=#[.int .i64 m0,.int .i64 m1,.int .i64 m2,.int .i64 m3,.int .i64 m4]/\voV l=⟨Ac l 0,⟨Ac l 4,Ac l 8⟩,⟨m0,m1,m2,m3,m4⟩⟩:=by
 refine⟨Ac (l.drop 12) 0,Ac (l.drop 12) 4,Ac (l.drop 12) 8,Ac (l.drop 12) 12,Ac (l.drop 12) 16,?_,?_⟩
 .unfold J1;rw[if_pos h];rfl
 .unfold voV;rw[if_pos h];rfl
theorem bv{l:List Int}(h:¬ Cf (l.drop 12)=0):J1 (l.drop 12)=zV5/\voV l=⟨0,⟨0,0⟩,⟨0,0,0,0,0⟩⟩:=by
 unfold voV J1;rw[if_neg h,if_neg h];exact⟨rfl,rfl⟩
theorem Qf(b:List Int)(h:Cf (b.drop 13)=0):voV (b.drop 1)=Fh b:=by
 unfold voV Fh;rw[kQ,if_pos h,Db,Db,Db]
theorem Ke(b:List Int):(⟨Ac (b.drop 1) 0,Ac (b.drop 1) 4⟩:Bal)=Fu b:=by
 unfold Fu;rw[Db,Db]
def FF(d:List Int)(s:Int):Acc:=if B2 d s then(DR d).2 else a0
def LW(d:List Int)(s:Int):Int:=if B2 d s then((DR d).1:Int)else 0
def I8(d:List Int)(s:Int):List Int:=if B2 d s then d.take (DR d).1 else[]
def Le(d:List Int)(s:Int):Int:=if B2 d s then(if((DR d).1:Int)<s then((DR d).1:Int)else s)else 0
end
section
def GS(d:List Int)(s:Int)(k:Nat):Int:=if ¬ B2 d s then 5 else if 100000<d.length+k then 8 else 0
def CS(d:List Int)(s:Int)(may:Prop)[Decidable may] (b:List Int):Int:=if GS d s (b.length+5)≠0 then GS d s (b.length+5)else if may then 0 else 2
def FU(d:List Int)(s:Int)(may:Prop)[Decidable may] (b:List Int):List Int:=if CS d s may b=0 then d++AH b else[]
def Hb(d:List Int)(s:Int)(may:Prop)[Decidable may] (b:List Int):Int:=if CS d s may b=0 then s else 0
theorem ah(b:Bal):BN a0 b=if Ab b then 0 else 2:=by
 have h0:An a0:=⟨.inr ⟨rfl,rfl⟩,λv hv=>(H' hv).elim,trivial⟩;unfold BN;rw[if_neg (λg=>g h0)];by_cases h:Ab b
 .rw[if_neg (λg=>g h),if_pos h,if_neg];intro g;unfold Ab at h;unfold Bal.lt a0 at g;simp only at g;omega
 .rw[if_pos h,if_neg h]
theorem bC(v:Vt):AO a0 v=if Ak v then 0 else 2:=by
 have h0:An a0:=⟨.inr ⟨rfl,rfl⟩,λv hv=>(H' hv).elim,trivial⟩;unfold AO;rw[if_neg (λg=>g h0)];by_cases h:Ak v
 .rw[if_neg (λg=>g h),if_pos h,if_neg];intro g;have hb:=h.2.1;unfold Ab at hb;unfold Bal.lt a0 at g;simp only at g;omega
 .rw[if_pos h,if_neg h]
end
section
open Go.RowKit
section
def Bm{α:Type}(f:Nat->α)(i:Nat)(x:α):Nat->α:=λj=>if j=i then x else f j
structure Sto where
 V:Nat->Int
 L:Nat->Int
 C:Nat->Int
 A:Nat->Int
 R:Nat->Bool
def FL:Sto:=⟨λ_=>0,λ_=>0,λ_=>0,λ_=>0,λ_=>false⟩
def ClB(l c a:Int):Prop:=(0<=l/\l<=1048577)/\(l=0->c=0/\a=0)
instance (l c a:Int):Decidable (ClB l c a):=by unfold ClB;exact inferInstance
def VaB(v:Int):Prop:=0<=v/\v<=1073741824
instance (v:Int):Decidable (VaB v):=by unfold VaB;exact inferInstance
def Tv(s:Sto):Prop:=(∀ i,i<8->VaB (s.V i))/\∀ i,i<8->ClB (s.L i) (s.C i) (s.A i)
noncomputable instance (s:Sto):Decidable (Tv s):=Classical.propDecidable _
noncomputable def Ma(s:Sto):Int:=if Tv s then 0 else 5
variable{m:Cmd}{s:Sto}
theorem aP(h:Tv s):Ma s=0:=if_pos h
theorem JU(h:¬ Tv s):Ma s=5:=if_neg h
def LS(s:Sto)(m:Cmd):Int:=if m.k=1 then m.v else if m.k=2 then s.V m.n.toNat else 0
def NF(s:Sto)(m:Cmd):Sto :=
 ⟨if m.k=1 then Bm s.V m.n.toNat m.v else s.V,Bm s.L m.c.toNat (m.s+1),Bm s.C m.c.toNat 0,Bm s.A m.c.toNat (LS s m),if m.k=3 then Bm s.R m.n.toNat true else s.R⟩
def dnS(s:Sto)(m:Cmd):Sto:=if m.k≠0/\¬ m.s<s.L m.c.toNat/\s.R m.c.toNat=false then NF s m else s
def dnC(s:Sto)(m:Cmd):Int :=
 if m.k=0 then 0 else if s.L m.c.toNat=m.s+1 then s.C m.c.toNat else if m.s<s.L m.c.toNat then 7 else if s.R m.c.toNat=true then 11 else 0
def dnA(s:Sto)(m:Cmd):Int :=
 if m.k=0 then 0 else if s.L m.c.toNat=m.s+1 then s.A m.c.toNat else if m.s<s.L m.c.toNat then 0 else if s.R m.c.toNat=true then 0 else LS s m
noncomputable def doE(s:Sto)(m:Cmd):Int:=if Tv s then m.e else 5
noncomputable def doS(s:Sto)(m:Cmd):Sto:=if doE s m=0 then dnS s m else FL
noncomputable def doC(s:Sto)(m:Cmd):Int:=if doE s m=0 then dnC s m else 0
noncomputable def doA(s:Sto)(m:Cmd):Int:=if doE s m=0 then dnA s m else 0
theorem dh(h:doE s m=0):doS s m=dnS s m:=if_pos h
theorem dc(h:doE s m=0):doC s m=dnC s m:=if_pos h
theorem db(h:doE s m=0):doA s m=dnA s m:=if_pos h
theorem VX(h:doE s m≠0):doS s m=FL:=if_neg h
theorem VU(h:doE s m≠0):doC s m=0:=if_neg h
theorem YP(h:m.e=0):(0<=m.k/\m.k<=3)/\InC m.c m.s m.n m.v:=Ez h
end
end
section
def Kl(Q:Nat->Bool):Nat:=(Q 0).toNat+(Q 1).toNat+(Q 2).toNat+(Q 3).toNat+(Q 4).toNat
theorem KG(Q R:Nat->Bool)(hQ:3<=Kl Q)(hR:3<=Kl R):∃ q,q<5/\Q q=true/\R q=true:=by
 apply lJ;intro h;have hh:∀ q,q<5->(Q q).toNat+(R q).toNat<=1:=by
  intro q hq;cases h1:Q q<;>cases h2:R q<;>simp;exact h ⟨q,hq,h1,h2⟩
 have h0:=hh 0 (by omega);have h1:=hh 1 (by omega);have h2:=hh 2 (by omega);have h3:=hh 3 (by omega);have h4:=hh 4 (by omega);unfold Kl at hQ hR;omega
section
variable{γ:Type}
section
def Ch(H:Nat->Nat->Int->γ->Prop)(s:Nat)(b:Int)(c:γ):Prop:=∃ Q:Nat->Bool,3<=Kl Q/\∀ q,q<5->Q q=true->H q s b c
def D6(H:Nat->Nat->Int->γ->Prop)(P:Nat->Int)(s:Nat)(b:Int)(c:γ):Prop :=
 ∃ Q:Nat->Bool,3<=Kl Q/\(∀ q,q<5->Q q=true->b<=P q) /\
  ((∀ q,q<5->Q q=true->∀ b' c',H q s b' c'->b<=b') \/
   ∃ b0,b0<b/\(∃ q,q<5/\Q q=true/\H q s b0 c)/\∀ q,q<5->Q q=true->∀ b' c',H q s b' c'->b'<b->b'<=b0)
structure PInv(H:Nat->Nat->Int->γ->Prop)(P:Nat->Int):Prop where
 le:∀ n s b c,H n s b c->0<b/\b<=P n
 uniq:∀ n n' s b c c',H n s b c->H n' s b c'->c=c'
 safe:∀ n s b c,H n s b c->D6 H P s b c
variable{H:Nat->Nat->Int->γ->Prop}{P:Nat->Int}{b b' b1:Int}{c c1:γ}{n s:Nat}
theorem PInv.later(h:PInv H P)(h1:Ch H s b1 c1):∀ (m:Nat) (b2:Int) (c2:γ) (n:Nat),b2.toNat=m->b1<b2->H n s b2 c2->c2=c1:=by
 intro m;induction m using Nat.strongRecOn with
 | ind m ih =>
  intro b2 c2 n hm hlt hv;have hp:=(h.le n s b2 c2 hv).1;obtain⟨Q,hQ,hP,hS⟩:=h.safe n s b2 c2 hv;obtain⟨Q1,hQ1,hV1⟩:=h1;obtain⟨q,hq,hqQ,hq1⟩:=KG Q Q1 hQ hQ1;have hq1v:=hV1 q hq hq1;rcases hS with hS|⟨b0,hb0,⟨q0,hq0,hq0Q,hv0⟩,hmax⟩
  .have:=hS q hq hqQ b1 c1 hq1v;omega
  .have hle:=hmax q hq hqQ b1 c1 hq1v hlt;have hp0:=(h.le q0 s b0 c2 hv0).1;rcases(by omega:b1=b0\/b1<b0)with rfl|hlt0
   .exact h.uniq q0 q s b1 c2 c1 hv0 hq1v
   .exact ih b0.toNat (by omega) b0 c2 q0 rfl hlt0 hv0
theorem PInv.agree(h:PInv H P){b2:Int}{c2:γ}(h1:Ch H s b1 c1)(h2:Ch H s b2 c2):c1=c2:=by
 have some1:∀ {b:Int} {c:γ},Ch H s b c->∃ n,H n s b c:=by
  rintro b c ⟨Q,hQ,hV⟩;obtain⟨q,hq,hqQ,_⟩:=KG Q Q hQ hQ;exact⟨q,hV q hq hqQ⟩
 obtain⟨n1,v1⟩:=some1 h1;obtain⟨n2,v2⟩:=some1 h2;rcases(by omega:b1<b2\/b1=b2\/b2<b1)with hlt|rfl|hlt
 .exact(h.later h1 _ b2 c2 n2 rfl hlt v2).symm
 .exact h.uniq n1 n2 s b1 c1 c2 v1 v2
 .exact h.later h2 _ b1 c1 n1 rfl hlt v1
def upP(P:Nat->Int)(n:Nat)(b:Int):Nat->Int:=λi=>if i=n then b else P i
theorem Lv(h:P n<=b)(q:Nat):P q<=upP P n b q:=by
 unfold upP;split
 .rename_i e;rw[e];exact h
 .exact jm _
theorem D6.up(h:D6 H P s b c)(hb:P n<=b'):D6 H (upP P n b') s b c:=by
 obtain⟨Q,hQ,hP,hS⟩:=h;exact⟨Q,hQ,λq hq hqQ=>i6 (hP q hq hqQ) (Lv hb q),hS⟩
theorem PInv.promise(h:PInv H P)(hb:P n<=b):PInv H (upP P n b) :=
 ⟨λm s b' c hv=>⟨(h.le m s b' c hv).1,i6 (h.le m s b' c hv).2 (Lv hb m)⟩,h.uniq,λm s b' c hv=>(h.safe m s b' c hv).up hb⟩
def cI(H:Nat->Nat->Int->γ->Prop)(n s:Nat)(b:Int)(c:γ):Nat->Nat->Int->γ->Prop:=λn' s' b' c'=>H n' s' b' c'\/(n'=n/\s'=s/\b'=b/\c'=c)
theorem D6.vote(h:D6 H P s b c){t:Nat}{c':γ}(hb:P n<=b'):D6 (cI H n t b' c') (upP P n b') s b c:=by
 obtain⟨Q,hQ,hP,hS⟩:=h;refine⟨Q,hQ,λq hq hqQ=>i6 (hP q hq hqQ) (Lv hb q),?_⟩;rcases hS with hS|⟨b0,hb0,⟨q0,hq0,hq0Q,hv0⟩,hmax⟩
 .left;intro q hq hqQ b2 c2 hv;rcases hv with hv|⟨rfl,rfl,rfl,rfl⟩
  .exact hS q hq hqQ b2 c2 hv
  .exact i6 (hP q hq hqQ) hb
 .right;refine⟨b0,hb0,⟨q0,hq0,hq0Q,.inl hv0⟩,?_⟩;intro q hq hqQ b2 c2 hv hlt;rcases hv with hv|⟨rfl,rfl,rfl,rfl⟩
  .exact hmax q hq hqQ b2 c2 hv hlt
  .have:=hP q hq hqQ;omega
theorem PInv.vote(h:PInv H P)(hb:P n<=b)(h0:0<b)(hs:D6 H P s b c)(hu:∀ m c',H m s b c'->c'=c):PInv (cI H n s b c) (upP P n b):=by
 refine⟨?_,?_,?_⟩
 .rintro m t b' c' (hv|⟨rfl,rfl,rfl,rfl⟩)
  .exact⟨(h.le m t b' c' hv).1,i6 (h.le m t b' c' hv).2 (Lv hb m)⟩
  .exact⟨h0,by unfold upP;rw[if_pos rfl];exact jm _⟩
 .rintro m m' t b' c' c2 (hv|⟨_,e1,e2,e3⟩) (hv'|⟨_,e1',e2',e3'⟩)
  .exact h.uniq m m' t b' c' c2 hv hv'
  .subst e1' e2' e3';exact hu m c' hv
  .subst e1 e2 e3;exact(hu m' c2 hv').symm
  .rw[e3,e3']
 .rintro m t b' c' (hv|⟨rfl,rfl,rfl,rfl⟩)
  .exact(h.safe m t b' c' hv).vote hb
  .exact hs.vote hb
end
end
end
section
def upN{α:Type}(f:Nat->α)(n:Nat)(x:α):Nat->α:=λi=>if i=n then x else f i
theorem Es{α:Type}(f:Nat->α)(n:Nat)(x:α):upN f n x n=x:=if_pos rfl
theorem FP{α:Type}(f:Nat->α){n i:Nat}(x:α)(h:i≠n):upN f n x i=f i:=if_neg h
end
section
theorem Hx{l:List Vt}(h:B1 l)(s:Int)(v:Vt):BK (Af l s) v<=(decide (v∈l/\v.slot=s)).toNat:=by
 induction l with
 | nil=>simp[BK,Af]
 | cons x xs ih =>
  obtain⟨hx,hxs⟩:=h;have ih:=ih hxs;have e:BK (Af (x::xs) s) v=(if x.slot=s/\x=v then 1 else 0)+BK (Af xs s) v:=by
   unfold BK Af;rw[List.filter_cons];by_cases h1:x.slot=s
   .rw[if_pos (by simpa using h1),lT];by_cases h2:x=v
    .have h1':v.slot=s:=h2▸h1;simp[h2,h1'];omega
    .simp[h1,h2]
   .rw[if_neg (by simpa using h1)];simp[h1]
  rw[e];by_cases h1:x.slot=s/\x=v
  .have h2:¬ (v∈xs/\v.slot=s):=λg=>by
    have:=hx v g.1;rw[<- h1.2]at this
    omega
   rw[D' h2]at ih
   rw[if_pos h1,I' ⟨h1.2▸U',h1.2▸h1.1⟩];simp at ih ⊢;omega
  .rw[if_neg h1];by_cases h2:v∈xs/\v.slot=s
   .rw[I' h2]at ih
    rw[I' ⟨Q' _ h2.1,h2.2⟩];omega
   .rw[D' h2]at ih
    simp at ih ⊢;omega
theorem ET(l m:List Vt)(v:Vt):BK (l++m) v=BK l v+BK m v:=by unfold BK;rw[lG]
end
section
def Ca:Bal:=⟨0,0⟩
def T7:Cmd:=⟨0,0,0,0,0⟩
def vtz:Vt:=⟨0,Ca,T7⟩
def Eg:Acc:=⟨Ca,[]⟩
structure Let where
 kind:Nat
 src:Nat
 dst:Nat
 bal:Bal
 vote:Vt
 votes:List Vt
 slot:Nat
 what:List Cmd
def Cx(k:Nat):Let:=⟨k,0,0,Ca,vtz,[],0,[]⟩
inductive Pend where
 | began (b:Bal) (vs:List Vt)
 | prom (to:Nat) (b:Bal) (vs:List Vt)
 | voted (to:Nat) (v:Vt)
 | refuse (to:Nat) (b:Bal)
 | prop (v:Vt)
 | askNews (to:Nat)
 | start
 | tell (to:Nat) (slot:Nat)
structure Rnd where
 bal:Bal
 pro:Nat->Bool
 heard:Nat->Acc
 taught:Nat->Nat
 next:Nat
 queue:List Cmd
def eg:Rnd:=⟨Ca,λ_=>false,λ_=>Eg,λ_=>0,0,[]⟩
structure Tol where
 n:Nat
 c:Int
 s:Int
 e:Int
 a:Int
structure Nod where
 up:Bool
 d:List Int
 sy:Int
 bad:Nat
 vo:Acc
 pend:List Pend
 rounds:Int
 rnd:Rnd
 agreed:List Cmd
 done:Nat
 sto:Sto
 wants:List Cmd
 asked:Cmd->Option Bal
structure Meet where
 node:Nat->Nod
 lets:List Let
 told:List Tol
def Nod.bare(N:Nod)(up:Bool)(d:List Int)(sy:Int)(vo:Acc)(p:List Pend):Nod :=
 ⟨up,d,sy,N.bad,vo,p,0,eg,[],0,FL,[],λ_=>none⟩
def CT:Nod:=⟨true,[],0,0,Eg,[],0,eg,[],0,FL,[],λ_=>none⟩
def Bl:Meet:=⟨λ_=>CT,[],[]⟩
def Meet.put(M:Meet)(i:Nat)(N:Nod):Meet:={ M with node:=upN M.node i N }
def Nod.promise(N:Nod)(b:Bal):Nod × List Vt × Int :=
 if BN N.vo b≠0 then(N,[],BN N.vo b)
 else if b=N.vo.p then({ N with vo:=⟨b,N.vo.vs⟩ },N.vo.vs,0)
 else if CS N.d N.sy (Ab b) (Bk b)≠0 then(N,[],CS N.d N.sy (Ab b) (Bk b))
 else({ N with d:=FU N.d N.sy (Ab b) (Bk b),sy:=Hb N.d N.sy (Ab b) (Bk b),vo:=⟨b,N.vo.vs⟩ },N.vo.vs,0)
def Nod.vote(N:Nod)(v:Vt):Nod × Int :=
 if AO N.vo v≠0 then(N,AO N.vo v)
 else if v∈N.vo.vs then({ N with vo:=⟨v.b,AZ N.vo.vs v⟩ },0)
 else if CS N.d N.sy (Ak v) (Bd v)≠0 then(N,CS N.d N.sy (Ak v) (Bd v))
 else({ N with d:=FU N.d N.sy (Ak v) (Bd v),sy:=Hb N.d N.sy (Ak v) (Bd v),vo:=⟨v.b,AZ N.vo.vs v⟩ },0)
def Nod.wait(N:Nod)(p:Pend):Nod:={ N with pend:=N.pend++[p] }
def Nod.refuse(N:Nod)(to:Nat)(e:Int):Nod:=if e=7 then N.wait (.refuse to N.vo.p)else N
def Nod.leads(N:Nod):Bool:=decide (N.rnd.bal≠Ca/\N.rnd.bal=N.vo.p)
def Rnd.enough(r:Rnd):Bool:=decide (5<2*Kl r.pro)
def CW(a:Acc):List Vt->Acc
 | []=>a
 | v::l=>CW (if AO a v=0 then⟨BO a v,BY a v⟩else a) l
def Rnd.hear(r:Rnd)(j:Nat)(vs:List Vt):Rnd:={ r with pro:=upN r.pro j true,heard:=upN r.heard j (CW ⟨r.bal,vs⟩ (r.heard j).vs) }
def Rnd.accs(r:Rnd):List Acc:=[r.heard 0,r.heard 1,r.heard 2,r.heard 3,r.heard 4]
def KF:Nat->Rnd->List Cmd->List Cmd
 | 0,_,l=>l
 | k+1,r,l=>if CZ r.accs (l.length:Int)=0 then KF k r (l++[Cu r.accs (l.length:Int)])else l
def Nod.learnC(N:Nod):Nod:={ N with agreed:=KF 41 N.rnd N.agreed }
def Nod.learn(N:Nod)(slot:Nat)(what:List Cmd):Nod:={ N with agreed:=N.agreed++what.drop (N.agreed.length-slot) }
def Nod.count(N:Nod)(j:Nat)(v:Vt):Nod :=
 if v.b≠N.rnd.bal then N
 else if AO (N.rnd.heard j) v≠0 then N
 else Nod.learnC { N with rnd:={ N.rnd with heard:=upN N.rnd.heard j ⟨BO (N.rnd.heard j) v,BY (N.rnd.heard j) v⟩ } }
def OL(q:List Cmd):List Cmd->List Cmd
 | []=>q
 | c::l=>OL (if q.length<40/\c∉q then q++[c]else q) l
def Nod.enqueue(N:Nod)(what:List Cmd):Nod:=if N.leads then{ N with rnd:={ N.rnd with queue:=OL N.rnd.queue what } }else N
def Et(f:Cmd->Option Bal)(c:Cmd)(b:Option Bal):Cmd->Option Bal:=λx=>if x=c then b else f x
def Nod.want(N:Nod)(c:Cmd):Nod:=if(N.asked c).isSome then N else{ N with wants:=N.wants++[c],asked:=Et N.asked c (some Ca) }
def Nod.unwant(N:Nod)(c:Cmd):Nod:=if(N.asked c).isSome then{ N with wants:=N.wants.erase c,asked:=Et N.asked c none }else N
def CY(b:Bal)(f:Cmd->Option Bal):List Cmd->List Cmd × (Cmd->Option Bal)
 | []=>([],f)
 | c::l=>if(f c).getD Ca≠b then(c::(CY b (Et f c (some b)) l).1,(CY b (Et f c (some b)) l).2)else CY b f l
def Nod.take(N:Nod)(l:Let):Nod :=
 match l.kind with
 | 0=>if(N.promise l.bal).2.2≠0 then N.refuse l.src (N.promise l.bal).2.2 else(N.promise l.bal).1.wait (.prom l.src l.bal (N.promise l.bal).2.1)
 | 1=>let K:=N.learn 0 l.what
  if K.leads=false\/l.bal≠K.rnd.bal\/K.rnd.pro l.src=true then K
  else Nod.learnC { K with rnd:={ K.rnd.hear l.src l.votes with taught:=upN K.rnd.taught l.src l.what.length } }
 | 2=>{ N with rounds:=max N.rounds l.bal.r }
 | 3=>if(N.vote l.vote).2≠0 then N.refuse l.src (N.vote l.vote).2 else(N.vote l.vote).1.wait (.voted l.src l.vote)
 | 4=>N.count l.src l.vote
 | 5=>if N.agreed.length<l.slot then N.wait (.askNews l.src)else N.learn l.slot l.what
 | 6=>let K:=N.enqueue l.what
  if l.slot<K.agreed.length then K.wait (.tell l.src l.slot)else K
 | _=>N
def Meet.come(M:Meet)(l:Let):Meet:=if(M.node l.dst).up then M.put l.dst ((M.node l.dst).take l)else M
def Nod.nextC(N:Nod)(slot:Nat):Option Cmd :=
 if Cz (N.rnd.accs.map (·.vs)) (slot:Int)≠0 then none
 else if Fk (N.rnd.accs.map (·.vs)) (slot:Int)then some (Gz (N.rnd.accs.map (·.vs)) (slot:Int))
 else N.rnd.queue.find? λc=>decide (c∉N.agreed)
def Nod.propose(N:Nod):Nod :=
 if N.leads=false\/N.rnd.enough=false\/N.agreed.length<N.rnd.next then N
 else match N.nextC N.agreed.length with
  | none=>N
  | some c =>
   if(N.vote ⟨(N.agreed.length:Int),N.rnd.bal,c⟩).2≠0 then N
   else Nod.wait { (N.vote ⟨(N.agreed.length:Int),N.rnd.bal,c⟩).1 with rnd:={ N.rnd with next:=N.agreed.length+1 } } (.prop ⟨(N.agreed.length:Int),N.rnd.bal,c⟩)
def Nod.lead(N:Nod)(i:Nat):Nod :=
 let b:Bal:=⟨max N.rounds N.vo.p.r+1,(i:Int)⟩
 if(N.promise b).2.2≠0 then N
 else Nod.wait { (N.promise b).1 with rnd:=⟨b,λ_=>false,λ_=>Eg,λ_=>N.agreed.length,0,[]⟩ } (.began b (N.promise b).2.1)
def Nod.crash(N:Nod)(k:Int):Nod:=if Hi N.d N.sy k≠0 then N else N.bare false (Jz N.d N.sy k) (J0 N.d N.sy k) Eg []
def Nod.start(N:Nod):Nod :=
 if De N.d N.sy≠0 then N
 else if LW N.d N.sy<(N.d.length:Int)then N.bare true (I8 N.d N.sy) (Le N.d N.sy) (FF N.d N.sy) [.start]
 else N.bare true N.d N.sy (FF N.d N.sy) [.start]
def Meet.move(M:Meet)(k:Int)(at_:Nat):Meet :=
 match M.lets[at_%M.lets.length]? with
 | none=>M
 | some l =>
  let A:=if k≠6 then{ M with lets:=M.lets.eraseIdx (at_%M.lets.length) }else M
  if k≠5 then A.come l else A
def Meet.comeAll(M:Meet):Meet:=M.lets.foldl (λM l=>M.come l) { M with lets:=[] }
end
section
open Go.RowKit
section
def stA(s:Sto):Array Value:=#[.int .i64 (s.V 0),.int .i64 (s.V 1),.int .i64 (s.V 2),.int .i64 (s.V 3),.int .i64 (s.V 4),.int .i64 (s.V 5),.int .i64 (s.V 6),.int .i64 (s.V 7),.int .i64 (s.L 0),.int .i64 (s.L 1),.int .i64 (s.L 2),.int .i64 (s.L 3),.int .i64 (s.L 4),.int .i64 (s.L 5),.int .i64 (s.L 6),.int .i64 (s.L 7),.int .i64 (s.C 0),.int .i64 (s.A 0),.int .i64 (s.C 1),.int .i64 (s.A 1),.int .i64 (s.C 2),.int .i64 (s.A 2),.int .i64 (s.C 3),.int .i64 (s.A 3),.int .i64 (s.C 4),.int .i64 (s.A 4),.int .i64 (s.C 5),.int .i64 (s.A 5),.int .i64 (s.C 6),.int .i64 (s.A 6),.int .i64 (s.C 7),.int .i64 (s.A 7),.bool (s.R 0),.bool (s.R 1),.bool (s.R 2),.bool (s.R 3),.bool (s.R 4),.bool (s.R 5),.bool (s.R 6),.bool (s.R 7)]
theorem gn(s:Sto)(i:Nat)(h:i<8):(stA s)[i]?=some (.int .i64 (s.V i)):=by
 rcases(by omega:i=0\/i=1\/i=2\/i=3\/i=4\/i=5\/i=6\/i=7)with rfl|rfl|rfl|rfl|rfl|rfl|rfl|rfl<;>rfl
theorem gm(s:Sto)(i:Nat)(h:i<8):(stA s)[8+i]?=some (.int .i64 (s.L i)):=by
 rcases(by omega:i=0\/i=1\/i=2\/i=3\/i=4\/i=5\/i=6\/i=7)with rfl|rfl|rfl|rfl|rfl|rfl|rfl|rfl<;>rfl
theorem gl(s:Sto)(i:Nat)(h:i<8):(stA s)[16+i*2]?=some (.int .i64 (s.C i)):=by
 rcases(by omega:i=0\/i=1\/i=2\/i=3\/i=4\/i=5\/i=6\/i=7)with rfl|rfl|rfl|rfl|rfl|rfl|rfl|rfl<;>rfl
theorem gk(s:Sto)(i:Nat)(h:i<8):(stA s)[16+i*2+1]?=some (.int .i64 (s.A i)):=by
 rcases(by omega:i=0\/i=1\/i=2\/i=3\/i=4\/i=5\/i=6\/i=7)with rfl|rfl|rfl|rfl|rfl|rfl|rfl|rfl<;>rfl
def Bs(w:World)(g:Nat)(s:Sto):Prop:=w.heap[g]?=some (.cells (stA s) 88)
variable{g:Nat}{s:Sto}{w:World}
theorem Bs.cellV(h:Bs w g s)(i:Nat)(hi:i<8):w.cell? ⟨g,i,none⟩=some (.int .i64 (s.V i)):=(cell_of_row _ _ i _ _ _ h).trans (gn s i hi)
theorem Bs.cellL(h:Bs w g s)(i:Nat)(hi:i<8):w.cell? ⟨g,8+i,none⟩=some (.int .i64 (s.L i)):=(cell_of_row _ _ (8+i) _ _ _ h).trans (gm s i hi)
theorem Bs.cellC(h:Bs w g s)(i:Nat)(hi:i<8):w.cell? ⟨g,16+i*2,none⟩=some (.int .i64 (s.C i)):=(cell_of_row _ _ (16+i*2) _ _ _ h).trans (gl s i hi)
theorem Bs.cellA(h:Bs w g s)(i:Nat)(hi:i<8):w.cell? ⟨g,16+i*2+1,none⟩=some (.int .i64 (s.A i)):=(cell_of_row _ _ (16+i*2+1) _ _ _ h).trans (gk s i hi)
theorem dG(a b a' b':Int):∀ w,(binOp .neq 84 (.agg #[.int .i64 a,.int .i64 b]) (.agg #[.int .i64 a',.int .i64 b'])).run prog w=.ok (.bool (!decide (a=a'/\b=b'))) w:=by
 intro w;rw[run_neq_struct,run_equalIn_agg w 9999 _ _ _ (by kernel_rfl) (by kernel_rfl)];unfold Program.fieldsOf;rw[underlying84];have h3:=underlying3;have hE:=underlying44;simp[Op.eqFields,go_sem,h3,hE]
 repeat' split
 all_goals simp_all
theorem ZK(a b:Int):∀ w,(binOp .neq 84 (.agg #[.int .i64 a,.int .i64 b]) (.agg #[.int .i64 0,.int .i64 0])).run prog w=.ok (.bool (!decide (a=0/\b=0))) w:=dG a b 0 0
def vaL(f:Nat->Int):List Value:=[.int .i64 (f 0),.int .i64 (f 1),.int .i64 (f 2),.int .i64 (f 3),.int .i64 (f 4),.int .i64 (f 5),.int .i64 (f 6),.int .i64 (f 7)]
def vaA(f:Nat->Int):Array Value:=(vaL f).toArray
theorem Yy(f:Nat->Int)(j:Nat)(u:Value)(h:(vaL f)[j]?=some u):j<8/\u=.int .i64 (f j):=by
 have hj:j<8:=(P'.1 h).1;refine⟨hj,?_⟩;rcases(by omega:j=0\/j=1\/j=2\/j=3\/j=4\/j=5\/j=6\/j=7)with rfl|rfl|rfl|rfl|rfl|rfl|rfl|rfl<;>(simp[vaL]at h;exact h.symm)
theorem Bs.rangeV(h:Bs w g s):w.rangeAt g 0 (vaL s.V):=by
 intro j u hj;obtain⟨h1,rfl⟩:=Yy _ _ _ hj;rw[iX];exact h.cellV j h1
theorem Bs.rangeL(h:Bs w g s):w.rangeAt g 8 (vaL s.L):=by
 intro j u hj;obtain⟨h1,rfl⟩:=Yy _ _ _ hj;exact h.cellL j h1
theorem eI(f:Nat->Int):(prog.info? 82).map (·.size)=some (vaL f).length:=by show _=some 8;kernel_rfl
theorem FT{ops:Array Oper}{rest:List Oper}{op:Oper}{a:Act}{Q:Exit->Act->World->Prop}(hgd:op.guard=none)(x:Operand)(ho:op.op=.load 82 x)(b o:Nat)(hx:a.eval x=.pointer (some ⟨b,o,none⟩))(f:Nat->Int)(hc:w.rangeAt b o (vaL f))(h:wpList prog ops Q rest (a.put op.dst (.agg (vaA f))) w):wpList prog ops Q (op::rest) a w :=
 wpList_load_mid hgd 82 x ho b o hx (vaL f) _ hc underlying82 rfl (eI f) h
theorem Tn(f:Nat->Int)(i:Nat)(hi:i<8)(w:World):(Instr.index 82 (.agg (vaA f)) (.int .i64 (i:Int))).run prog w=.ok (.int .i64 (f i)) w:=by
 rcases(by omega:i=0\/i=1\/i=2\/i=3\/i=4\/i=5\/i=6\/i=7)with rfl|rfl|rfl|rfl|rfl|rfl|rfl|rfl<;>kernel_rfl
structure NX where
 tape:S3
 votes:S3
 synced:S3
 queue:S3
 agreed:S3
 wants:S3
 hv:Nat->S3
 asked:Option Nat
def AB(i ob:Nat)(p:Nod)(x:NX):Array Value:=([iv (i:Int),.bool p.up,S3.v x.tape,iv p.sy,iv (p.bad:Int),pt ob 0,iv p.vo.p.r,iv p.vo.p.n,S3.v x.votes,S3.v x.synced,iv p.rounds,iv p.rnd.bal.r,iv p.rnd.bal.n,.bool (p.rnd.pro 0),.bool (p.rnd.pro 1),.bool (p.rnd.pro 2),.bool (p.rnd.pro 3),.bool (p.rnd.pro 4),iv ((p.rnd.heard 0).p.r),iv ((p.rnd.heard 0).p.n),S3.v (x.hv 0),iv ((p.rnd.heard 1).p.r),iv ((p.rnd.heard 1).p.n),S3.v (x.hv 1),iv ((p.rnd.heard 2).p.r),iv ((p.rnd.heard 2).p.n),S3.v (x.hv 2),iv ((p.rnd.heard 3).p.r),iv ((p.rnd.heard 3).p.n),S3.v (x.hv 3),iv ((p.rnd.heard 4).p.r),iv ((p.rnd.heard 4).p.n),S3.v (x.hv 4),iv (p.rnd.taught 0:Int),iv (p.rnd.taught 1:Int),iv (p.rnd.taught 2:Int),iv (p.rnd.taught 3:Int),iv (p.rnd.taught 4:Int),iv (p.rnd.next:Int),S3.v x.queue,S3.v x.agreed,iv (p.done:Int)]++((stA p.sto).toList++[S3.v x.wants,.map x.asked])).toArray
def EM(l:Let)(vs wh:S3):Array Value:=#[iv (l.kind:Int),iv (l.src:Int),iv (l.dst:Int),iv l.bal.r,iv l.bal.n,iv l.vote.slot,iv l.vote.b.r,iv l.vote.b.n,iv l.vote.w.k,iv l.vote.w.c,iv l.vote.w.s,iv l.vote.w.n,iv l.vote.w.v,S3.v vs,iv (l.slot:Int),S3.v wh]
def FM(t:Tol):List Value:=[iv (t.n:Int),iv t.c,iv t.s,iv t.e,iv t.a]
def cmV(c:Cmd):List Value:=[iv c.k,iv c.c,iv c.s,iv c.n,iv c.v]
def cmL(l:List Cmd):List Value:=l.flatMap cmV
theorem Cb(l m:List Cmd):cmL (l++m)=cmL l++cmL m:=by simp[cmL]
theorem Br(l:List Cmd):(cmL l).length=l.length*5:=by
 induction l with
 | nil=>rfl
 | cons c l ih=>rw[cmL,jY,M'];show 5+(cmL l).length=_;rw[ih,iW];omega
theorem No(l:List Cmd):∀ u∈cmL l,u.oneCell'=true:=by
 intro u hu;obtain⟨c,_,hc⟩:=kq.1 hu;simp only[cmV,iF,H',or_false]at hc;rcases hc with rfl|rfl|rfl|rfl|rfl<;>rfl
theorem Nn{l:List Cmd}{k:Nat}{c:Cmd}(h:l[k]?=some c){j:Nat}{u:Value}(hj:(cmV c)[j]?=some u):(cmL l)[5*k+j]?=some u:=by
 induction l generalizing k with
 | nil=>cases h
 | cons d l ih =>
  rw[cmL,jY];cases k with
  | zero =>
   simp only[jy,Y']at h;subst h;rw[iE (by have:=(P'.1 hj).1;omega)];simpa using hj
  | succ k =>
   rw[iH (by show 5<=_;omega),show 5*(k+1)+j-(cmV d).length=5*k+j by show 5*(k+1)+j-5=_;omega];exact ih (by simpa using h)
theorem Kk(l:List Cmd)(k:Nat):(cmL l).drop (5*k)=cmL (l.drop k):=by
 induction l generalizing k with
 | nil=>simp[cmL]
 | cons c l ih =>
  cases k with
  | zero=>simp
  | succ k =>
   show(cmV c++cmL l).drop (5*(k+1))=cmL (l.drop k);rw[<- ih k,List.drop_append,show(cmV c).drop (5*(k+1))=[]from i8 (by show 5<=_;omega),jL,show 5*(k+1)-(cmV c).length=5*k by show 5*(k+1)-5=_;omega]
def Frz(g:Gh)(x:S3):Prop:=∀ a,x.a=some a->g.t a.block=.z
structure FSl(g:Gh)(w:World)(x:S3)(l:List Int):Prop where
 s:Sl w x.v l
 z:l≠[]->Frz g x
structure FSv(g:Gh)(w:World)(x:S3)(l:List Vt):Prop where
 s:Sv w x.v l
 z:l≠[]->Frz g x
end
section
variable{B:Nat}{T:List Tg}{g g':Gh}{w w':World}
section
variable{b i nb ob r:Nat}{bs:List Nat}{f:Cmd->Option Bal}{l:List Let}{x:S3}
theorem Cg.zc(c:Cg B T g w g' w')(hz:Tg.z∉T)(hb:b<w.heap.size)(ht:g.t b=.z):w'.heap[b]?=w.heap[b]?:=c.same b hb (by rw[ht];exact hz) (λh=>by rw[ht]at h;cases h)
theorem FSl.ch{l:List Int}(h:FSl g w x l)(c:Cg B T g w g' w')(hz:Tg.z∉T:=by simp):FSl g' w' x l:=by
 obtain⟨⟨⟨a,cap,hv,hc,hn,h1⟩,h2,h3⟩,h4⟩:=h;simp only[Value.slice.injEq]at hv;obtain⟨rfl,hxn,rfl⟩:=hv;rcases h1 with h1|⟨b,off,ha,hbs,hcell⟩
 .exact⟨⟨⟨_,_,by simp only[Value.slice.injEq,and_true,true_and];exact hxn,hc,hn,.inl h1⟩,h2,h3⟩,λh=>absurd h1 h⟩
 .have hne:∀ _:l≠[],g.t b=.z:=λh=>h4 h _ ha;by_cases hl:l=[]
  .exact⟨⟨⟨_,_,by simp only[Value.slice.injEq,and_true,true_and];exact hxn,hc,hn,.inl hl⟩,h2,h3⟩,λh=>absurd hl h⟩
  .refine⟨⟨⟨_,_,by simp only[Value.slice.injEq,and_true,true_and];exact hxn,hc,hn,.inr ⟨b,off,ha,iy hbs c.size,λi hi=>?_⟩⟩,h2,h3⟩,λ_ a' ha'=>?_⟩
   .rw[World.cell?_of_block (w:=w) (c.zc hz hbs (hne hl))];exact hcell i hi
   .rw[ha]at ha';simp only[Y']at ha';subst ha';rw[c.tag hbs (λh=>absurd ((hne hl).symm.trans h) (by simp))];exact hne hl
theorem FSv.ch{l:List Vt}(h:FSv g w x l)(c:Cg B T g w g' w')(hz:Tg.z∉T:=by simp):FSv g' w' x l:=by
 obtain⟨⟨⟨a,cap,hv,hc,hn,h1⟩,h2⟩,h4⟩:=h;simp only[Value.slice.injEq]at hv;obtain⟨rfl,hxn,rfl⟩:=hv;rcases h1 with h1|⟨b,off,ha,hbs,hcell⟩
 .exact⟨⟨⟨_,_,by simp only[Value.slice.injEq,and_true,true_and];exact hxn,hc,hn,.inl h1⟩,h2⟩,λh=>absurd h1 h⟩
 .by_cases hl:l=[]
  .exact⟨⟨⟨_,_,by simp only[Value.slice.injEq,and_true,true_and];exact hxn,hc,hn,.inl hl⟩,h2⟩,λh=>absurd hl h⟩
  .have hzb:g.t b=.z:=h4 hl _ ha;refine⟨⟨⟨_,_,by simp only[Value.slice.injEq,and_true,true_and];exact hxn,hc,hn,.inr ⟨b,off,ha,iy hbs c.size,λi v hi j u hj=>?_⟩⟩,h2⟩,λ_ a' ha'=>?_⟩
   .rw[World.cell?_of_block (w:=w) (c.zc hz hbs hzb)];exact hcell i v hi j u hj
   .rw[ha]at ha';simp only[Y']at ha';subst ha';rw[c.tag hbs (λh=>absurd (hzb.symm.trans h) (by simp))];exact hzb
structure Rc(g:Gh)(w:World)(x:S3)(l:List Cmd):Prop where
 len:x.n=l.length
 cap:x.n<=x.c
 nul:x.a=none->x.c=0
 ex:l=[]\/∃ b off,x.a=some ⟨b,off,none⟩/\b<w.heap.size/\(∀ j u,(cmL l)[j]?=some u->w.cell? ⟨b,off+j,none⟩=some u)/\(g.t b=.z\/off+5*l.length<=g.k b)
theorem Rc.nil(g:Gh)(w:World):Rc g w s30 []:=⟨rfl,A' _,λ_=>rfl,.inl rfl⟩
theorem Rc.ch{l:List Cmd}(h:Rc g w x l)(c:Cg B T g w g' w')(hz:Tg.z∉T:=by simp):Rc g' w' x l:=by
 refine⟨h.len,h.cap,h.nul,?_⟩;rcases h.ex with h1|⟨b,off,h1,h2,h3,h4⟩
 .exact .inl h1
 .refine .inr ⟨b,off,h1,iy h2 c.size,λj u hj=>?_,?_⟩
  .rcases h4 with h4|h4
   .rw[World.cell?_of_block (w:=w) (c.zc hz h2 h4)];exact h3 j u hj
   .have hjl:j<(cmL l).length:=(P'.1 hj).1;rw[Br]at hjl
    rw[c.pref b h2 (off+j) (by omega)];exact h3 j u hj
  .rcases h4 with h4|h4
   .exact .inl ((c.tag h2 (by rw[h4];intro h;cases h)).trans h4)
   .exact .inr (iB h4 (c.kap b h2))
structure Box(g:Gh)(w:World)(b:Nat)(cs:Array Value)(t:TypeId):Prop where
 r:w.heap[b]?=some (.cells cs t)
 z:g.t b=.z
theorem Box.ch{cs:Array Value}{t:TypeId}(h:Box g w b cs t)(c:Cg B T g w g' w')(hz:Tg.z∉T:=by simp):Box g' w' b cs t:=⟨(c.zc hz (rl h.r) h.z).trans h.r,(c.tag (rl h.r) (by rw[h.z];intro h;cases h)).trans h.z⟩
def Ct(g:Gh)(w:World)(b:Nat)(l:Let):Prop:=∃ vs wh,Box g w b (EM l vs wh) 141/\FSv g w vs l.votes/\Rc g w wh l.what
theorem Ct.ch{l:Let}(h:Ct g w b l)(c:Cg B T g w g' w')(hz:Tg.z∉T:=by simp):Ct g' w' b l:=let ⟨vs,wh,h1,h2,h3⟩:=h;⟨vs,wh,h1.ch c hz,h2.ch c hz,h3.ch c hz⟩
def JZ(g:Gh)(w:World)(nb:Nat)(v:Value):Pend->Prop
 | .began b vs=>∃ b1 b2 b3 x,v=.func (.func 56) #[] #[pt b1 0,pt b2 0,pt b3 0]/\Box g w b1 #[pt nb 0] 69/\Box g w b2 #[iv b.r,iv b.n] 74/\Box g w b3 #[S3.v x] 75/\FSv g w x vs
 | .prom to b vs=>∃ b1 b2 b3 x lb l,v=.func (.func 81) #[] #[pt b1 0,pt b2 0,pt b3 0]/\Box g w b1 #[pt nb 0] 69/\Box g w b2 #[pt lb 0] 142/\Box g w b3 #[S3.v x] 75/\FSv g w x vs/\Ct g w lb l/\l.src=to/\l.bal=b
 | .voted to u=>∃ b1 b2 lb l,v=.func (.func 87) #[] #[pt b1 0,pt b2 0]/\Box g w b1 #[pt nb 0] 69/\Box g w b2 #[pt lb 0] 142/\Ct g w lb l/\l.src=to/\l.vote=u
 | .refuse to b=>∃ b1 b2 b3,v=.func (.func 120) #[] #[pt b1 0,pt b2 0,pt b3 0]/\Box g w b1 #[pt nb 0] 69/\Box g w b2 #[iv (to:Int)] 3/\Box g w b3 #[iv b.r,iv b.n] 74
 | .prop u=>∃ b1 b2,v=.func (.func 104) #[] #[pt b1 0,pt b2 0]/\Box g w b1 #[pt nb 0] 69/\Box g w b2 (vtA u) 139
 | .askNews to=>∃ b1 b2 lb l,v=.func (.func 89) #[] #[pt b1 0,pt b2 0]/\Box g w b1 #[pt nb 0] 69/\Box g w b2 #[pt lb 0] 142/\Ct g w lb l/\l.src=to
 | .start=>∃ b1,v=.func (.func 69) #[] #[pt b1 0]/\Box g w b1 #[pt nb 0] 69
 | .tell to slot=>∃ b1 b2 lb l,v=.func (.func 91) #[] #[pt b1 0,pt b2 0]/\Box g w b1 #[pt nb 0] 69/\Box g w b2 #[pt lb 0] 142/\Ct g w lb l/\l.src=to/\l.slot=slot
theorem JZ.ch{v:Value}{q:Pend}(h:JZ g w nb v q)(c:Cg B T g w g' w')(hz:Tg.z∉T:=by simp):JZ g' w' nb v q:=by
 cases q with
 | began b vs=>obtain⟨b1,b2,b3,x,e,h1,h2,h3,h4⟩:=h;exact⟨b1,b2,b3,x,e,h1.ch c hz,h2.ch c hz,h3.ch c hz,h4.ch c hz⟩
 | prom to b vs=>obtain⟨b1,b2,b3,x,lb,l,e,h1,h2,h3,h4,h5,h6⟩:=h;exact⟨b1,b2,b3,x,lb,l,e,h1.ch c hz,h2.ch c hz,h3.ch c hz,h4.ch c hz,h5.ch c hz,h6⟩
 | voted to u=>obtain⟨b1,b2,lb,l,e,h1,h2,h3,h4⟩:=h;exact⟨b1,b2,lb,l,e,h1.ch c hz,h2.ch c hz,h3.ch c hz,h4⟩
 | refuse to b=>obtain⟨b1,b2,b3,e,h1,h2,h3⟩:=h;exact⟨b1,b2,b3,e,h1.ch c hz,h2.ch c hz,h3.ch c hz⟩
 | prop u=>obtain⟨b1,b2,e,h1,h2⟩:=h;exact⟨b1,b2,e,h1.ch c hz,h2.ch c hz⟩
 | askNews to=>obtain⟨b1,b2,lb,l,e,h1,h2,h3,h4⟩:=h;exact⟨b1,b2,lb,l,e,h1.ch c hz,h2.ch c hz,h3.ch c hz,h4⟩
 | start=>obtain⟨b1,e,h1⟩:=h;exact⟨b1,e,h1.ch c hz⟩
 | tell to slot=>obtain⟨b1,b2,lb,l,e,h1,h2,h3,h4⟩:=h;exact⟨b1,b2,lb,l,e,h1.ch c hz,h2.ch c hz,h3.ch c hz,h4⟩
def mkA(x:Cmd × Bal × Nat):MapEntry:={ key:=.agg (cmV x.1).toArray,val:=.agg #[iv x.2.1.r,iv x.2.1.n],born:=x.2.2 }
structure AskAt(g:Gh)(w:World)(τ:Tg)(b:Nat)(f:Cmd->Option Bal):Prop where
 t:g.t b=τ
 k:g.k b=0
 ex:∃ (es:List (Cmd × Bal × Nat)) (clock:Nat),w.heap[b]?=some (.map (es.map mkA).toArray clock)/\(∀ x∈es,x.2.2<clock)/\(es.map (·.2.2)).Nodup/\(es.map (·.1)).Nodup/\∀ c,f c=(es.find? λx=>decide (c=x.1)).map (·.2.1)
def Vq(g:Gh)(w:World)(i:Nat)(f:Cmd->Option Bal):Option Nat->Prop
 | some b=>AskAt g w (.n 5 i) b f
 | none=>f=λ_=>none
structure Pends(g:Gh)(w:World)(nb:Nat)(vs:List Value)(l:List Pend):Prop where
 len:vs.length=l.length
 at_:∀ (k:Nat) (v:Value) (q:Pend),vs[k]?=some v->l[k]?=some q->JZ g w nb v q
structure NodeAt(g:Gh)(w:World)(i nb ob:Nat)(x:NX)(p:Nod):Prop where
 row:w.heap[nb]?=some (.cells (AB i ob p x) 96)
 tag:g.t nb=.n 0 i
 kap:g.k nb=0
 tape:FSl g w x.tape p.d
 votes:FSv g w x.votes p.vo.vs
 heard:∀ j,j<5->FSv g w (x.hv j) (p.rnd.heard j).vs
 pend:∃ vs,OwnS g w (.n 1 i) true 1 1 x.synced vs/\Pends g w nb vs p.pend
 queue:OwnS g w (.n 2 i) false 48 5 x.queue (cmL p.rnd.queue)
 agreed:OwnS g w (.n 3 i) true 48 5 x.agreed (cmL p.agreed)
 wants:OwnS g w (.n 4 i) false 48 5 x.wants (cmL p.wants)
 asked:Vq g w i p.asked x.asked
 upm:p.up=true->∃ b,x.asked=some b
structure Lets(g:Gh)(w:World)(bs:List Nat)(l:List Let):Prop where
 len:bs.length=l.length
 at_:∀ (k b:Nat) (m:Let),bs[k]?=some b->l[k]?=some m->Ct g w b m
structure OutAt(g:Gh)(w:World)(ob:Nat)(lt tl:S3)(ls:List Let)(ts:List Tol):Prop where
 row:w.heap[ob]?=some (.cells #[lt.v,tl.v] 66)
 tag:g.t ob=.n 50 0
 kap:g.k ob=0
 lets:∃ bs,OwnS g w (.n 51 0) false 142 1 lt (bs.map (pt · 0))/\Lets g w bs ls
 told:OwnS g w (.n 52 0) false 102 5 tl (ts.flatMap FM)
theorem Pends.ch{vs:List Value}{l:List Pend}(h:Pends g w nb vs l)(c:Cg B T g w g' w')(hz:Tg.z∉T:=by simp):Pends g' w' nb vs l:=⟨h.len,λk v q h1 h2=>(h.at_ k v q h1 h2).ch c hz⟩
theorem Lets.ch(h:Lets g w bs l)(c:Cg B T g w g' w')(hz:Tg.z∉T:=by simp):Lets g' w' bs l:=⟨h.len,λk v q h1 h2=>(h.at_ k v q h1 h2).ch c hz⟩
theorem Lets.snoc{m:Let}(h:Lets g w bs l)(hm:Ct g w b m):Lets g w (bs++[b]) (l++[m]):=by
 refine⟨by simp[h.len],λk c q h1 h2=>?_⟩;by_cases hk:k<bs.length
 .rw[iE hk]at h1
  rw[iE (by rw[<- h.len];exact hk)]at h2
  exact h.at_ k c q h1 h2
 .rw[iH (by omega)]at h1
  rw[iH (by rw[<- h.len];omega),<- h.len]at h2
  cases hx:k-bs.length with
  | zero=>rw[hx]at h1 h2;simp at h1 h2;subst h1 h2;exact hm
  | succ n=>rw[hx]at h1;simp at h1
theorem Cg.rc(c:Cg B T g w g' w'){o:Obj}(h:w.heap[b]?=some o)(ht:g.t b=.n r i)(hn:Tg.n r i∉T):w'.heap[b]?=some o/\g'.t b=.n r i/\g'.k b=g.k b :=
 ⟨(c.same b (rl h) (by rw[ht];exact hn) (λh=>by rw[ht]at h;cases h)).trans h,(c.tag (rl h) (by rw[ht];intro h;cases h)).trans ht,c.kat b (rl h) (by rw[ht];exact hn) (by rw[ht];intro h;cases h)⟩
theorem AskAt.ch(h:AskAt g w (.n r i) b f)(c:Cg B T g w g' w')(hn:Tg.n r i∉T:=by simp):AskAt g' w' (.n r i) b f:=by
 obtain⟨h1,h2,es,k,h3,h4⟩:=h;have h5:=c.rc h3 h1 hn;exact⟨h5.2.1,h5.2.2.trans h2,es,k,h5.1,h4⟩
theorem Vq.ch{a:Option Nat}(h:Vq g w i f a)(c:Cg B T g w g' w')(hn:Tg.n 5 i∉T:=by simp):Vq g' w' i f a:=by
 cases a with
 | none=>exact h
 | some b=>exact AskAt.ch h c hn
theorem NodeAt.ch{x:NX}{p:Nod}(h:NodeAt g w i nb ob x p)(c:Cg B T g w g' w')(hz:Tg.z∉T:=by simp)(hn:∀ r,r<6->Tg.n r i∉T:=by simp):NodeAt g' w' i nb ob x p:=by
 have h1:=c.rc h.row h.tag (hn 0 (by omega));obtain⟨vs,h2,h3⟩:=h.pend;exact⟨h1.1,h1.2.1,h1.2.2.trans h.kap,h.tape.ch c hz,h.votes.ch c hz,λj hj=>(h.heard j hj).ch c hz,⟨vs,h2.ch c (hn 1 (by omega)) (by simp),h3.ch c hz⟩,h.queue.ch c (hn 2 (by omega)) (by simp),h.agreed.ch c (hn 3 (by omega)) (by simp),h.wants.ch c (hn 4 (by omega)) (by simp),h.asked.ch c (hn 5 (by omega)),h.upm⟩
theorem OutAt.ch{lt tl:S3}{ls:List Let}{ts:List Tol}(h:OutAt g w ob lt tl ls ts)(c:Cg B T g w g' w')(hz:Tg.z∉T:=by simp)(hn:∀ r,50<=r->Tg.n r 0∉T:=by simp):OutAt g' w' ob lt tl ls ts:=by
 have h1:=c.rc h.row h.tag (hn 50 (by omega));obtain⟨bs,h2,h3⟩:=h.lets;exact⟨h1.1,h1.2.1,h1.2.2.trans h.kap,⟨bs,h2.ch c (hn 51 (by omega)) (by simp),h3.ch c hz⟩,h.told.ch c (hn 52 (by omega)) (by simp)⟩
end
end
section
def TN(i:Nat):List Tg:=[.n 0 i,.n 1 i,.n 2 i,.n 3 i,.n 4 i,.n 5 i,.n 50 0,.n 51 0,.n 52 0,.n 60 0]
theorem Bf(i:Nat):Tg.z∉TN i:=by simp[TN]
def NS(i nb ob:Nat)(g:Gh)(w:World)(p:Nod)(ls:List Let)(ts:List Tol):Prop:=∃ x lt tl,NodeAt g w i nb ob x p/\OutAt g w ob lt tl ls ts/\Ip g w
variable{B i nb ob:Nat}{T:List Tg}{e:TypeId}{g g':Gh}{l:List Pend}{ls:List Let}{p:Nod}{ts:List Tol}{w w':World}{x:S3}{τ:Tg}
theorem nsC{B':Nat}{x:NX}{lt tl:S3}{L:List Sh}(hN:NodeAt g w i nb ob x p)(hO:OutAt g w ob lt tl ls ts)(C:Cg B T g w g' w')(K:Kn B' g' w' L)(hz:Tg.z∉T:=by simp)(hn:∀ r,r<6->Tg.n r i∉T:=by simp)(ho:∀ r,50<=r->Tg.n r 0∉T:=by simp):NS i nb ob g' w' p ls ts:=⟨x,lt,tl,hN.ch C hz hn,hO.ch C hz ho,K.new⟩
def NP(i nb ob:Nat)(g:Gh)(w:World)(v:Value)(p:Nod)(ls:List Let)(ts:List Tol):Ending->World->Prop:=λe w'=>∃ g',e=.returned v/\NS i nb ob g' w' p ls ts/\Cg w.heap.size (TN i) g w g' w'
theorem NS.new(h:NS i nb ob g w p ls ts):Ip g w:=let ⟨_,_,_,_,_,h⟩:=h;h
theorem NS.below(h:NS i nb ob g w p ls ts)(b:Bw w w'):NS i nb ob g w' p ls ts :=
 let ⟨x,lt,tl,h1,h2,h3⟩:=h
 have c:=Cg.ofBelow (B:=0) (T:=[]) (g:=g) b
 ⟨x,lt,tl,h1.ch c,h2.ch c,λk hk=>h3 k (iB b.size hk)⟩
theorem NS.ch0(h:NS i nb ob g w p ls ts)(c:Cg B [] g w g' w')(hn:Ip g' w'):NS i nb ob g' w' p ls ts :=
 let ⟨x,lt,tl,h1,h2,_⟩:=h
 ⟨x,lt,tl,h1.ch c,h2.ch c,hn⟩
theorem NodeAt.askSome{b:Nat}{x:NX}(h:NodeAt g w i nb ob x p)(hx:x.asked=some b):AskAt g w (.n 5 i) b p.asked:=by have:=h.asked;rw[hx]at this;exact this
theorem BM(h:∃ vs,OwnS g w (.n 1 i) true 1 1 x vs/\Pends g w nb vs l)(c:Cg B T g w g' w')(hz:Tg.z∉T:=by simp)(hn:Tg.n 1 i∉T:=by simp):∃ vs,OwnS g' w' (.n 1 i) true 1 1 x vs/\Pends g' w' nb vs l :=
 let ⟨vs,h1,h2⟩:=h
 ⟨vs,h1.ch c hn (by simp),h2.ch c hz⟩
theorem Dw{l:List Let}(h:∃ bs:List Nat,OwnS g w (.n 51 0) false 142 1 x (bs.map (pt · 0))/\Lets g w bs l)(c:Cg B T g w g' w')(hz:Tg.z∉T:=by simp)(hn:Tg.n 51 0∉T:=by simp):∃ bs:List Nat,OwnS g' w' (.n 51 0) false 142 1 x (bs.map (pt · 0))/\Lets g' w' bs l :=
 let ⟨bs,h1,h2⟩:=h
 ⟨bs,h1.ch c hn (by simp),h2.ch c hz⟩
theorem Bi{hv:Nat->S3}{f:Nat->Acc}(h:∀ j,j<5->FSv g w (hv j) (f j).vs)(c:Cg B T g w g' w')(hz:Tg.z∉T:=by simp):∀ j,j<5->FSv g' w' (hv j) (f j).vs:=λj hj=>(h j hj).ch c hz
theorem Pends.snoc{vs:List Value}{v:Value}{q:Pend}(h:Pends g w nb vs l)(hm:JZ g w nb v q):Pends g w nb (vs++[v]) (l++[q]):=by
 refine⟨by simp[h.len],λk c m h1 h2=>?_⟩;by_cases hk:k<vs.length
 .rw[iE hk]at h1
  rw[iE (by rw[<- h.len];exact hk)]at h2
  exact h.at_ k c m h1 h2
 .rw[iH (by omega)]at h1
  rw[iH (by rw[<- h.len];omega),<- h.len]at h2
  cases hx:k-vs.length with
  | zero=>rw[hx]at h1 h2;simp at h1 h2;subst h1 h2;exact hm
  | succ n=>rw[hx]at h1;simp at h1
theorem OwnS.num{kp:Bool}{l:List Cmd}(h:OwnS g w τ kp e 5 x (cmL l)):x.n=l.length:=by have:=h.len;rw[Br]at this;omega
theorem OwnS.rc{l:List Cmd}(h:OwnS g w τ true e 5 x (cmL l)):Rc g w x l:=by
 have hn:=h.num;rcases h.ex with⟨h1,h2,h3⟩|⟨b,cur,h1,h2,h3,h4,h5,h6,h7,h8⟩
 .exact⟨hn,by omega,λ_=>h3,.inl (iz (by omega))⟩
 .refine⟨hn,h3,λh=>(by rw[h1]at h;cases h),.inr ⟨b,0,h1,rl h2,λj u hj=>?_,.inr ?_⟩⟩
  .obtain⟨b',hb',_,hc⟩:=h.cell hj;rw[h1]at hb'
   simp only[Y',Addr.mk.injEq,and_true]at hb';subst hb';rw[iX];exact hc
  .rw[h8,Br];simp;omega
end
end
end Go.Proofs.YtalbmmghmoggcacGreatDoor
