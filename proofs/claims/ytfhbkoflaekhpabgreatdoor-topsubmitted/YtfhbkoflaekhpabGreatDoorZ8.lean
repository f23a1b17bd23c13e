/- Part 8 of the walk. -/
import Derived.Test.YtfhbkoflaekhpabGreatDoorZ7
set_option maxRecDepth 100000
set_option maxHeartbeats 4000000
open Go.Proofs.Tryz
set_option linter.unusedVariables false
namespace Go.Proofs.YtfhbkoflaekhpabGreatDoor
section
open Go.RowKit
def AX(d:List Int)(s:Int):Prop:=d.length≤100000∧0≤s∧s≤(d.length:Int)
instance (d:List Int) (s:Int):Decidable (AX d s):=by unfold AX;exact inferInstance
def CK(d:List Int)(s:Int):Int:=if AX d s then 0 else 5
def GU(d:List Int)(s:Int):List Int:=if AX d s then d else[]
def Ic(d:List Int)(s:Int):Int:=if AX d s then(d.length:Int)else 0
def Fr(d:List Int)(s k:Int):Int:=if k<(d.length:Int)-s then s+k else(d.length:Int)
def Ge(d:List Int)(s k:Int):Int:=if ¬ AX d s then 5 else if k<0 then 2 else 0
def Jx(d:List Int)(s k:Int):List Int:=if Ge d s k=0 then d.take (Fr d s k).toNat else[]
def Jy(d:List Int)(s k:Int):Int:=if Ge d s k=0 then Fr d s k else 0
def tpA(x:Value)(s:Int):Array Value:=#[x,.int .i64 s]
theorem Lp:(prog.info? 110).map (·.size)=some 2:=by kernel_rfl
theorem XZ(x:Option Addr)(n c:Nat)(s:Int):(#[.slice x n c,.int .i64 s]:Array Value).all (·.oneCell')=true:=by simp[Value.oneCell']
end
section
def Dl(b:List Int):List Int:=(b.length:Int)::b
def AF(b:List Int):List Int:=Dl b++(dig (Dl b)).take 4
theorem BY(b:List Int):(Dl b).length=b.length+1:=rfl
theorem Ba(b:List Int):(AF b).length=b.length+5:=by
 unfold AF;rw[List.length_append,BY,List.length_take,Aw];omega
def Bk(b:Bal):List Int:=1::(Ac b.r++Ac b.n)
def AZ(v:Vt):List Int:=2::(Ac v.slot++(Ac v.b.r++(Ac v.b.n++Dp v.w.k v.w.c v.w.s v.w.n v.w.v)))
theorem PL(v:Vt):(AZ v).length=33:=rfl
theorem Ug(b:Bal):∀ x∈Bk b,0≤x∧x<256:=by
 intro x hx;rcases List.mem_cons.1 hx with rfl|hx
 ·omega
 ·rcases List.mem_append.1 hx with hx|hx
  ·exact AO _ x hx
  ·exact AO _ x hx
theorem UM(v:Vt):∀ x∈AZ v,0≤x∧x<256:=by
 intro x hx;rcases List.mem_cons.1 hx with rfl|hx
 ·omega
 ·rcases List.mem_append.1 hx with hx|hx
  ·exact AO _ x hx
  ·rcases List.mem_append.1 hx with hx|hx
   ·exact AO _ x hx
   ·rcases List.mem_append.1 hx with hx|hx
    ·exact AO _ x hx
    ·exact Mi _ _ _ _ _ x hx
theorem Kx{b:List Int}(hb:∀ x∈b,0≤x∧x<256)(hl:b.length≤255):∀ x∈Dl b,0≤x∧x<256:=by
 intro x hx;rcases List.mem_cons.1 hx with rfl|hx
 ·omega
 ·exact hb x hx
theorem KV{b:List Int}(hb:∀ x∈b,0≤x∧x<256)(hl:b.length≤255):∀ x∈AF b,0≤x∧x<256:=by
 intro x hx;rcases List.mem_append.1 hx with hx|hx
 ·exact Kx hb hl x hx
 ·exact Df _ x (List.mem_of_mem_take hx)
def YE(l:List Int):Cmd:=⟨Ab l 0,Ab l 4,Ab l 8,Ab l 12,Ab l 16⟩
def Fl(b:List Int):Bal:=⟨Ab b 1,Ab b 5⟩
def EY(b:List Int):Vt:=⟨Ab b 1,⟨Ab b 5,Ab b 9⟩,YE (b.drop 13)⟩
def Dg(a:Acc)(b:List Int):Option Acc :=
 if b.length=9∧b.getD 0 0=1 then(if BG a (Fl b)=0 then some ⟨Fl b,a.vs⟩else none)
 else if b.length=33∧b.getD 0 0=2 then(if BW (b.drop 13)=0 then(if AT a (EY b)=0 then some ⟨(EY b).b,Be a.vs (EY b)⟩else none)else none)
 else none
def B2(r:List Int)(a:Acc):Option (Acc × Nat) :=
 if r=[]then none
 else if r.length<(r.getD 0 0).toNat+5 then none
 else if(dig (r.take ((r.getD 0 0).toNat+1))).take 4≠(r.drop ((r.getD 0 0).toNat+1)).take 4 then none
 else(Dg a ((r.take ((r.getD 0 0).toNat+1)).drop 1)).map fun x=>(x,(r.getD 0 0).toNat+5)
def a0:Acc:=⟨⟨0,0⟩,[]⟩
def IZ(r:List Int)(p:Nat × Acc):Nat × Acc:=match B2 (r.drop p.1) p.2 with
 | none=>p
 | some (c,m)=>(p.1+m,c)
def itR(r:List Int):Nat→Nat × Acc
 | 0=>(0,a0)
 | k+1=>IZ r (itR r k)
def DM(r:List Int):Nat × Acc:=itR r r.length
theorem Li{r:List Int}{a c:Acc}{m:Nat}(h:B2 r a=some (c,m)):5≤m∧m≤r.length:=by
 unfold B2 at h;split at h
 ·cases h
 ·split at h
  ·cases h
  ·split at h
   ·cases h
   ·obtain⟨x,_,e⟩:=Option.map_eq_some_iff.1 h;injection e with e1 e2
    omega
theorem GD{r:List Int}{p:Nat × Acc}(h:B2 (r.drop p.1) p.2=none):IZ r p=p:=by
 unfold IZ;rw[h]
theorem EL{r:List Int}{n:Nat}{b c:Acc}{m:Nat}(h:B2 (r.drop n) b=some (c,m)):IZ r (n,b)=(n+m,c):=by
 unfold IZ;rw[show B2 (r.drop (n,b).1) (n,b).2=some (c,m)from h]
theorem TB{r:List Int}{k n:Nat}{b:Acc}(h:itR r k=(n,b))(hs:B2 (r.drop n) b=none)(j:Nat):itR r (k+j)=(n,b):=by
 induction j with
 | zero=>exact h
 | succ j ih =>
  rw[← Nat.add_assoc,itR,ih];exact GD hs
theorem ND{r:List Int}{k n:Nat}{b:Acc}(h:itR r k=(n,b))(hk:k≤r.length)(hs:B2 (r.drop n) b=none):DM r=(n,b):=by
 have:=TB h hs (r.length-k);rw[show k+(r.length-k)=r.length by omega]at this
 exact this
theorem Wn(r:List Int)(k:Nat):(itR r k).1≤r.length:=by
 induction k with
 | zero=>exact Nat.zero_le _
 | succ k ih =>
  rw[itR];unfold IZ;split
  ·exact ih
  ·rename_i c m h
   have:=(Li h).2;rw[List.length_drop]at this
   show(itR r k).1+m≤r.length;omega
theorem MM{r r':List Int}{a c:Acc}{m:Nat}(h:B2 r a=some (c,m))(hp:r'.take m=r.take m):B2 r' a=some (c,m):=by
 have hl:=Li h;have hl':m≤r'.length:=by
  have e:=congrArg List.length hp;rw[List.length_take,List.length_take]at e
  omega
 unfold B2 at h;split at h
 ·cases h
 rename_i h0
 split at h
 ·cases h
 rename_i h1
 split at h
 ·cases h
 rename_i h2
 obtain⟨x,hx,e⟩:=Option.map_eq_some_iff.1 h;injection e with e1 e2
 have hg:r'.getD 0 0=r.getD 0 0:=by
  have e:=congrArg (fun l=>l.getD 0 0) hp;simp only[List.getD_eq_getElem?_getD,List.getElem?_take]at e ⊢;rw[if_pos (by omega),if_pos (by omega)]at e
  exact e
 have ht:∀ k,k≤m→r'.take k=r.take k:=fun k hk=>by
  have e:=congrArg (List.take k) hp;rw[List.take_take,List.take_take,Nat.min_eq_left hk]at e
  exact e
 have hd:(r'.drop ((r.getD 0 0).toNat+1)).take 4=(r.drop ((r.getD 0 0).toNat+1)).take 4:=by
  have e:=congrArg (List.drop ((r.getD 0 0).toNat+1)) hp;rw[List.drop_take,List.drop_take,show m-((r.getD 0 0).toNat+1)=4 by omega]at e
  exact e
 unfold B2;rw[hg,if_neg (by rintro rfl;simp at hl';omega),if_neg (by omega),ht _ (by omega),hd,if_neg h2,hx,Option.map_some,e1,e2]
theorem Fu(r:List Int){N n m:Nat}(h:n+m≤N):((r.take N).drop n).take m=(r.drop n).take m:=by
 rw[List.drop_take,List.take_take,Nat.min_eq_left (by omega)]
theorem Wo(r:List Int)(k:Nat):(itR r k).1≤(itR r (k+1)).1:=by
 rw[itR];unfold IZ;split
 ·exact Nat.le_refl _
 ·show(itR r k).1≤(itR r k).1+_;omega
theorem Wp{r:List Int}{N k:Nat}(h:(itR r k).1≤N):itR (r.take N) k=itR r k:=by
 induction k with
 | zero=>rfl
 | succ k ih =>
  have hm:=Wo r k;have ih:=ih (by omega);rw[itR,ih];cases e:B2 (r.drop (itR r k).1) (itR r k).2 with
  | none =>
   have e2:B2 ((r.take N).drop (itR r k).1) (itR r k).2=none:=by
    cases e3:B2 ((r.take N).drop (itR r k).1) (itR r k).2 with
    | none=>rfl
    | some x =>
     obtain⟨c,m⟩:=x;have hl:=(Li e3).2;rw[List.length_drop,List.length_take]at hl
     have:=MM (r':=r.drop (itR r k).1) e3 (Fu r (by omega)).symm;rw[e]at this
     cases this
   rw[GD e2,itR,GD e]
  | some x =>
   obtain⟨c,m⟩:=x;have e1:itR r (k+1)=((itR r k).1+m,c):=by rw[itR];exact EL e
   rw[e1]at h ⊢
   have h':(itR r k).1+m≤N:=h;have e2:=MM (r':=(r.take N).drop (itR r k).1) e (Fu r h');exact EL e2
theorem SA(r:List Int):(DM r).1≤r.length:=Wn r r.length
theorem R8(b x:List Int)(a:Acc):B2 (AF b++x) a=(Dg a b).map fun c=>(c,b.length+5):=by
 have hl:=Ba b;have hg:(AF b++x).getD 0 0=(b.length:Int):=rfl;have hn:((b.length:Int)).toNat=b.length:=Int.toNat_natCast _;have ht:(AF b++x).take (b.length+1)=Dl b:=by
  unfold AF;rw[List.append_assoc,List.take_append_of_le_length (by rw[BY];omega),List.take_of_length_le (by rw[BY];omega)]
 have hd:((AF b++x).drop (b.length+1)).take 4=(dig (Dl b)).take 4:=by
  unfold AF;rw[List.append_assoc,List.drop_append_of_le_length (by rw[BY];omega),List.drop_of_length_le (by rw[BY];omega),List.nil_append,
   List.take_append_of_le_length (by rw[List.length_take,Aw];omega),List.take_take]
  rfl
 unfold B2;rw[hg,hn,if_neg (by intro e;have:=congrArg List.length e;rw[List.length_append,hl]at this;simp at this),if_neg (by rw[List.length_append,hl];omega),ht,hd,if_neg (fun g=>g rfl)];rfl
theorem R9(b x:List Int)(a:Acc){k:Nat}(hk:k<b.length+5):B2 ((AF b++x).take k) a=none:=by
 have hl:=Ba b;cases k with
 | zero=>rfl
 | succ k =>
  have hg:((AF b++x).take (k+1)).getD 0 0=(b.length:Int):=rfl;unfold B2;rw[hg,Int.toNat_natCast];split
  ·rfl
  ·rw[if_pos (by rw[List.length_take,List.length_append,hl];omega)]
theorem VC(a:Acc){b:Bal}(hb:Ad b):Dg a (Bk b)=if BG a b=0 then some ⟨b,a.vs⟩else none:=by
 have hb':=hb;unfold Ad at hb';have e1:Ab (Bk b) 1=b.r:=Bq b.r (by omega) (by omega) [1] (Ac b.n);have e2:Ab (Bk b) 5=b.n:=by
  have:=Bq b.n (by omega) (by omega) (1::Ac b.r) [];rw[List.append_nil]at this
  exact this
 have e:Fl (Bk b)=b:=by unfold Fl;rw[e1,e2]
 unfold Dg;rw[if_pos ⟨rfl,rfl⟩,e]
theorem V2{k c s n v:Int}(h:AY k c s n v=0):BW (Dp k c s n v)=0∧YE (Dp k c s n v)=⟨k,c,s,n,v⟩:=by
 have hz:=Es h;have hi:=hz.2;unfold InC at hi;have e0:=TS k c s n v (by omega) (by omega);have e1:=TT k c s n v (by omega) (by omega);have e2:=TU k c s n v (by omega) (by omega);have e3:=QU k c s n v (by omega) (by omega);have e4:=QV k c s n v (by omega) (by omega);unfold BW YE;rw[if_neg (fun g=>g (DP k c s n v)),e0,e1,e2,e3,e4];exact⟨h,rfl⟩
theorem VD(a:Acc){v:Vt}(hv:Aj v):Dg a (AZ v)=if AT a v=0 then some ⟨v.b,Be a.vs v⟩else none:=by
 have hv':=hv;unfold Aj Ad at hv';obtain⟨slot,⟨r,n⟩,⟨k,c,s,nn,x⟩⟩:=v;simp only at hv';have e1:Ab (AZ ⟨slot,⟨r,n⟩,⟨k,c,s,nn,x⟩⟩) 1=slot:=Bq slot (by omega) (by omega) [2] (Ac r++(Ac n++Dp k c s nn x));have e2:Ab (AZ ⟨slot,⟨r,n⟩,⟨k,c,s,nn,x⟩⟩) 5=r:=Bq r (by omega) (by omega) (2::Ac slot) (Ac n++Dp k c s nn x);have e3:Ab (AZ ⟨slot,⟨r,n⟩,⟨k,c,s,nn,x⟩⟩) 9=n:=Bq n (by omega) (by omega) (2::(Ac slot++Ac r)) (Dp k c s nn x);have ed:(AZ ⟨slot,⟨r,n⟩,⟨k,c,s,nn,x⟩⟩).drop 13=Dp k c s nn x:=rfl;have hc:=V2 (k:=k) (c:=c) (s:=s) (n:=nn) (v:=x) hv'.2.2;have e:EY (AZ ⟨slot,⟨r,n⟩,⟨k,c,s,nn,x⟩⟩)=⟨slot,⟨r,n⟩,⟨k,c,s,nn,x⟩⟩:=by unfold EY;rw[e1,e2,e3,ed,hc.2]
 unfold Dg;rw[if_neg (by rintro⟨h,_⟩;cases h),if_pos ⟨rfl,rfl⟩,e,ed,if_pos hc.1]
def Ay(bs:List (List Int)):List Int:=bs.flatMap AF
theorem BX(l m:List (List Int)):Ay (l++m)=Ay l++Ay m:=by simp[Ay]
structure Chn(all:List Acc)(bs:List (List Int)):Prop where
 len:all.length=bs.length+1
 first:all[0]?=some a0
 step:∀ (i:Nat) (b:List Int) (a c:Acc),bs[i]?=some b→all[i]?=some a→all[i+1]?=some c→Dg a b=some c
theorem Chn.at{all:List Acc}{bs:List (List Int)}(h:Chn all bs)(j:Nat)(hj:j≤bs.length):∃ a,all[j]?=some a:=⟨_,List.getElem?_eq_getElem (by have:=h.len;omega)⟩
theorem Ln(bs:List (List Int))(j:Nat)(b:List Int)(h:bs[j]?=some b):bs.take (j+1)=bs.take j++[b]:=by
 obtain⟨hj,e⟩:=List.getElem?_eq_some_iff.1 h;rw[List.take_succ_eq_append_getElem hj,e]
theorem Kp(bs:List (List Int))(j:Nat)(x:List Int):(Ay bs++x).drop (Ay (bs.take j)).length=Ay (bs.drop j)++x:=by
 have e:Ay bs=Ay (bs.take j)++Ay (bs.drop j):=by rw[← BX,List.take_append_drop]
 rw[e,List.append_assoc,List.drop_append_of_le_length (Nat.le_refl _),List.drop_of_length_le (Nat.le_refl _),List.nil_append]
theorem Kr(bs:List (List Int))(j:Nat)(b:List Int)(h:bs[j]?=some b):Ay (bs.drop j)=AF b++Ay (bs.drop (j+1)):=by
 obtain⟨hj,e⟩:=List.getElem?_eq_some_iff.1 h;rw[List.drop_eq_getElem_cons hj,e];rfl
theorem Chn.it{all:List Acc}{bs:List (List Int)}(h:Chn all bs)(x:List Int)(j:Nat)(hj:j≤bs.length){a:Acc}(ha:all[j]?=some a):itR (Ay bs++x) j=((Ay (bs.take j)).length,a):=by
 induction j generalizing a with
 | zero =>
  rw[h.first]at ha
  obtain rfl:=Option.some.inj ha;rfl
 | succ j ih =>
  obtain⟨a',ha'⟩:=h.at j (by omega);have ih:=ih (by omega) ha';obtain⟨b,hb⟩:∃ b,bs[j]?=some b:=⟨_,List.getElem?_eq_getElem (by omega)⟩;have hd:=h.step j b a' a hb ha' ha;have e:B2 ((Ay bs++x).drop (Ay (bs.take j)).length) a'=some (a,b.length+5):=by
   rw[Kp,Kr bs j b hb,List.append_assoc,R8,hd];rfl
  rw[itR,ih,EL e,Ln bs j b hb,BX,List.length_append]
  congr 1
  show _=(Ay (bs.take j)).length+(Ay [b]).length;simp[Ay,Ba]
theorem VR(bs:List (List Int)):bs.length≤(Ay bs).length:=by
 induction bs with
 | nil=>exact Nat.zero_le _
 | cons b bs ih =>
  show bs.length+1≤(AF b++Ay bs).length;rw[List.length_append,Ba];omega
theorem cQ(bs:List (List Int))(k:Nat):∃ j,j≤bs.length∧(Ay (bs.take j)).length≤k∧(j=bs.length∨k<(Ay (bs.take (j+1))).length):=by
 have:∀ n,n≤bs.length→∃ j,j≤n∧(Ay (bs.take j)).length≤k∧(j=n∨k<(Ay (bs.take (j+1))).length):=by
  intro n;induction n with
  | zero=>intro _;exact⟨0,Nat.le_refl _,by simp[Ay],.inl rfl⟩
  | succ n ih =>
   intro hn;obtain⟨j,h1,h2,h3⟩:=ih (by omega);rcases h3 with rfl|h3
   ·rcases Nat.lt_or_ge k (Ay (bs.take (j+1))).length with h4|h4
    ·exact⟨j,by omega,h2,.inr h4⟩
    ·exact⟨j+1,Nat.le_refl _,h4,.inl rfl⟩
   ·exact⟨j,by omega,h2,.inr h3⟩
 exact this bs.length (Nat.le_refl _)
theorem Chn.torn{all:List Acc}{bs:List (List Int)}(h:Chn all bs)(k:Nat):∃ j a,j≤bs.length∧all[j]?=some a∧DM ((Ay bs).take k)=((Ay (bs.take j)).length,a)∧(Ay (bs.take j)).length≤k∧(j=bs.length∨k<(Ay (bs.take (j+1))).length):=by
 obtain⟨j,h1,h2,h3⟩:=cQ bs k;obtain⟨a,ha⟩:=h.at j h1;refine⟨j,a,h1,ha,?_,h2,h3⟩;have hi:=h.it [] j h1 ha;rw[List.append_nil]at hi
 have hi2:itR ((Ay bs).take k) j=((Ay (bs.take j)).length,a):=by
  rw[Wp (by rw[hi];exact h2),hi]
 have hdr:=Kp bs j [];rw[List.append_nil,List.append_nil]at hdr
 refine ND hi2 ?_ ?_
 ·rw[List.length_take];have g1:=VR (bs.take j);rw[List.length_take]at g1
  have g2:(Ay (bs.take j)).length≤(Ay bs).length:=by
   have:=congrArg List.length hdr;rw[List.length_drop]at this
   have e:Ay bs=Ay (bs.take j)++Ay (bs.drop j):=by rw[← BX,List.take_append_drop]
   rw[e,List.length_append];omega
  omega
 ·rw[List.drop_take,hdr];rcases h3 with rfl|h3
  ·rw[List.drop_of_length_le (Nat.le_refl _)];simp[Ay,B2]
  ·rcases Nat.lt_or_ge j bs.length with hj|hj
   ·obtain⟨b,hb⟩:∃ b,bs[j]?=some b:=⟨_,List.getElem?_eq_getElem hj⟩;rw[Kr bs j b hb];refine R9 b _ a ?_;rw[Ln bs j b hb,BX,List.length_append]at h3
    have e:(Ay [b]).length=b.length+5:=by simp[Ay,Ba]
    omega
   ·rw[List.drop_of_length_le hj];simp[Ay,B2]
end
section
open Go.RowKit
def fbO(r:List Int):Option (List Int) :=
 if r=[]then none
 else if r.length<(r.getD 0 0).toNat+5 then none
 else if(dig (r.take ((r.getD 0 0).toNat+1))).take 4≠(r.drop ((r.getD 0 0).toNat+1)).take 4 then none
 else some ((r.take ((r.getD 0 0).toNat+1)).drop 1)
theorem Sc{r b:List Int}(h:fbO r=some b):b.length+5≤r.length∧b.length=(r.getD 0 0).toNat:=by
 unfold fbO at h;split at h
 ·cases h
 ·split at h
  ·cases h
  ·split at h
   ·cases h
   ·injection h with h
    subst h;rw[List.length_drop,List.length_take];omega
theorem Lh(r:List Int)(a:Acc):B2 r a=(fbO r).bind fun b=>(Dg a b).map fun c=>(c,b.length+5):=by
 have hl:∀ b,fbO r=some b→b.length=(r.getD 0 0).toNat:=fun b h=>(Sc h).2;unfold B2;unfold fbO at hl ⊢;by_cases h0:r=[]
 ·rw[if_pos h0,if_pos h0];rfl
 ·rw[if_neg h0]at hl ⊢
  rw[if_neg h0];by_cases h1:r.length<(r.getD 0 0).toNat+5
  ·rw[if_pos h1,if_pos h1];rfl
  ·rw[if_neg h1]at hl ⊢
   rw[if_neg h1];by_cases h2:(dig (r.take ((r.getD 0 0).toNat+1))).take 4≠(r.drop ((r.getD 0 0).toNat+1)).take 4
   ·rw[if_pos h2,if_pos h2];rfl
   ·rw[if_neg h2]at hl ⊢
    rw[if_neg h2];have e:=hl _ rfl;show _=(Dg a _).map _;rw[e]
theorem CU(l:List Int)(n i:Nat):Ab (l.drop n) i=Ab l (n+i):=by
 unfold Ab;simp only[List.getD_eq_getElem?_getD,List.getElem?_drop,Nat.add_assoc]
def G9(a:Acc)(b:List Int):Int :=
 if b.length=9∧b.getD 0 0=1 then BG a (Fl b)
 else if b.length=33∧b.getD 0 0=2 then(if BW (b.drop 13)=0 then AT a (EY b)else BW (b.drop 13))
 else 3
def Fs(a:Acc)(b:List Int):Acc :=
 if b.length=9∧b.getD 0 0=1 then⟨Ff a (Fl b),Fe a (Fl b)⟩
 else if b.length=33∧b.getD 0 0=2 then(if BW (b.drop 13)=0 then⟨Cj a (EY b),Dd a (EY b)⟩else a0)
 else a0
theorem O5(a:Acc)(b:List Int):Dg a b=if G9 a b=0 then some (Fs a b)else none:=by
 unfold Dg G9 Fs;by_cases h1:b.length=9∧b.getD 0 0=1
 ·rw[if_pos h1,if_pos h1,if_pos h1];by_cases h2:BG a (Fl b)=0
  ·rw[if_pos h2,if_pos h2];unfold Ff Fe;rw[if_pos h2,if_pos h2]
  ·rw[if_neg h2,if_neg h2]
 ·rw[if_neg h1,if_neg h1,if_neg h1];by_cases h2:b.length=33∧b.getD 0 0=2
  ·rw[if_pos h2,if_pos h2,if_pos h2];by_cases h3:BW (b.drop 13)=0
   ·rw[if_pos h3,if_pos h3,if_pos h3];by_cases h4:AT a (EY b)=0
    ·rw[if_pos h4,if_pos h4];unfold Cj Dd;rw[if_pos h4,if_pos h4]
    ·rw[if_neg h4,if_neg h4]
   ·rw[if_neg h3,if_neg h3,if_neg h3]
  ·rw[if_neg h2,if_neg h2,if_neg h2,if_neg (by decide)]
def voV(l:List Int):Vt:=if BW (l.drop 12)=0 then⟨Ab l 0,⟨Ab l 4,Ab l 8⟩,YE (l.drop 12)⟩else⟨0,⟨0,0⟩,⟨0,0,0,0,0⟩⟩
theorem aT{l:List Int}(h:BW (l.drop 12)=0):∃ m0 m1 m2 m3 m4:Int,Jz (l.drop 12)=#[.int .i64 m0,.int .i64 m1,.int .i64 m2,.int .i64 m3,.int .i64 m4]∧voV l=⟨Ab l 0,⟨Ab l 4,Ab l 8⟩,⟨m0,m1,m2,m3,m4⟩⟩:=by
 refine⟨Ab (l.drop 12) 0,Ab (l.drop 12) 4,Ab (l.drop 12) 8,Ab (l.drop 12) 12,Ab (l.drop 12) 16,?_,?_⟩
 ·unfold Jz;rw[if_pos h];rfl
 ·unfold voV;rw[if_pos h];rfl
theorem aS{l:List Int}(h:¬ BW (l.drop 12)=0):Jz (l.drop 12)=zV5∧voV l=⟨0,⟨0,0⟩,⟨0,0,0,0,0⟩⟩:=by
 unfold voV Jz;rw[if_neg h,if_neg h];exact⟨rfl,rfl⟩
theorem PK(b:List Int)(h:BW (b.drop 13)=0):voV (b.drop 1)=EY b:=by
 unfold voV EY;rw[List.drop_drop,if_pos h,CU,CU,CU]
theorem Ka(b:List Int):(⟨Ab (b.drop 1) 0,Ab (b.drop 1) 4⟩:Bal)=Fl b:=by
 unfold Fl;rw[CU,CU]
def F9(d:List Int)(s:Int):Acc:=if AX d s then(DM d).2 else a0
def LT(d:List Int)(s:Int):Int:=if AX d s then((DM d).1:Int)else 0
def I7(d:List Int)(s:Int):List Int:=if AX d s then d.take (DM d).1 else[]
def KY(d:List Int)(s:Int):Int:=if AX d s then(if((DM d).1:Int)<s then((DM d).1:Int)else s)else 0
end
section
def GO(d:List Int)(s:Int)(k:Nat):Int:=if ¬ AX d s then 5 else if 100000<d.length+k then 8 else 0
def CD(d:List Int)(s:Int)(may:Prop)[Decidable may] (b:List Int):Int:=if GO d s (b.length+5)≠0 then GO d s (b.length+5)else if may then 0 else 2
def EX(d:List Int)(s:Int)(may:Prop)[Decidable may] (b:List Int):List Int:=if CD d s may b=0 then d++AF b else[]
def FN(d:List Int)(s:Int)(may:Prop)[Decidable may] (b:List Int):Int:=if CD d s may b=0 then s else 0
theorem ZL(b:Bal):BG a0 b=if Ad b then 0 else 2:=by
 have h0:Ao a0:=⟨.inr ⟨rfl,rfl⟩,fun v hv=>(List.not_mem_nil hv).elim,trivial⟩;unfold BG;rw[if_neg (fun g=>g h0)];by_cases h:Ad b
 ·rw[if_neg (fun g=>g h),if_pos h,if_neg];intro g;unfold Ad at h;unfold Bal.lt a0 at g;simp only at g;omega
 ·rw[if_pos h,if_neg h]
theorem aU(v:Vt):AT a0 v=if Aj v then 0 else 2:=by
 have h0:Ao a0:=⟨.inr ⟨rfl,rfl⟩,fun v hv=>(List.not_mem_nil hv).elim,trivial⟩;unfold AT;rw[if_neg (fun g=>g h0)];by_cases h:Aj v
 ·rw[if_neg (fun g=>g h),if_pos h,if_neg];intro g;have hb:=h.2.1;unfold Ad at hb;unfold Bal.lt a0 at g;simp only at g;omega
 ·rw[if_pos h,if_neg h]
end
section
open Go.RowKit
def Bl{α:Type}(f:Nat→α)(i:Nat)(x:α):Nat→α:=fun j=>if j=i then x else f j
structure Sto where
 V:Nat→Int
 L:Nat→Int
 C:Nat→Int
 A:Nat→Int
 R:Nat→Bool
def FF:Sto:=⟨fun _=>0,fun _=>0,fun _=>0,fun _=>0,fun _=>false⟩
def ClB(l c a:Int):Prop:=(0≤l∧l≤1048577)∧(l=0→c=0∧a=0)
instance (l c a:Int):Decidable (ClB l c a):=by unfold ClB;exact inferInstance
def VaB(v:Int):Prop:=0≤v∧v≤1073741824
instance (v:Int):Decidable (VaB v):=by unfold VaB;exact inferInstance
def SY(s:Sto):Prop:=(∀ i,i<8→VaB (s.V i))∧∀ i,i<8→ClB (s.L i) (s.C i) (s.A i)
noncomputable instance (s:Sto):Decidable (SY s):=Classical.propDecidable _
noncomputable def LX(s:Sto):Int:=if SY s then 0 else 5
theorem aA{s:Sto}(h:SY s):LX s=0:=if_pos h
theorem JP{s:Sto}(h:¬ SY s):LX s=5:=if_neg h
def LO(s:Sto)(m:Cmd):Int:=if m.k=1 then m.v else if m.k=2 then s.V m.n.toNat else 0
def Nx(s:Sto)(m:Cmd):Sto :=
 ⟨if m.k=1 then Bl s.V m.n.toNat m.v else s.V,Bl s.L m.c.toNat (m.s+1),Bl s.C m.c.toNat 0,Bl s.A m.c.toNat (LO s m),if m.k=3 then Bl s.R m.n.toNat true else s.R⟩
def dnS(s:Sto)(m:Cmd):Sto:=if m.k≠0∧¬ m.s<s.L m.c.toNat∧s.R m.c.toNat=false then Nx s m else s
def dnC(s:Sto)(m:Cmd):Int :=
 if m.k=0 then 0 else if s.L m.c.toNat=m.s+1 then s.C m.c.toNat else if m.s<s.L m.c.toNat then 7 else if s.R m.c.toNat=true then 11 else 0
def dnA(s:Sto)(m:Cmd):Int :=
 if m.k=0 then 0 else if s.L m.c.toNat=m.s+1 then s.A m.c.toNat else if m.s<s.L m.c.toNat then 0 else if s.R m.c.toNat=true then 0 else LO s m
noncomputable def doE(s:Sto)(m:Cmd):Int:=if SY s then m.e else 5
noncomputable def doS(s:Sto)(m:Cmd):Sto:=if doE s m=0 then dnS s m else FF
noncomputable def doC(s:Sto)(m:Cmd):Int:=if doE s m=0 then dnC s m else 0
noncomputable def doA(s:Sto)(m:Cmd):Int:=if doE s m=0 then dnA s m else 0
theorem cW{s:Sto}{m:Cmd}(h:doE s m=0):doS s m=dnS s m:=if_pos h
theorem cS{s:Sto}{m:Cmd}(h:doE s m=0):doC s m=dnC s m:=if_pos h
theorem cR{s:Sto}{m:Cmd}(h:doE s m=0):doA s m=dnA s m:=if_pos h
theorem V8{s:Sto}{m:Cmd}(h:doE s m≠0):doS s m=FF:=if_neg h
theorem V5{s:Sto}{m:Cmd}(h:doE s m≠0):doC s m=0:=if_neg h
theorem Y8{m:Cmd}(h:m.e=0):(0≤m.k∧m.k≤3)∧InC m.c m.s m.n m.v:=Es h
end
section
def cP(Q:Nat→Bool):Nat:=(Q 0).toNat+(Q 1).toNat+(Q 2).toNat+(Q 3).toNat+(Q 4).toNat
end
section
def upN{α:Type}(f:Nat→α)(n:Nat)(x:α):Nat→α:=fun i=>if i=n then x else f i
theorem Yb{α:Type}(f:Nat→α)(n:Nat)(x:α):upN f n x n=x:=if_pos rfl
theorem ez{α:Type}(f:Nat→α){n i:Nat}(x:α)(h:i≠n):upN f n x i=f i:=if_neg h
end
section
end
section
def CB:Bal:=⟨0,0⟩
def LB:Cmd:=⟨0,0,0,0,0⟩
def vtz:Vt:=⟨0,CB,LB⟩
def Eb:Acc:=⟨CB,[]⟩
structure Let where
 kind:Nat
 src:Nat
 dst:Nat
 bal:Bal
 vote:Vt
 votes:List Vt
 slot:Nat
 what:List Cmd
def Cm(k:Nat):Let:=⟨k,0,0,CB,vtz,[],0,[]⟩
inductive Pend where
 | began (b:Bal) (vs:List Vt)
 | prom (to:Nat) (b:Bal) (vs:List Vt)
 | voted (to:Nat) (v:Vt)
 | refuse (to:Nat) (b:Bal)
 | prop (v:Vt)
 | askNews (to:Nat)
 | start
 | tell (to:Nat) (slot:Nat)
structure Rnd where
 bal:Bal
 pro:Nat→Bool
 heard:Nat→Acc
 taught:Nat→Nat
 next:Nat
 queue:List Cmd
def dU:Rnd:=⟨CB,fun _=>false,fun _=>Eb,fun _=>0,0,[]⟩
structure Tol where
 n:Nat
 c:Int
 s:Int
 e:Int
 a:Int
structure Nod where
 up:Bool
 d:List Int
 sy:Int
 bad:Nat
 vo:Acc
 pend:List Pend
 rounds:Int
 rnd:Rnd
 agreed:List Cmd
 done:Nat
 sto:Sto
 wants:List Cmd
 asked:Cmd→Option Bal
structure Meet where
 node:Nat→Nod
 lets:List Let
 told:List Tol
def Nod.bare(N:Nod)(up:Bool)(d:List Int)(sy:Int)(vo:Acc)(p:List Pend):Nod :=
 ⟨up,d,sy,N.bad,vo,p,0,dU,[],0,FF,[],fun _=>none⟩
def CO:Nod:=⟨true,[],0,0,Eb,[],0,dU,[],0,FF,[],fun _=>none⟩
def BR:Meet:=⟨fun _=>CO,[],[]⟩
def Meet.put(M:Meet)(i:Nat)(N:Nod):Meet:={ M with node:=upN M.node i N }
def Nod.promise(N:Nod)(b:Bal):Nod × List Vt × Int :=
 if BG N.vo b≠0 then(N,[],BG N.vo b)
 else if b=N.vo.p then({ N with vo:=⟨b,N.vo.vs⟩ },N.vo.vs,0)
 else if CD N.d N.sy (Ad b) (Bk b)≠0 then(N,[],CD N.d N.sy (Ad b) (Bk b))
 else({ N with d:=EX N.d N.sy (Ad b) (Bk b),sy:=FN N.d N.sy (Ad b) (Bk b),vo:=⟨b,N.vo.vs⟩ },N.vo.vs,0)
def Nod.vote(N:Nod)(v:Vt):Nod × Int :=
 if AT N.vo v≠0 then(N,AT N.vo v)
 else if v∈N.vo.vs then({ N with vo:=⟨v.b,Be N.vo.vs v⟩ },0)
 else if CD N.d N.sy (Aj v) (AZ v)≠0 then(N,CD N.d N.sy (Aj v) (AZ v))
 else({ N with d:=EX N.d N.sy (Aj v) (AZ v),sy:=FN N.d N.sy (Aj v) (AZ v),vo:=⟨v.b,Be N.vo.vs v⟩ },0)
def Nod.wait(N:Nod)(p:Pend):Nod:={ N with pend:=N.pend++[p] }
def Nod.refuse(N:Nod)(to:Nat)(e:Int):Nod:=if e=7 then N.wait (.refuse to N.vo.p)else N
def Nod.leads(N:Nod):Bool:=decide (N.rnd.bal≠CB∧N.rnd.bal=N.vo.p)
def Rnd.enough(r:Rnd):Bool:=decide (5<2*cP r.pro)
def Gu(a:Acc):List Vt→Acc
 | []=>a
 | v::l=>Gu (if AT a v=0 then⟨Cj a v,Dd a v⟩else a) l
def Rnd.hear(r:Rnd)(j:Nat)(vs:List Vt):Rnd:={ r with pro:=upN r.pro j true,heard:=upN r.heard j (Gu ⟨r.bal,vs⟩ (r.heard j).vs) }
def Rnd.accs(r:Rnd):List Acc:=[r.heard 0,r.heard 1,r.heard 2,r.heard 3,r.heard 4]
def K9:Nat→Rnd→List Cmd→List Cmd
 | 0,_,l=>l
 | k+1,r,l=>if CR r.accs (l.length:Int)=0 then K9 k r (l++[Ck r.accs (l.length:Int)])else l
def Nod.learnC(N:Nod):Nod:={ N with agreed:=K9 41 N.rnd N.agreed }
def Nod.learn(N:Nod)(slot:Nat)(what:List Cmd):Nod:={ N with agreed:=N.agreed++what.drop (N.agreed.length-slot) }
def Nod.count(N:Nod)(j:Nat)(v:Vt):Nod :=
 if v.b≠N.rnd.bal then N
 else if AT (N.rnd.heard j) v≠0 then N
 else Nod.learnC { N with rnd:={ N.rnd with heard:=upN N.rnd.heard j ⟨Cj (N.rnd.heard j) v,Dd (N.rnd.heard j) v⟩ } }
def LG(q:List Cmd):List Cmd→List Cmd
 | []=>q
 | c::l=>LG (if q.length<40∧c∉q then q++[c]else q) l
def Nod.enqueue(N:Nod)(what:List Cmd):Nod:=if N.leads then{ N with rnd:={ N.rnd with queue:=LG N.rnd.queue what } }else N
def Em(f:Cmd→Option Bal)(c:Cmd)(b:Option Bal):Cmd→Option Bal:=fun x=>if x=c then b else f x
def Nod.want(N:Nod)(c:Cmd):Nod:=if(N.asked c).isSome then N else{ N with wants:=N.wants++[c],asked:=Em N.asked c (some CB) }
def Nod.unwant(N:Nod)(c:Cmd):Nod:=if(N.asked c).isSome then{ N with wants:=N.wants.erase c,asked:=Em N.asked c none }else N
def CN(b:Bal)(f:Cmd→Option Bal):List Cmd→List Cmd × (Cmd→Option Bal)
 | []=>([],f)
 | c::l=>if(f c).getD CB≠b then(c::(CN b (Em f c (some b)) l).1,(CN b (Em f c (some b)) l).2)else CN b f l
def Nod.take(N:Nod)(l:Let):Nod :=
 match l.kind with
 | 0=>if(N.promise l.bal).2.2≠0 then N.refuse l.src (N.promise l.bal).2.2 else(N.promise l.bal).1.wait (.prom l.src l.bal (N.promise l.bal).2.1)
 | 1=>let K:=N.learn 0 l.what
  if K.leads=false∨l.bal≠K.rnd.bal∨K.rnd.pro l.src=true then K
  else Nod.learnC { K with rnd:={ K.rnd.hear l.src l.votes with taught:=upN K.rnd.taught l.src l.what.length } }
 | 2=>{ N with rounds:=max N.rounds l.bal.r }
 | 3=>if(N.vote l.vote).2≠0 then N.refuse l.src (N.vote l.vote).2 else(N.vote l.vote).1.wait (.voted l.src l.vote)
 | 4=>N.count l.src l.vote
 | 5=>if N.agreed.length<l.slot then N.wait (.askNews l.src)else N.learn l.slot l.what
 | 6=>let K:=N.enqueue l.what
  if l.slot<K.agreed.length then K.wait (.tell l.src l.slot)else K
 | _=>N
def Meet.come(M:Meet)(l:Let):Meet:=if(M.node l.dst).up then M.put l.dst ((M.node l.dst).take l)else M
def Nod.nextC(N:Nod)(slot:Nat):Option Cmd :=
 if C1 (N.rnd.accs.map (·.vs)) (slot:Int)≠0 then none
 else if F7 (N.rnd.accs.map (·.vs)) (slot:Int)then some (Gx (N.rnd.accs.map (·.vs)) (slot:Int))
 else N.rnd.queue.find? fun c=>decide (c∉N.agreed)
def Nod.propose(N:Nod):Nod :=
 if N.leads=false∨N.rnd.enough=false∨N.agreed.length<N.rnd.next then N
 else match N.nextC N.agreed.length with
  | none=>N
  | some c =>
   if(N.vote ⟨(N.agreed.length:Int),N.rnd.bal,c⟩).2≠0 then N
   else Nod.wait { (N.vote ⟨(N.agreed.length:Int),N.rnd.bal,c⟩).1 with rnd:={ N.rnd with next:=N.agreed.length+1 } } (.prop ⟨(N.agreed.length:Int),N.rnd.bal,c⟩)
def Nod.lead(N:Nod)(i:Nat):Nod :=
 let b:Bal:=⟨max N.rounds N.vo.p.r+1,(i:Int)⟩
 if(N.promise b).2.2≠0 then N
 else Nod.wait { (N.promise b).1 with rnd:=⟨b,fun _=>false,fun _=>Eb,fun _=>N.agreed.length,0,[]⟩ } (.began b (N.promise b).2.1)
def Nod.crash(N:Nod)(k:Int):Nod:=if Ge N.d N.sy k≠0 then N else N.bare false (Jx N.d N.sy k) (Jy N.d N.sy k) Eb []
def Nod.start(N:Nod):Nod :=
 if CK N.d N.sy≠0 then N
 else if LT N.d N.sy<(N.d.length:Int)then N.bare true (I7 N.d N.sy) (KY N.d N.sy) (F9 N.d N.sy) [.start]
 else N.bare true N.d N.sy (F9 N.d N.sy) [.start]
def Meet.move(M:Meet)(k:Int)(at_:Nat):Meet :=
 match M.lets[at_%M.lets.length]? with
 | none=>M
 | some l =>
  let A:=if k≠6 then{ M with lets:=M.lets.eraseIdx (at_%M.lets.length) }else M
  if k≠5 then A.come l else A
def Meet.comeAll(M:Meet):Meet:=M.lets.foldl (fun M l=>M.come l) { M with lets:=[] }
end
section
open Go.RowKit
def stA(s:Sto):Array Value:=#[.int .i64 (s.V 0),.int .i64 (s.V 1),.int .i64 (s.V 2),.int .i64 (s.V 3),.int .i64 (s.V 4),.int .i64 (s.V 5),.int .i64 (s.V 6),.int .i64 (s.V 7),.int .i64 (s.L 0),.int .i64 (s.L 1),.int .i64 (s.L 2),.int .i64 (s.L 3),.int .i64 (s.L 4),.int .i64 (s.L 5),.int .i64 (s.L 6),.int .i64 (s.L 7),.int .i64 (s.C 0),.int .i64 (s.A 0),.int .i64 (s.C 1),.int .i64 (s.A 1),.int .i64 (s.C 2),.int .i64 (s.A 2),.int .i64 (s.C 3),.int .i64 (s.A 3),.int .i64 (s.C 4),.int .i64 (s.A 4),.int .i64 (s.C 5),.int .i64 (s.A 5),.int .i64 (s.C 6),.int .i64 (s.A 6),.int .i64 (s.C 7),.int .i64 (s.A 7),.bool (s.R 0),.bool (s.R 1),.bool (s.R 2),.bool (s.R 3),.bool (s.R 4),.bool (s.R 5),.bool (s.R 6),.bool (s.R 7)]
theorem gg(s:Sto)(i:Nat)(h:i<8):(stA s)[i]?=some (.int .i64 (s.V i)):=by
 rcases(by omega:i=0∨i=1∨i=2∨i=3∨i=4∨i=5∨i=6∨i=7)with rfl|rfl|rfl|rfl|rfl|rfl|rfl|rfl<;>rfl
theorem gf(s:Sto)(i:Nat)(h:i<8):(stA s)[8+i]?=some (.int .i64 (s.L i)):=by
 rcases(by omega:i=0∨i=1∨i=2∨i=3∨i=4∨i=5∨i=6∨i=7)with rfl|rfl|rfl|rfl|rfl|rfl|rfl|rfl<;>rfl
theorem ge(s:Sto)(i:Nat)(h:i<8):(stA s)[16+i*2]?=some (.int .i64 (s.C i)):=by
 rcases(by omega:i=0∨i=1∨i=2∨i=3∨i=4∨i=5∨i=6∨i=7)with rfl|rfl|rfl|rfl|rfl|rfl|rfl|rfl<;>rfl
theorem gd(s:Sto)(i:Nat)(h:i<8):(stA s)[16+i*2+1]?=some (.int .i64 (s.A i)):=by
 rcases(by omega:i=0∨i=1∨i=2∨i=3∨i=4∨i=5∨i=6∨i=7)with rfl|rfl|rfl|rfl|rfl|rfl|rfl|rfl<;>rfl
def Bs(w:World)(g:Nat)(s:Sto):Prop:=w.heap[g]?=some (.cells (stA s) 104)
theorem Bs.cellV{w:World}{g:Nat}{s:Sto}(h:Bs w g s)(i:Nat)(hi:i<8):w.cell? ⟨g,i,none⟩=some (.int .i64 (s.V i)):=(cell_of_row _ _ i _ _ _ h).trans (gg s i hi)
theorem Bs.cellL{w:World}{g:Nat}{s:Sto}(h:Bs w g s)(i:Nat)(hi:i<8):w.cell? ⟨g,8+i,none⟩=some (.int .i64 (s.L i)):=(cell_of_row _ _ (8+i) _ _ _ h).trans (gf s i hi)
theorem Bs.cellC{w:World}{g:Nat}{s:Sto}(h:Bs w g s)(i:Nat)(hi:i<8):w.cell? ⟨g,16+i*2,none⟩=some (.int .i64 (s.C i)):=(cell_of_row _ _ (16+i*2) _ _ _ h).trans (ge s i hi)
theorem Bs.cellA{w:World}{g:Nat}{s:Sto}(h:Bs w g s)(i:Nat)(hi:i<8):w.cell? ⟨g,16+i*2+1,none⟩=some (.int .i64 (s.A i)):=(cell_of_row _ _ (16+i*2+1) _ _ _ h).trans (gd s i hi)
theorem dz(a b a' b':Int):∀ w,(binOp .neq 100 (.agg #[.int .i64 a,.int .i64 b]) (.agg #[.int .i64 a',.int .i64 b'])).run prog w=.ok (.bool (!decide (a=a'∧b=b'))) w:=by
 intro w;rw[run_neq_struct,run_equalIn_agg w 9999 _ _ _ (by kernel_rfl) (by kernel_rfl)];unfold Program.fieldsOf;rw[underlying100];have h3:=underlying3;have hE:=underlying41;simp[Op.eqFields,go_sem,h3,hE]
 repeat' split
 all_goals simp_all
theorem Zu(a b:Int):∀ w,(binOp .neq 100 (.agg #[.int .i64 a,.int .i64 b]) (.agg #[.int .i64 0,.int .i64 0])).run prog w=.ok (.bool (!decide (a=0∧b=0))) w:=dz a b 0 0
def vaL(f:Nat→Int):List Value:=[.int .i64 (f 0),.int .i64 (f 1),.int .i64 (f 2),.int .i64 (f 3),.int .i64 (f 4),.int .i64 (f 5),.int .i64 (f 6),.int .i64 (f 7)]
def vaA(f:Nat→Int):Array Value:=(vaL f).toArray
theorem Yg(f:Nat→Int)(j:Nat)(u:Value)(h:(vaL f)[j]?=some u):j<8∧u=.int .i64 (f j):=by
 have hj:j<8:=(List.getElem?_eq_some_iff.1 h).1;refine⟨hj,?_⟩;rcases(by omega:j=0∨j=1∨j=2∨j=3∨j=4∨j=5∨j=6∨j=7)with rfl|rfl|rfl|rfl|rfl|rfl|rfl|rfl<;>(simp[vaL]at h;exact h.symm)
theorem Bs.rangeV{w:World}{g:Nat}{s:Sto}(h:Bs w g s):w.rangeAt g 0 (vaL s.V):=by
 intro j u hj;obtain⟨h1,rfl⟩:=Yg _ _ _ hj;rw[Nat.zero_add];exact h.cellV j h1
theorem Bs.rangeL{w:World}{g:Nat}{s:Sto}(h:Bs w g s):w.rangeAt g 8 (vaL s.L):=by
 intro j u hj;obtain⟨h1,rfl⟩:=Yg _ _ _ hj;exact h.cellL j h1
theorem eC(f:Nat→Int):(prog.info? 98).map (·.size)=some (vaL f).length:=by show _=some 8;kernel_rfl
theorem FM{ops:Array Oper}{rest:List Oper}{op:Oper}{a:Act}{w:World}{Q:Exit→Act→World→Prop}(hgd:op.guard=none)(x:Operand)(ho:op.op=.load 98 x)
  (b o:Nat)(hx:a.eval x=.pointer (some ⟨b,o,none⟩))(f:Nat→Int)(hc:w.rangeAt b o (vaL f))
  (h:wpList prog ops Q rest (a.put op.dst (.agg (vaA f))) w):wpList prog ops Q (op::rest) a w :=
 wpList_load_mid hgd 98 x ho b o hx (vaL f) _ hc underlying98 rfl (eC f) h
theorem SO(f:Nat→Int)(i:Nat)(hi:i<8)(w:World):(Instr.index 98 (.agg (vaA f)) (.int .i64 (i:Int))).run prog w=.ok (.int .i64 (f i)) w:=by
 rcases(by omega:i=0∨i=1∨i=2∨i=3∨i=4∨i=5∨i=6∨i=7)with rfl|rfl|rfl|rfl|rfl|rfl|rfl|rfl<;>kernel_rfl
structure NX where
 tape:S3
 votes:S3
 synced:S3
 queue:S3
 agreed:S3
 wants:S3
 hv:Nat→S3
 asked:Option Nat
def AA(i ob:Nat)(p:Nod)(x:NX):Array Value:=([iv (i:Int),.bool p.up,S3.v x.tape,iv p.sy,iv (p.bad:Int),pt ob 0,iv p.vo.p.r,iv p.vo.p.n,S3.v x.votes,S3.v x.synced,iv p.rounds,iv p.rnd.bal.r,iv p.rnd.bal.n,.bool (p.rnd.pro 0),.bool (p.rnd.pro 1),.bool (p.rnd.pro 2),.bool (p.rnd.pro 3),.bool (p.rnd.pro 4),iv ((p.rnd.heard 0).p.r),iv ((p.rnd.heard 0).p.n),S3.v (x.hv 0),iv ((p.rnd.heard 1).p.r),iv ((p.rnd.heard 1).p.n),S3.v (x.hv 1),iv ((p.rnd.heard 2).p.r),iv ((p.rnd.heard 2).p.n),S3.v (x.hv 2),iv ((p.rnd.heard 3).p.r),iv ((p.rnd.heard 3).p.n),S3.v (x.hv 3),iv ((p.rnd.heard 4).p.r),iv ((p.rnd.heard 4).p.n),S3.v (x.hv 4),iv (p.rnd.taught 0:Int),iv (p.rnd.taught 1:Int),iv (p.rnd.taught 2:Int),iv (p.rnd.taught 3:Int),iv (p.rnd.taught 4:Int),iv (p.rnd.next:Int),S3.v x.queue,S3.v x.agreed,iv (p.done:Int)]++((stA p.sto).toList++[S3.v x.wants,.map x.asked])).toArray
def EE(l:Let)(vs wh:S3):Array Value:=#[iv (l.kind:Int),iv (l.src:Int),iv (l.dst:Int),iv l.bal.r,iv l.bal.n,iv l.vote.slot,iv l.vote.b.r,iv l.vote.b.n,iv l.vote.w.k,iv l.vote.w.c,iv l.vote.w.s,iv l.vote.w.n,iv l.vote.w.v,S3.v vs,iv (l.slot:Int),S3.v wh]
def FG(t:Tol):List Value:=[iv (t.n:Int),iv t.c,iv t.s,iv t.e,iv t.a]
def cmV(c:Cmd):List Value:=[iv c.k,iv c.c,iv c.s,iv c.n,iv c.v]
def cmL(l:List Cmd):List Value:=l.flatMap cmV
theorem BQ(l m:List Cmd):cmL (l++m)=cmL l++cmL m:=by simp[cmL]
theorem Bp(l:List Cmd):(cmL l).length=l.length*5:=by
 induction l with
 | nil=>rfl
 | cons c l ih=>rw[cmL,List.flatMap_cons,List.length_append];show 5+(cmL l).length=_;rw[ih,List.length_cons];omega
theorem Nj(l:List Cmd):∀ u∈cmL l,u.oneCell'=true:=by
 intro u hu;obtain⟨c,_,hc⟩:=List.mem_flatMap.1 hu;simp only[cmV,List.mem_cons,List.not_mem_nil,or_false]at hc;rcases hc with rfl|rfl|rfl|rfl|rfl<;>rfl
theorem Ni{l:List Cmd}{k:Nat}{c:Cmd}(h:l[k]?=some c){j:Nat}{u:Value}(hj:(cmV c)[j]?=some u):(cmL l)[5*k+j]?=some u:=by
 induction l generalizing k with
 | nil=>cases h
 | cons d l ih =>
  rw[cmL,List.flatMap_cons];cases k with
  | zero =>
   simp only[List.getElem?_cons_zero,Option.some.injEq]at h;subst h;rw[List.getElem?_append_left (by have:=(List.getElem?_eq_some_iff.1 hj).1;omega)];simpa using hj
  | succ k =>
   rw[List.getElem?_append_right (by show 5≤_;omega),show 5*(k+1)+j-(cmV d).length=5*k+j by show 5*(k+1)+j-5=_;omega];exact ih (by simpa using h)
theorem Kg(l:List Cmd)(k:Nat):(cmL l).drop (5*k)=cmL (l.drop k):=by
 induction l generalizing k with
 | nil=>simp[cmL]
 | cons c l ih =>
  cases k with
  | zero=>simp
  | succ k =>
   show(cmV c++cmL l).drop (5*(k+1))=cmL (l.drop k);rw[← ih k,List.drop_append,show(cmV c).drop (5*(k+1))=[]from List.drop_eq_nil_of_le (by show 5≤_;omega),List.nil_append,show 5*(k+1)-(cmV c).length=5*k by show 5*(k+1)-5=_;omega]
def Frz(g:Gh)(x:S3):Prop:=∀ a,x.a=some a→g.t a.block=.z
structure FSl(g:Gh)(w:World)(x:S3)(l:List Int):Prop where
 s:Sl w x.v l
 z:l≠[]→Frz g x
structure FSv(g:Gh)(w:World)(x:S3)(l:List Vt):Prop where
 s:Sv w x.v l
 z:l≠[]→Frz g x
section
variable{B:Nat}{T:List Tg}{g g':Gh}{w w':World}
theorem Cg.zc(c:Cg B T g w g' w')(hz:Tg.z∉T){b:Nat}(hb:b<w.heap.size)(ht:g.t b=.z):w'.heap[b]?=w.heap[b]?:=c.same b hb (by rw[ht];exact hz) (fun h=>by rw[ht]at h;cases h)
theorem FSl.ch{x:S3}{l:List Int}(h:FSl g w x l)(c:Cg B T g w g' w')(hz:Tg.z∉T:=by simp):FSl g' w' x l:=by
 obtain⟨⟨⟨a,cap,hv,hc,hn,h1⟩,h2,h3⟩,h4⟩:=h;simp only[Value.slice.injEq]at hv;obtain⟨rfl,hxn,rfl⟩:=hv;rcases h1 with h1|⟨b,off,ha,hbs,hcell⟩
 ·exact⟨⟨⟨_,_,by simp only[Value.slice.injEq,and_true,true_and];exact hxn,hc,hn,.inl h1⟩,h2,h3⟩,fun h=>absurd h1 h⟩
 ·have hne:∀ _:l≠[],g.t b=.z:=fun h=>h4 h _ ha;by_cases hl:l=[]
  ·exact⟨⟨⟨_,_,by simp only[Value.slice.injEq,and_true,true_and];exact hxn,hc,hn,.inl hl⟩,h2,h3⟩,fun h=>absurd hl h⟩
  ·refine⟨⟨⟨_,_,by simp only[Value.slice.injEq,and_true,true_and];exact hxn,hc,hn,.inr ⟨b,off,ha,Nat.lt_of_lt_of_le hbs c.size,fun i hi=>?_⟩⟩,h2,h3⟩,fun _ a' ha'=>?_⟩
   ·rw[World.cell?_of_block (w:=w) (c.zc hz hbs (hne hl))];exact hcell i hi
   ·rw[ha]at ha';simp only[Option.some.injEq]at ha';subst ha';rw[c.tag hbs (fun h=>absurd ((hne hl).symm.trans h) (by simp))];exact hne hl
theorem FSv.ch{x:S3}{l:List Vt}(h:FSv g w x l)(c:Cg B T g w g' w')(hz:Tg.z∉T:=by simp):FSv g' w' x l:=by
 obtain⟨⟨⟨a,cap,hv,hc,hn,h1⟩,h2⟩,h4⟩:=h;simp only[Value.slice.injEq]at hv;obtain⟨rfl,hxn,rfl⟩:=hv;rcases h1 with h1|⟨b,off,ha,hbs,hcell⟩
 ·exact⟨⟨⟨_,_,by simp only[Value.slice.injEq,and_true,true_and];exact hxn,hc,hn,.inl h1⟩,h2⟩,fun h=>absurd h1 h⟩
 ·by_cases hl:l=[]
  ·exact⟨⟨⟨_,_,by simp only[Value.slice.injEq,and_true,true_and];exact hxn,hc,hn,.inl hl⟩,h2⟩,fun h=>absurd hl h⟩
  ·have hzb:g.t b=.z:=h4 hl _ ha;refine⟨⟨⟨_,_,by simp only[Value.slice.injEq,and_true,true_and];exact hxn,hc,hn,.inr ⟨b,off,ha,Nat.lt_of_lt_of_le hbs c.size,fun i v hi j u hj=>?_⟩⟩,h2⟩,fun _ a' ha'=>?_⟩
   ·rw[World.cell?_of_block (w:=w) (c.zc hz hbs hzb)];exact hcell i v hi j u hj
   ·rw[ha]at ha';simp only[Option.some.injEq]at ha';subst ha';rw[c.tag hbs (fun h=>absurd (hzb.symm.trans h) (by simp))];exact hzb
structure Rc(g:Gh)(w:World)(x:S3)(l:List Cmd):Prop where
 len:x.n=l.length
 cap:x.n≤x.c
 nul:x.a=none→x.c=0
 ex:l=[]∨∃ b off,x.a=some ⟨b,off,none⟩∧b<w.heap.size∧(∀ j u,(cmL l)[j]?=some u→w.cell? ⟨b,off+j,none⟩=some u)∧(g.t b=.z∨off+5*l.length≤g.k b)
theorem Rc.nil(g:Gh)(w:World):Rc g w s30 []:=⟨rfl,Nat.le_refl _,fun _=>rfl,.inl rfl⟩
theorem Rc.ch{x:S3}{l:List Cmd}(h:Rc g w x l)(c:Cg B T g w g' w')(hz:Tg.z∉T:=by simp):Rc g' w' x l:=by
 refine⟨h.len,h.cap,h.nul,?_⟩;rcases h.ex with h1|⟨b,off,h1,h2,h3,h4⟩
 ·exact .inl h1
 ·refine .inr ⟨b,off,h1,Nat.lt_of_lt_of_le h2 c.size,fun j u hj=>?_,?_⟩
  ·rcases h4 with h4|h4
   ·rw[World.cell?_of_block (w:=w) (c.zc hz h2 h4)];exact h3 j u hj
   ·have hjl:j<(cmL l).length:=(List.getElem?_eq_some_iff.1 hj).1;rw[Bp]at hjl
    rw[c.pref b h2 (off+j) (by omega)];exact h3 j u hj
  ·rcases h4 with h4|h4
   ·exact .inl ((c.tag h2 (by rw[h4];intro h;cases h)).trans h4)
   ·exact .inr (Nat.le_trans h4 (c.kap b h2))
structure Box(g:Gh)(w:World)(b:Nat)(cs:Array Value)(t:TypeId):Prop where
 r:w.heap[b]?=some (.cells cs t)
 z:g.t b=.z
theorem Box.ch{b:Nat}{cs:Array Value}{t:TypeId}(h:Box g w b cs t)(c:Cg B T g w g' w')(hz:Tg.z∉T:=by simp):Box g' w' b cs t:=⟨(c.zc hz (rl h.r) h.z).trans h.r,(c.tag (rl h.r) (by rw[h.z];intro h;cases h)).trans h.z⟩
def Ci(g:Gh)(w:World)(b:Nat)(l:Let):Prop:=∃ vs wh,Box g w b (EE l vs wh) 165∧FSv g w vs l.votes∧Rc g w wh l.what
theorem Ci.ch{b:Nat}{l:Let}(h:Ci g w b l)(c:Cg B T g w g' w')(hz:Tg.z∉T:=by simp):Ci g' w' b l:=let ⟨vs,wh,h1,h2,h3⟩:=h;⟨vs,wh,h1.ch c hz,h2.ch c hz,h3.ch c hz⟩
def JV(g:Gh)(w:World)(nb:Nat)(v:Value):Pend→Prop
 | .began b vs=>∃ b1 b2 b3 x,v=.func (.func 75) #[] #[pt b1 0,pt b2 0,pt b3 0]∧Box g w b1 #[pt nb 0] 85∧Box g w b2 #[iv b.r,iv b.n] 90∧Box g w b3 #[S3.v x] 91∧FSv g w x vs
 | .prom to b vs=>∃ b1 b2 b3 x lb l,v=.func (.func 101) #[] #[pt b1 0,pt b2 0,pt b3 0]∧Box g w b1 #[pt nb 0] 85∧Box g w b2 #[pt lb 0] 166∧Box g w b3 #[S3.v x] 91∧FSv g w x vs∧Ci g w lb l∧l.src=to∧l.bal=b
 | .voted to u=>∃ b1 b2 lb l,v=.func (.func 107) #[] #[pt b1 0,pt b2 0]∧Box g w b1 #[pt nb 0] 85∧Box g w b2 #[pt lb 0] 166∧Ci g w lb l∧l.src=to∧l.vote=u
 | .refuse to b=>∃ b1 b2 b3,v=.func (.func 141) #[] #[pt b1 0,pt b2 0,pt b3 0]∧Box g w b1 #[pt nb 0] 85∧Box g w b2 #[iv (to:Int)] 3∧Box g w b3 #[iv b.r,iv b.n] 90
 | .prop u=>∃ b1 b2,v=.func (.func 122) #[] #[pt b1 0,pt b2 0]∧Box g w b1 #[pt nb 0] 85∧Box g w b2 (vtA u) 163
 | .askNews to=>∃ b1 b2 lb l,v=.func (.func 109) #[] #[pt b1 0,pt b2 0]∧Box g w b1 #[pt nb 0] 85∧Box g w b2 #[pt lb 0] 166∧Ci g w lb l∧l.src=to
 | .start=>∃ b1,v=.func (.func 88) #[] #[pt b1 0]∧Box g w b1 #[pt nb 0] 85
 | .tell to slot=>∃ b1 b2 lb l,v=.func (.func 111) #[] #[pt b1 0,pt b2 0]∧Box g w b1 #[pt nb 0] 85∧Box g w b2 #[pt lb 0] 166∧Ci g w lb l∧l.src=to∧l.slot=slot
theorem JV.ch{nb:Nat}{v:Value}{q:Pend}(h:JV g w nb v q)(c:Cg B T g w g' w')(hz:Tg.z∉T:=by simp):JV g' w' nb v q:=by
 cases q with
 | began b vs=>obtain⟨b1,b2,b3,x,e,h1,h2,h3,h4⟩:=h;exact⟨b1,b2,b3,x,e,h1.ch c hz,h2.ch c hz,h3.ch c hz,h4.ch c hz⟩
 | prom to b vs=>obtain⟨b1,b2,b3,x,lb,l,e,h1,h2,h3,h4,h5,h6⟩:=h;exact⟨b1,b2,b3,x,lb,l,e,h1.ch c hz,h2.ch c hz,h3.ch c hz,h4.ch c hz,h5.ch c hz,h6⟩
 | voted to u=>obtain⟨b1,b2,lb,l,e,h1,h2,h3,h4⟩:=h;exact⟨b1,b2,lb,l,e,h1.ch c hz,h2.ch c hz,h3.ch c hz,h4⟩
 | refuse to b=>obtain⟨b1,b2,b3,e,h1,h2,h3⟩:=h;exact⟨b1,b2,b3,e,h1.ch c hz,h2.ch c hz,h3.ch c hz⟩
 | prop u=>obtain⟨b1,b2,e,h1,h2⟩:=h;exact⟨b1,b2,e,h1.ch c hz,h2.ch c hz⟩
 | askNews to=>obtain⟨b1,b2,lb,l,e,h1,h2,h3,h4⟩:=h;exact⟨b1,b2,lb,l,e,h1.ch c hz,h2.ch c hz,h3.ch c hz,h4⟩
 | start=>obtain⟨b1,e,h1⟩:=h;exact⟨b1,e,h1.ch c hz⟩
 | tell to slot=>obtain⟨b1,b2,lb,l,e,h1,h2,h3,h4⟩:=h;exact⟨b1,b2,lb,l,e,h1.ch c hz,h2.ch c hz,h3.ch c hz,h4⟩
def mkA(x:Cmd × Bal × Nat):MapEntry:={ key:=.agg (cmV x.1).toArray,val:=.agg #[iv x.2.1.r,iv x.2.1.n],born:=x.2.2 }
structure AskAt(g:Gh)(w:World)(τ:Tg)(b:Nat)(f:Cmd→Option Bal):Prop where
 t:g.t b=τ
 k:g.k b=0
 ex:∃ (es:List (Cmd × Bal × Nat)) (clock:Nat),w.heap[b]?=some (.map (es.map mkA).toArray clock)∧(∀ x∈es,x.2.2<clock)∧(es.map (·.2.2)).Nodup∧(es.map (·.1)).Nodup∧∀ c,f c=(es.find? fun x=>decide (c=x.1)).map (·.2.1)
def UP(g:Gh)(w:World)(i:Nat)(f:Cmd→Option Bal):Option Nat→Prop
 | some b=>AskAt g w (.n 5 i) b f
 | none=>f=fun _=>none
structure Pends(g:Gh)(w:World)(nb:Nat)(vs:List Value)(l:List Pend):Prop where
 len:vs.length=l.length
 at_:∀ (k:Nat) (v:Value) (q:Pend),vs[k]?=some v→l[k]?=some q→JV g w nb v q
structure NodeAt(g:Gh)(w:World)(i nb ob:Nat)(x:NX)(p:Nod):Prop where
 row:w.heap[nb]?=some (.cells (AA i ob p x) 112)
 tag:g.t nb=.n 0 i
 kap:g.k nb=0
 tape:FSl g w x.tape p.d
 votes:FSv g w x.votes p.vo.vs
 heard:∀ j,j<5→FSv g w (x.hv j) (p.rnd.heard j).vs
 pend:∃ vs,OwnS g w (.n 1 i) true 1 1 x.synced vs∧Pends g w nb vs p.pend
 queue:OwnS g w (.n 2 i) false 37 5 x.queue (cmL p.rnd.queue)
 agreed:OwnS g w (.n 3 i) true 37 5 x.agreed (cmL p.agreed)
 wants:OwnS g w (.n 4 i) false 37 5 x.wants (cmL p.wants)
 asked:UP g w i p.asked x.asked
 upm:p.up=true→∃ b,x.asked=some b
structure Lets(g:Gh)(w:World)(bs:List Nat)(l:List Let):Prop where
 len:bs.length=l.length
 at_:∀ (k b:Nat) (m:Let),bs[k]?=some b→l[k]?=some m→Ci g w b m
structure OutAt(g:Gh)(w:World)(ob:Nat)(lt tl:S3)(ls:List Let)(ts:List Tol):Prop where
 row:w.heap[ob]?=some (.cells #[lt.v,tl.v] 82)
 tag:g.t ob=.n 50 0
 kap:g.k ob=0
 lets:∃ bs,OwnS g w (.n 51 0) false 166 1 lt (bs.map (pt · 0))∧Lets g w bs ls
 told:OwnS g w (.n 52 0) false 118 5 tl (ts.flatMap FG)
theorem Pends.ch{nb:Nat}{vs:List Value}{l:List Pend}(h:Pends g w nb vs l)(c:Cg B T g w g' w')(hz:Tg.z∉T:=by simp):Pends g' w' nb vs l:=⟨h.len,fun k v q h1 h2=>(h.at_ k v q h1 h2).ch c hz⟩
theorem Lets.ch{bs:List Nat}{l:List Let}(h:Lets g w bs l)(c:Cg B T g w g' w')(hz:Tg.z∉T:=by simp):Lets g' w' bs l:=⟨h.len,fun k v q h1 h2=>(h.at_ k v q h1 h2).ch c hz⟩
theorem Lets.snoc{bs:List Nat}{l:List Let}{b:Nat}{m:Let}(h:Lets g w bs l)(hm:Ci g w b m):Lets g w (bs++[b]) (l++[m]):=by
 refine⟨by simp[h.len],fun k c q h1 h2=>?_⟩;by_cases hk:k<bs.length
 ·rw[List.getElem?_append_left hk]at h1
  rw[List.getElem?_append_left (by rw[← h.len];exact hk)]at h2
  exact h.at_ k c q h1 h2
 ·rw[List.getElem?_append_right (by omega)]at h1
  rw[List.getElem?_append_right (by rw[← h.len];omega),← h.len]at h2
  cases hx:k-bs.length with
  | zero=>rw[hx]at h1 h2;simp at h1 h2;subst h1 h2;exact hm
  | succ n=>rw[hx]at h1;simp at h1
theorem Cg.rc(c:Cg B T g w g' w'){b:Nat}{o:Obj}{r i:Nat}(h:w.heap[b]?=some o)(ht:g.t b=.n r i)(hn:Tg.n r i∉T):w'.heap[b]?=some o∧g'.t b=.n r i∧g'.k b=g.k b :=
 ⟨(c.same b (rl h) (by rw[ht];exact hn) (fun h=>by rw[ht]at h;cases h)).trans h,(c.tag (rl h) (by rw[ht];intro h;cases h)).trans ht,c.kat b (rl h) (by rw[ht];exact hn) (by rw[ht];intro h;cases h)⟩
theorem AskAt.ch{r i b:Nat}{f:Cmd→Option Bal}(h:AskAt g w (.n r i) b f)(c:Cg B T g w g' w')(hn:Tg.n r i∉T:=by simp):AskAt g' w' (.n r i) b f:=by
 obtain⟨h1,h2,es,k,h3,h4⟩:=h;have h5:=c.rc h3 h1 hn;exact⟨h5.2.1,h5.2.2.trans h2,es,k,h5.1,h4⟩
theorem UP.ch{i:Nat}{a:Option Nat}{f:Cmd→Option Bal}(h:UP g w i f a)(c:Cg B T g w g' w')(hn:Tg.n 5 i∉T:=by simp):UP g' w' i f a:=by
 cases a with
 | none=>exact h
 | some b=>exact AskAt.ch h c hn
theorem NodeAt.ch{i nb ob:Nat}{x:NX}{p:Nod}(h:NodeAt g w i nb ob x p)(c:Cg B T g w g' w')(hz:Tg.z∉T:=by simp)(hn:∀ r,r<6→Tg.n r i∉T:=by simp):NodeAt g' w' i nb ob x p:=by
 have h1:=c.rc h.row h.tag (hn 0 (by omega));obtain⟨vs,h2,h3⟩:=h.pend;exact⟨h1.1,h1.2.1,h1.2.2.trans h.kap,h.tape.ch c hz,h.votes.ch c hz,fun j hj=>(h.heard j hj).ch c hz,⟨vs,h2.ch c (hn 1 (by omega)) (by simp),h3.ch c hz⟩,h.queue.ch c (hn 2 (by omega)) (by simp),h.agreed.ch c (hn 3 (by omega)) (by simp),h.wants.ch c (hn 4 (by omega)) (by simp),h.asked.ch c (hn 5 (by omega)),h.upm⟩
theorem OutAt.ch{ob:Nat}{lt tl:S3}{ls:List Let}{ts:List Tol}(h:OutAt g w ob lt tl ls ts)(c:Cg B T g w g' w')(hz:Tg.z∉T:=by simp)(hn:∀ r,50≤r→Tg.n r 0∉T:=by simp):OutAt g' w' ob lt tl ls ts:=by
 have h1:=c.rc h.row h.tag (hn 50 (by omega));obtain⟨bs,h2,h3⟩:=h.lets;exact⟨h1.1,h1.2.1,h1.2.2.trans h.kap,⟨bs,h2.ch c (hn 51 (by omega)) (by simp),h3.ch c hz⟩,h.told.ch c (hn 52 (by omega)) (by simp)⟩
end
def TN(i:Nat):List Tg:=[.n 0 i,.n 1 i,.n 2 i,.n 3 i,.n 4 i,.n 5 i,.n 50 0,.n 51 0,.n 52 0,.n 60 0]
theorem Bd(i:Nat):Tg.z∉TN i:=by simp[TN]
def NS(i nb ob:Nat)(g:Gh)(w:World)(p:Nod)(ls:List Let)(ts:List Tol):Prop:=∃ x lt tl,NodeAt g w i nb ob x p∧OutAt g w ob lt tl ls ts∧In g w
theorem nsC{B B':Nat}{T:List Tg}{g g':Gh}{w w':World}{i nb ob:Nat}{x:NX}{p:Nod}{lt tl:S3}{ls:List Let}{ts:List Tol}{L:List Sh}(hN:NodeAt g w i nb ob x p)(hO:OutAt g w ob lt tl ls ts)(C:Cg B T g w g' w')(K:Kn B' g' w' L)(hz:Tg.z∉T:=by simp)(hn:∀ r,r<6→Tg.n r i∉T:=by simp)(ho:∀ r,50≤r→Tg.n r 0∉T:=by simp):NS i nb ob g' w' p ls ts:=⟨x,lt,tl,hN.ch C hz hn,hO.ch C hz ho,K.new⟩
def NP(i nb ob:Nat)(g:Gh)(w:World)(v:Value)(p:Nod)(ls:List Let)(ts:List Tol):Ending→World→Prop:=fun e w'=>∃ g',e=.returned v∧NS i nb ob g' w' p ls ts∧Cg w.heap.size (TN i) g w g' w'
theorem NS.new{i nb ob:Nat}{g:Gh}{w:World}{p:Nod}{ls:List Let}{ts:List Tol}(h:NS i nb ob g w p ls ts):In g w:=let ⟨_,_,_,_,_,h⟩:=h;h
theorem NS.below{i nb ob:Nat}{g:Gh}{w w':World}{p:Nod}{ls:List Let}{ts:List Tol}(h:NS i nb ob g w p ls ts)(b:Bw w w'):NS i nb ob g w' p ls ts :=
 let ⟨x,lt,tl,h1,h2,h3⟩:=h
 have c:=Cg.ofBelow (B:=0) (T:=[]) (g:=g) b
 ⟨x,lt,tl,h1.ch c,h2.ch c,fun k hk=>h3 k (Nat.le_trans b.size hk)⟩
theorem NS.ch0{i nb ob:Nat}{B:Nat}{g g':Gh}{w w':World}{p:Nod}{ls:List Let}{ts:List Tol}(h:NS i nb ob g w p ls ts)(c:Cg B [] g w g' w')(hn:In g' w'):NS i nb ob g' w' p ls ts :=
 let ⟨x,lt,tl,h1,h2,_⟩:=h
 ⟨x,lt,tl,h1.ch c,h2.ch c,hn⟩
theorem NodeAt.askSome{g:Gh}{w:World}{i nb ob b:Nat}{x:NX}{p:Nod}(h:NodeAt g w i nb ob x p)(hx:x.asked=some b):AskAt g w (.n 5 i) b p.asked:=by have:=h.asked;rw[hx]at this;exact this
theorem BF{B:Nat}{T:List Tg}{g g':Gh}{w w':World}{i nb:Nat}{x:S3}{l:List Pend}(h:∃ vs,OwnS g w (.n 1 i) true 1 1 x vs∧Pends g w nb vs l)(c:Cg B T g w g' w')(hz:Tg.z∉T:=by simp)(hn:Tg.n 1 i∉T:=by simp):∃ vs,OwnS g' w' (.n 1 i) true 1 1 x vs∧Pends g' w' nb vs l :=
 let ⟨vs,h1,h2⟩:=h
 ⟨vs,h1.ch c hn (by simp),h2.ch c hz⟩
theorem Dq{B:Nat}{T:List Tg}{g g':Gh}{w w':World}{x:S3}{l:List Let}(h:∃ bs:List Nat,OwnS g w (.n 51 0) false 166 1 x (bs.map (pt · 0))∧Lets g w bs l)(c:Cg B T g w g' w')(hz:Tg.z∉T:=by simp)(hn:Tg.n 51 0∉T:=by simp):∃ bs:List Nat,OwnS g' w' (.n 51 0) false 166 1 x (bs.map (pt · 0))∧Lets g' w' bs l :=
 let ⟨bs,h1,h2⟩:=h
 ⟨bs,h1.ch c hn (by simp),h2.ch c hz⟩
theorem Bh{B:Nat}{T:List Tg}{g g':Gh}{w w':World}{hv:Nat→S3}{f:Nat→Acc}(h:∀ j,j<5→FSv g w (hv j) (f j).vs)(c:Cg B T g w g' w')(hz:Tg.z∉T:=by simp):∀ j,j<5→FSv g' w' (hv j) (f j).vs:=fun j hj=>(h j hj).ch c hz
theorem Pends.snoc{g:Gh}{w:World}{nb:Nat}{vs:List Value}{l:List Pend}{v:Value}{q:Pend}(h:Pends g w nb vs l)(hm:JV g w nb v q):Pends g w nb (vs++[v]) (l++[q]):=by
 refine⟨by simp[h.len],fun k c m h1 h2=>?_⟩;by_cases hk:k<vs.length
 ·rw[List.getElem?_append_left hk]at h1
  rw[List.getElem?_append_left (by rw[← h.len];exact hk)]at h2
  exact h.at_ k c m h1 h2
 ·rw[List.getElem?_append_right (by omega)]at h1
  rw[List.getElem?_append_right (by rw[← h.len];omega),← h.len]at h2
  cases hx:k-vs.length with
  | zero=>rw[hx]at h1 h2;simp at h1 h2;subst h1 h2;exact hm
  | succ n=>rw[hx]at h1;simp at h1
theorem OwnS.num{g:Gh}{w:World}{τ:Tg}{kp:Bool}{e:TypeId}{x:S3}{l:List Cmd}(h:OwnS g w τ kp e 5 x (cmL l)):x.n=l.length:=by have:=h.len;rw[Bp]at this;omega
theorem OwnS.rc{g:Gh}{w:World}{τ:Tg}{e:TypeId}{x:S3}{l:List Cmd}(h:OwnS g w τ true e 5 x (cmL l)):Rc g w x l:=by
 have hn:=h.num;rcases h.ex with⟨h1,h2,h3⟩|⟨b,cur,h1,h2,h3,h4,h5,h6,h7,h8⟩
 ·exact⟨hn,by omega,fun _=>h3,.inl (List.eq_nil_of_length_eq_zero (by omega))⟩
 ·refine⟨hn,h3,fun h=>(by rw[h1]at h;cases h),.inr ⟨b,0,h1,rl h2,fun j u hj=>?_,.inr ?_⟩⟩
  ·obtain⟨b',hb',_,hc⟩:=h.cell hj;rw[h1]at hb'
   simp only[Option.some.injEq,Addr.mk.injEq,and_true]at hb';subst hb';rw[Nat.zero_add];exact hc
  ·rw[h8,Bp];simp;omega
end
end Go.Proofs.YtfhbkoflaekhpabGreatDoor
