/- Part 3 of the walk. -/
import Derived.Laws.ResultCell
import Derived.Test.YtaeckakjdagddadGreatDoorZ2
set_option maxRecDepth 100000
set_option maxHeartbeats 4000000
open Go.Proofs.Tryz
namespace Go.Proofs.YtaeckakjdagddadGreatDoor
open Go.RowKit
def Ah(l:List Int):Array Value:=(l.map (Value.int .u64)).toArray
theorem Ak(l:List Int):(Ah l).size=l.length:=by simp[Ah]
theorem Ap(l:List Int)(i:Nat)(h:i<l.length):(Ah l)[i]?=some (.int .u64 (l.getD i 0)):=by
 simp[Ah,List.getD,List.getElem?_eq_getElem h]
theorem W8(l:List Int)(i:Nat)(x:Int):(Ah l).setIfInBounds i (.int .u64 x)=Ah (l.set i x):=by
 apply Array.ext';simp[Ah,List.map_set]
theorem DI{w:World}{g:Nat}{l:List Int}{t:TypeId}(h:w.heap[g]?=some (.cells (Ah l) t (0,0)))(k:Nat)(x:Int) :
  (w.setCell ⟨g,k,none⟩ (.int .u64 x)).heap[g]?=some (.cells (Ah (l.set k x)) t (0,0)):=by
 rw[heap_setCell_same _ _ _ _ _ _ h,W8]
theorem Bg(l:List Int):(Ah l).all (·.oneCell')=true:=by simp[Ah,Value.oneCell']
theorem Mj:∀ (S:List Int),S.length=5→∃ a b c d e,S=[a,b,c,d,e]
 | [a,b,c,d,e],_=>⟨a,b,c,d,e,rfl⟩
def val:List Int→Int
 | []=>0
 | x::l=>x+67108864*val l
def Lim(B:Int)(l:List Int):Prop:=l.length=5∧∀ j,0≤l.getD j 0∧l.getD j 0<B
theorem Lim.of5{B a b c d e:Int}(ha:0≤a∧a<B)(hb:0≤b∧b<B)(hc:0≤c∧c<B)(hd:0≤d∧d<B)(he:0≤e∧e<B):Lim B [a,b,c,d,e]:=by
 refine⟨rfl,fun j=>?_⟩
 match j with
 | 0=>exact ha
 | 1=>exact hb
 | 2=>exact hc
 | 3=>exact hd
 | 4=>exact he
 | j+5=>simp[List.getD];omega
theorem Lim.split{B:Int}{l:List Int}(h:Lim B l):∃ a b c d e,l=[a,b,c,d,e]∧(0≤a∧a<B)∧(0≤b∧b<B)∧(0≤c∧c<B)∧(0≤d∧d<B)∧(0≤e∧e<B):=by
 obtain⟨a,b,c,d,e,rfl⟩:=Mj l h.1;exact⟨a,b,c,d,e,rfl,h.2 0,h.2 1,h.2 2,h.2 3,h.2 4⟩
theorem Lim.mono{B C:Int}{l:List Int}(h:Lim B l)(hBC:B≤C):Lim C l:=⟨h.1,fun j=>⟨(h.2 j).1,by have:=(h.2 j).2;omega⟩⟩
theorem CI(a b c d e:Int):val [a,b,c,d,e]=a+67108864*b+4503599627370496*c+302231454903657293676544*d+20282409603651670423947251286016*e:=by
 simp only[val];omega
structure Carr(l m:List Int)(k:Nat)(o:Int):Prop where
 len:m.length=5
 sum:val m+o*67108864^k=val l
 done:∀ j,j<k→0≤m.getD j 0∧m.getD j 0<67108864
 rest:∀ j,k≤j→m.getD j 0=l.getD j 0
 lo:0≤o
 hi:o<274877906944
theorem Carr.zero{l:List Int}(h:l.length=5):Carr l l 0 0:=⟨h,by omega,fun _ h=>by omega,fun _ _=>rfl,by omega,by omega⟩
theorem Carr.succ{l m:List Int}{k:Nat}{o:Int}(h:Carr l m k o)(hl:Lim 9223372036854775808 l)(hk:k<5) :
  Carr l (m.set k ((m.getD k 0+o)%67108864)) (k+1) ((m.getD k 0+o)/67108864):=by
 obtain⟨l0,l1,l2,l3,l4,rfl,b0,b1,b2,b3,b4⟩:=hl.split;obtain⟨m0,m1,m2,m3,m4,rfl⟩:=Mj m h.len;have hs:=h.sum;have hd:=h.done;have hr:=h.rest;have h1:=h.lo;have h2:=h.hi;rw[CI]at hs
 rw[CI]at hs
 obtain rfl|rfl|rfl|rfl|rfl:k=0∨k=1∨k=2∨k=3∨k=4:=by omega
 ·have e0:m0=l0:=hr 0 (by omega);have e1:m1=l1:=hr 1 (by omega);have e2:m2=l2:=hr 2 (by omega);have e3:m3=l3:=hr 3 (by omega);have e4:m4=l4:=hr 4 (by omega);simp only[List.set_cons_zero,List.getD_cons_zero];refine⟨rfl,?_,fun j hj=>?_,fun j hj=>?_,by omega,by omega⟩
  ·rw[CI,CI];omega
  ·obtain rfl:j=0:=by omega
   simp only[List.getD_cons_zero];omega
  ·obtain⟨j,rfl⟩:∃ i,j=i+1:=⟨j-1,by omega⟩;have:=hr (j+1) (by omega);simpa using this
 ·have e1:m1=l1:=hr 1 (by omega);have d0:0≤m0∧m0<67108864:=hd 0 (by omega);simp only[List.set_cons_zero,List.set_cons_succ,List.getD_cons_zero,List.getD_cons_succ];refine⟨rfl,?_,fun j hj=>?_,fun j hj=>?_,by omega,by omega⟩
  ·rw[CI,CI];omega
  ·obtain rfl|rfl:j=0∨j=1:=by omega
   ·exact d0
   ·simp only[List.getD_cons_zero,List.getD_cons_succ];omega
  ·obtain⟨j,rfl⟩:∃ i,j=i+2:=⟨j-2,by omega⟩;have:=hr (j+2) (by omega);simpa using this
 ·have e1:m2=l2:=hr 2 (by omega);have d0:0≤m0∧m0<67108864:=hd 0 (by omega);have d1:0≤m1∧m1<67108864:=hd 1 (by omega);simp only[List.set_cons_zero,List.set_cons_succ,List.getD_cons_zero,List.getD_cons_succ];refine⟨rfl,?_,fun j hj=>?_,fun j hj=>?_,by omega,by omega⟩
  ·rw[CI,CI];omega
  ·obtain rfl|rfl|rfl:j=0∨j=1∨j=2:=by omega
   ·exact d0
   ·exact d1
   ·simp only[List.getD_cons_zero,List.getD_cons_succ];omega
  ·obtain⟨j,rfl⟩:∃ i,j=i+3:=⟨j-3,by omega⟩;have:=hr (j+3) (by omega);simpa using this
 ·have e1:m3=l3:=hr 3 (by omega);have d0:0≤m0∧m0<67108864:=hd 0 (by omega);have d1:0≤m1∧m1<67108864:=hd 1 (by omega);have d2:0≤m2∧m2<67108864:=hd 2 (by omega);simp only[List.set_cons_zero,List.set_cons_succ,List.getD_cons_zero,List.getD_cons_succ];refine⟨rfl,?_,fun j hj=>?_,fun j hj=>?_,by omega,by omega⟩
  ·rw[CI,CI];omega
  ·obtain rfl|rfl|rfl|rfl:j=0∨j=1∨j=2∨j=3:=by omega
   ·exact d0
   ·exact d1
   ·exact d2
   ·simp only[List.getD_cons_zero,List.getD_cons_succ];omega
  ·obtain⟨j,rfl⟩:∃ i,j=i+4:=⟨j-4,by omega⟩;have:=hr (j+4) (by omega);simpa using this
 ·have e1:m4=l4:=hr 4 (by omega);have d0:0≤m0∧m0<67108864:=hd 0 (by omega);have d1:0≤m1∧m1<67108864:=hd 1 (by omega);have d2:0≤m2∧m2<67108864:=hd 2 (by omega);have d3:0≤m3∧m3<67108864:=hd 3 (by omega);simp only[List.set_cons_zero,List.set_cons_succ,List.getD_cons_zero,List.getD_cons_succ];refine⟨rfl,?_,fun j hj=>?_,fun j hj=>?_,by omega,by omega⟩
  ·rw[CI,CI];omega
  ·obtain rfl|rfl|rfl|rfl|rfl:j=0∨j=1∨j=2∨j=3∨j=4:=by omega
   ·exact d0
   ·exact d1
   ·exact d2
   ·exact d3
   ·simp only[List.getD_cons_zero,List.getD_cons_succ];omega
  ·obtain⟨j,rfl⟩:∃ i,j=i+5:=⟨j-5,by omega⟩;simp[List.getD]
theorem Carr.five{l m:List Int}{o:Int}(h:Carr l m 5 o):Lim 67108864 m∧val m+1361129467683753853853498429727072845824*o=val l:=by
 refine⟨⟨h.len,fun j=>?_⟩,?_⟩
 ·by_cases hj:j<5
  ·exact h.done j hj
  ·rw[FK (by have:=h.len;omega)];omega
 ·have:=h.sum;omega
def pp:Int:=1361129467683753853853498429727072845819
theorem NK{l:List Int}(h:l.length=5)(t:Nat)(ht:t<5)(y:Int):val (l.set t y)=val l+(y-l.getD t 0)*67108864^t:=by
 obtain⟨a,b,c,d,e,rfl⟩:=Mj l h;obtain rfl|rfl|rfl|rfl|rfl:t=0∨t=1∨t=2∨t=3∨t=4:=by omega
 all_goals
  simp only[List.set_cons_zero,List.set_cons_succ,List.getD_cons_zero,List.getD_cons_succ,CI];omega
def pv(n:List Int):Nat→Int
 | 0=>0
 | k+1=>pv n k+n.getD k 0*67108864^k
theorem Sy{n:List Int}(h:n.length=5):pv n 5=val n:=by
 obtain⟨a,b,c,d,e,rfl⟩:=Mj n h;simp only[pv,List.getD_cons_zero,List.getD_cons_succ,CI];omega
structure Adds(l m r:List Int)(k:Nat):Prop where
 len:r.length=5
 done:∀ j,j<k→r.getD j 0=l.getD j 0+m.getD j 0
 rest:∀ j,k≤j→r.getD j 0=l.getD j 0
theorem Adds.zero{l m:List Int}(h:l.length=5):Adds l m l 0:=⟨h,fun _ h=>by omega,fun _ _=>rfl⟩
theorem AF{l:List Int}{k:Nat}(h:k<l.length)(x:Int):(l.set k x).getD k 0=x:=by
 simp[List.getD,h]
theorem Av{l:List Int}{k j:Nat}(h:k≠j)(x:Int):(l.set k x).getD j 0=l.getD j 0:=by
 simp[List.getD,List.getElem?_set_ne h]
theorem Adds.succ{l m r:List Int}{k:Nat}(h:Adds l m r k)(hk:k<5):Adds l m (r.set k (r.getD k 0+m.getD k 0)) (k+1):=by
 refine⟨by simpa using h.len,fun j hj=>?_,fun j hj=>?_⟩
 ·by_cases e:k=j
  ·subst e;rw[AF (by rw[h.len];omega),h.rest k (by omega)]
  ·rw[Av e];exact h.done j (by omega)
 ·rw[Av (by omega)];exact h.rest j (by omega)
theorem Adds.five{l m r:List Int}(h:Adds l m r 5)(hl:Lim 67108864 l)(hm:Lim 67108864 m):Lim 134217728 r∧val r=val l+val m:=by
 obtain⟨l0,l1,l2,l3,l4,rfl,b0,b1,b2,b3,b4⟩:=hl.split;obtain⟨m0,m1,m2,m3,m4,rfl,c0,c1,c2,c3,c4⟩:=hm.split;obtain⟨r0,r1,r2,r3,r4,rfl⟩:=Mj r h.len;have d0:r0=l0+m0:=h.done 0 (by omega);have d1:r1=l1+m1:=h.done 1 (by omega);have d2:r2=l2+m2:=h.done 2 (by omega);have d3:r3=l3+m3:=h.done 3 (by omega);have d4:r4=l4+m4:=h.done 4 (by omega);exact⟨Lim.of5 (by omega) (by omega) (by omega) (by omega) (by omega),by rw[CI,CI,CI];omega⟩
structure Prods(n m r:List Int)(i j:Nat):Prop where
 len:r.length=5
 sum:val r%pp=(pv n i*val m+n.getD i 0*67108864^i*pv m j)%pp
 low:∀ t,0≤r.getD t 0
 high:∀ t,r.getD t 0≤(5*(i:Int)+(j:Int))*45035996273704960
theorem Prods.zero(n m:List Int):Prods n m [0,0,0,0,0] 0 0:=by
 refine⟨rfl,?_,fun t=>?_,fun t=>?_⟩
 ·simp[pv,val]
 ·match t with
  | 0|1|2|3|4=>simp
  | t+5=>simp[List.getD]
 ·match t with
  | 0|1|2|3|4=>simp
  | t+5=>simp[List.getD]
theorem G1{x y:Int}(hx:0≤x∧x<134217728)(hy:0≤y∧y<67108864):0≤x*y∧x*y≤9007199254740992:=by
 refine⟨Int.mul_nonneg hx.1 hy.1,?_⟩;have h1:=Int.mul_le_mul (Int.le_of_lt hx.2) (Int.le_of_lt hy.2) hy.1 (by omega);omega
theorem Prods.low_step{n m r:List Int}{i j:Nat}(h:Prods n m r i j)(hn:Lim 134217728 n)(hm:Lim 67108864 m)(hij:i+j<5) :
  Prods n m (r.set (i+j) (r.getD (i+j) 0+n.getD i 0*m.getD j 0)) i (j+1):=by
 have hb:=G1 (hn.2 i) (hm.2 j);have h1:=h.low (i+j);have h2:=h.high (i+j);refine⟨by simpa using h.len,?_,fun t=>?_,fun t=>?_⟩
 ·rw[NK h.len _ hij,Int.add_emod,h.sum,← Int.add_emod]
  congr 1
  rw[Int.pow_add];simp only[pv]
  grind
 ·by_cases e:i+j=t
  ·subst e;rw[AF (by rw[h.len];omega)];omega
  ·rw[Av e];exact h.low t
 ·by_cases e:i+j=t
  ·subst e;rw[AF (by rw[h.len];omega)];omega
  ·rw[Av e];have:=h.high t;omega
theorem Prods.high_step{n m r:List Int}{i j:Nat}(h:Prods n m r i j)(hn:Lim 134217728 n)(hm:Lim 67108864 m)(hij:5≤i+j)(hi:i<5)(hj:j<5) :
  Prods n m (r.set (i+j-5) (r.getD (i+j-5) 0+n.getD i 0*m.getD j 0*5)) i (j+1):=by
 have hb:=G1 (hn.2 i) (hm.2 j);have h1:=h.low (i+j-5);have h2:=h.high (i+j-5);refine⟨by simpa using h.len,?_,fun t=>?_,fun t=>?_⟩
 ·rw[NK h.len _ (by omega),Int.add_emod,h.sum,← Int.add_emod];have e:(67108864:Int)^i*67108864^j=67108864^(i+j-5)*(pp+5):=by
   rw[← Int.pow_add,show pp+5=(67108864:Int)^5 by unfold pp;rfl,← Int.pow_add];congr 1;omega
  have e2:pv n i*val m+n.getD i 0*67108864^i*pv m (j+1)=pv n i*val m+n.getD i 0*67108864^i*pv m j+(r.getD (i+j-5) 0+n.getD i 0*m.getD j 0*5-r.getD (i+j-5) 0)*67108864^(i+j-5)+pp*(n.getD i 0*m.getD j 0*67108864^(i+j-5)):=by
   simp only[pv]
   grind
  rw[e2,Int.add_mul_emod_self_left]
 ·by_cases e:i+j-5=t
  ·subst e;rw[AF (by rw[h.len];omega)];omega
  ·rw[Av e];exact h.low t
 ·by_cases e:i+j-5=t
  ·subst e;rw[AF (by rw[h.len];omega)];omega
  ·rw[Av e];have:=h.high t;omega
theorem Prods.row{n m r:List Int}{i:Nat}(h:Prods n m r i 5)(hm:m.length=5):Prods n m r (i+1) 0:=by
 refine⟨h.len,?_,h.low,fun t=>?_⟩
 ·rw[h.sum,Sy hm]
  congr 1
  simp only[pv]
  grind
 ·have:=h.high t;omega
theorem Prods.five{n m r:List Int}(h:Prods n m r 5 0)(hn:n.length=5):Lim 1152921504606846976 r∧val r%pp=(val n*val m)%pp:=by
 refine⟨⟨h.len,fun t=>⟨h.low t,?_⟩⟩,?_⟩
 ·have:=h.high t;omega
 ·rw[h.sum,Sy hn];congr 1;simp only[pv];grind
theorem QI{n m:List Int}{o:Int}(hn:Lim 67108864 n)(hc:Carr (n.set 0 (n.getD 0 0+5)) m 5 o):Lim 67108864 m∧(0<o→val m=val n%pp)∧(¬ 0<o→val n=val n%pp):=by
 obtain⟨h1,h2⟩:=hc.five;refine⟨h1,?_⟩;have o1:=hc.lo;obtain⟨n0,n1,n2,n3,n4,rfl,b0,b1,b2,b3,b4⟩:=hn.split;obtain⟨m0,m1,m2,m3,m4,rfl,c0,c1,c2,c3,c4⟩:=h1.split;simp only[List.set_cons_zero,List.getD_cons_zero]at h2;have v1:val [n0+5,n1,n2,n3,n4]=val [n0,n1,n2,n3,n4]+5:=by rw[CI,CI];omega
 have v2:0≤val [n0,n1,n2,n3,n4]∧val [n0,n1,n2,n3,n4]<1361129467683753853853498429727072845824:=by rw[CI];omega
 have v3:0≤val [m0,m1,m2,m3,m4]∧val [m0,m1,m2,m3,m4]<1361129467683753853853498429727072845824:=by rw[CI];omega
 rw[v1]at h2
 generalize val [n0,n1,n2,n3,n4]=V at *;generalize val [m0,m1,m2,m3,m4]=M at *;unfold pp;constructor
 ·intro ho;obtain rfl:o=1:=by omega
  omega
 ·intro ho;obtain rfl:o=0:=by omega
  omega
def leP(l:List Int):Nat→Int
 | 0=>0
 | k+1=>leP l k+l.getD k 0*256^k
def leN(l:List Int):Int:=leP l l.length
theorem Wo{l:List Int}(k:Nat)(h:l.length≤k):leP l k=leN l:=by
 obtain⟨d,rfl⟩:∃ d,k=l.length+d:=⟨k-l.length,by omega⟩;clear h;induction d with
 | zero=>rfl
 | succ d ih=>rw[← Nat.add_assoc,leP,ih,FK (by omega)];omega
theorem TF{l m:List Int}(k:Nat)(h:∀ j,j<k→l.getD j 0=m.getD j 0):leP l k=leP m k:=by
 induction k with
 | zero=>rfl
 | succ k ih=>rw[leP,leP,ih (fun j hj=>h j (by omega)),h k (by omega)]
theorem QG{l m:List Int}(k:Nat):leP (l++m) (l.length+k)=leN l+256^l.length*leP m k:=by
 induction k with
 | zero =>
  simp only[Nat.add_zero,leP,Int.mul_zero,Int.add_zero];unfold leN;exact TF _ (fun j hj=>by simp[List.getD,List.getElem?_append_left hj])
 | succ k ih =>
  rw[← Nat.add_assoc,leP,ih,leP,Int.mul_add,Int.pow_add];have:(l++m).getD (l.length+k) 0=m.getD k 0:=by simp[List.getD,List.getElem?_append_right]
  rw[this]
  grind
theorem QF(l m:List Int):leN (l++m)=leN l+256^l.length*leN m:=by
 have h:=QG (l:=l) (m:=m) m.length;rw[← List.length_append]at h
 exact h
theorem TE(n:Nat):leN (List.replicate n 0)=0:=by
 unfold leN;generalize (List.replicate n (0:Int)).length=k;induction k with
 | zero=>rfl
 | succ k ih =>
  rw[leP,ih];have:(List.replicate n (0:Int)).getD k 0=0:=by
   rcases Nat.lt_or_ge k n with h|h
   ·simp[List.getD,h]
   ·exact FK (by simpa using h)
  rw[this];omega
structure Reads(b r:List Int)(k:Nat):Prop where
 len:r.length=5
 sum:val r=leP b k
 low:∀ t,0≤r.getD t 0
 high:∀ t,r.getD t 0≤(k:Int)*17179869184
theorem Reads.zero(b:List Int):Reads b [0,0,0,0,0] 0:=by
 refine⟨rfl,rfl,fun t=>?_,fun t=>?_⟩
 ·match t with
  | 0|1|2|3|4=>simp
  | t+5=>simp[List.getD]
 ·match t with
  | 0|1|2|3|4=>simp
  | t+5=>simp[List.getD]
theorem Reads.succ{b r:List Int}{k:Nat}(h:Reads b r k)(hb:0≤b.getD k 0∧b.getD k 0<256)(q:Nat)(m:Int)(hq:q<5)(hm:0≤m∧m≤33554432)(he:m*67108864^q=256^k):Reads b (r.set q (r.getD q 0+b.getD k 0*m)) (k+1):=by
 have h1:0≤b.getD k 0*m:=Int.mul_nonneg hb.1 hm.1;have h2:b.getD k 0*m≤256*33554432:=Int.mul_le_mul (by omega) hm.2 hm.1 (by omega);refine⟨by simpa using h.len,?_,fun t=>?_,fun t=>?_⟩
 ·rw[NK h.len q hq,h.sum,leP,← he]
  grind
 ·have:=h.low q;by_cases e:q=t
  ·subst e;rw[AF (by rw[h.len];omega)];omega
  ·rw[Av e];exact h.low t
 ·have:=h.high q;by_cases e:q=t
  ·subst e;rw[AF (by rw[h.len];omega)];omega
  ·rw[Av e];have:=h.high t;omega
def piece(l:List Int)(k:Nat):List Int:=(l.drop (16*k)).take 16
def Ji(R:Int)(l:List Int):Nat→Int
 | 0=>0
 | k+1=>(Ji R l k+leN (piece l k++[1]))*R%pp
def Np(l:List Int):Nat:=(l.length+15)/16
def bi(R:Int)(l:List Int):Int:=Ji R l (Np l)
theorem Rm:0<pp:=by unfold pp;omega
theorem PQ(R:Int)(l:List Int)(k:Nat):0≤Ji R l k∧Ji R l k<pp:=by
 cases k with
 | zero=>exact⟨by simp[Ji],Rm⟩
 | succ k=>exact⟨Int.emod_nonneg _ (by have:=Rm;omega),Int.emod_lt_of_pos _ Rm⟩
theorem UQ{n m s t r:List Int}{R:Int}{l:List Int}{k:Nat}(hn:val n%pp=Ji R l k%pp)(hm:val m%pp=leN (piece l k++[1])%pp)(hs:val s=val n+val m)(hr:val r%pp=R%pp)(ht:val t%pp=(val s*val r)%pp) :
  val t%pp=Ji R l (k+1)%pp:=by
 rw[ht,Ji,Int.emod_emod_of_dvd _ (Int.dvd_refl _),Int.mul_emod,hs,Int.add_emod,hn,hm,hr,← Int.add_emod,← Int.mul_emod]
theorem C6(l:List Int)(n i:Nat):(l.drop n).getD i 0=l.getD (n+i) 0:=by simp[List.getD]
theorem AZ(l:List Int)(n i:Nat)(h:i<n):(l.take n).getD i 0=l.getD i 0:=by simp[List.getD,h]
theorem Sl.window{w:World}{a:Option Addr}{n cap:Nat}{l:List Int}(h:Sl w (.slice a n cap) l)(lo hi:Nat)(hlo:lo≤hi)(hhi:hi≤l.length):Sl w (sliced a lo hi cap 1) ((l.take hi).drop lo):=by
 have hd:=(h.take hi hhi).len;have hb:=h.byte;obtain⟨⟨a',cap',e,hc,hn,h1⟩,hla,hba⟩:=h;simp only[Value.slice.injEq]at e;obtain⟨rfl,rfl,rfl⟩:=e;have hl:((l.take hi).drop lo).length=hi-lo:=by rw[List.length_drop,List.length_take];omega
 have hbb:∀ x∈(l.take hi).drop lo,0≤x∧x<256:=fun x hx=>hb x (List.mem_of_mem_take (List.mem_of_mem_drop hx));cases a with
 | none =>
  have c0:=hn rfl;subst c0;have h0:l.length=0:=by omega
  refine⟨⟨_,_,by rw[hl];rfl,by omega,fun _=>by omega,.inl (List.eq_nil_of_length_eq_zero (by omega))⟩,by omega,hbb⟩
 | some ad =>
  refine⟨⟨_,_,by rw[hl];rfl,by omega,(by intro h;split at h<;>simp at h),?_⟩,by omega,hbb⟩;rcases Nat.eq_or_lt_of_le hlo with he|hlt
  ·exact .inl (List.eq_nil_of_length_eq_zero (by omega))
  ·rcases h1 with rfl|⟨b,off,e2,hbs,hcell⟩
   ·simp at hhi;omega
   ·simp only[Option.some.injEq]at e2;subst e2;refine .inr ⟨b,off+lo,?_,hbs,fun i hi2=>?_⟩
    ·rw[if_neg (by omega)];simp[Addr.add]
    ·rw[hl]at hi2
     rw[Nat.add_assoc,hcell (lo+i) (by omega),C6,AZ _ _ _ (by omega)]
theorem G9(w:World):(Go.sizeOf 5).run prog w=.ok 1 w:=by
 obtain⟨i,hi,_,hsz,_⟩:=info_parts As;simp[sizeOf,typeInfo,hi,hsz]
theorem Sl.upTo{w:World}{a:Option Addr}{n cap:Nat}{l:List Int}(h:Sl w (.slice a n cap) l)(hi:Nat)(hhi:hi≤l.length) :
  ∃ a' c',(∀ W,(Instr.slice 40 (.slice a n cap) none (some (.int .i64 (hi:Int))) none).run prog W=.ok (.slice a' hi c') W)∧Sl w (.slice a' hi c') (l.take hi):=by
 have hw:=h.window 0 hi (by omega) hhi;obtain⟨⟨a',cap',e,hc,hn,h1⟩,hla,hba⟩:=h;simp only[Value.slice.injEq]at e;obtain⟨rfl,rfl,rfl⟩:=e;refine⟨_,_,fun W=>?_,by simpa[sliced]using hw⟩;rw[run_slice_h (P:=prog) W 40 a _ cap underlying40 .i64 _ (by omega) (by omega)];have e:prog.elem 40=5:=by kernel_rfl
 rw[e,G9];simp[Result.andThen,sliced]
theorem Sl.from{w:World}{a:Option Addr}{n cap:Nat}{l:List Int}(h:Sl w (.slice a n cap) l)(lo:Nat)(hlo:lo≤l.length) :
  ∃ a' c',(∀ W,(Instr.slice 40 (.slice a n cap) (some (.int .i64 (lo:Int))) none none).run prog W=.ok (.slice a' (n-lo) c') W)∧Sl w (.slice a' (n-lo) c') (l.drop lo):=by
 have hw:=h.window lo l.length hlo (Nat.le_refl _);obtain⟨⟨a',cap',e,hc,hn,h1⟩,hla,hba⟩:=h;simp only[Value.slice.injEq]at e;obtain⟨rfl,rfl,rfl⟩:=e;refine⟨_,_,fun W=>?_,by simpa[sliced]using hw⟩;rw[run_slice_l (P:=prog) W 40 a _ cap underlying40 .i64 _ (by omega) (by omega)];have e:prog.elem 40=5:=by kernel_rfl
 rw[e,G9];simp[Result.andThen,sliced]
theorem eh(x:Int)(h0:0≤x)(h1:x<18446744073709551616):bits .and .u64 x 67108863=x%67108864:=by
 obtain⟨n,rfl⟩:=Int.eq_ofNat_of_zero_le h0;rw[show(67108863:Int)=((67108863:Nat):Int)from rfl,u64_and_nat _ _ (by omega) (by omega),show(67108863:Nat)=2^26-1 from rfl,Nat.and_two_pow_sub_one_eq_mod];omega
theorem Cn{l:List Int}(h:l.length=5):(prog.info? 272).map (·.size)=some (Ah l).size:=by rw[Ak,h];kernel_rfl
theorem AP{B:Nat}{a w:World}(h:Below B a w){g:Nat}(hg:B≤g)(cs:Array Value):Below B a (w.setRow g cs) :=
 h.trans ⟨rfl,rfl,rfl,by simp,fun k hk=>setRow_other w g k cs (by omega)⟩
theorem Fv{P:Program}{fn:Func}{p u:Tmp}{ty:TypeId}(h:fn.results=#[.cell p ty,.tmp u])(tmps:Array Value)(w:World)(g:Nat)(t:TypeId)(cs:Array Value)(fr:Nat × Nat)(d:TypeDesc)
  (hp:tmps.getD p undef=.pointer (some ⟨g,0,none⟩))(hg:w.heap[g]?=some (.cells cs t fr))
  (hu:P.underlying ty=some d)(hd:(match d with|.struct _|.array _ _=>true|_=>false)=true)(hi:(P.info? ty).map (·.size)=some cs.size){v:Value}(hv:tmps.getD u undef=v) :
  (results fn tmps).run P w=.ok (.tuple #[.agg cs,v]) w:=by
 have hp':tmps[p]?.getD undef=.pointer (some ⟨g,0,none⟩):=by simpa using hp
 rw[results_cell_tmp h,hv];simp[hp',asAddr,run_loadVar_row w g t ty cs fr d hg hu hd hi]
theorem Ao{P:Program}{ops:Array Oper}{Q:Exit→Act→World→Prop}{l:List Oper}{a:Act}{w:World}(h:wpList P ops Q l a w):wpList P ops Q l a w:=h
theorem OW(l:List Int)(w:World)(hl:Lim 9223372036854775808 l) :
  Calls prog 208 #[.agg (Ah l)] w fun e w'=>∃ m o,e=.returned (.tuple #[.agg (Ah m),.int .u64 o])∧Carr l m 5 o∧Bw w w':=by
 have h5:=hl.1;have hsz:=Cn h5;go_enter func208,ntmps208
 go_wp2_with fail
 go_loopw [4,6] (fun o i wr=>∃ (k:Nat) (m:List Int) (ov:Int),k≤5∧i=.int .i64 k∧o=.int .u64 ov∧Carr l m k ov∧wr.heap[w.heap.size]?=some (.cells (Ah m) 272 (0,0))∧wr.heap[w.heap.size+1]?=some (.cells (Ah [0,0,0,0,0]) 272 (0,0))∧Bw w wr) (fun _ i _=>5-(intOf i).toNat)
 case atStart=>
  refine⟨0,l,0,by omega,rfl,rfl,Carr.zero h5,?_,?_,?_⟩
  ·exact heap_alloc2_old _ _ _
  ·exact heap_alloc2_new _ _ _
  ·exact((Below.refl _ _).alloc (Nat.le_refl _) _).alloc (by simp) _
 case round =>
  obtain⟨k,m,ov,hk,rfl,rfl,hc,hn,hr,hb⟩:=hrel;by_cases hk5:k<5
  ·have hki:(k:Int)<5:=by omega
   have cn:=(cell_of_row wr _ k _ _ _ hn).trans (Ap m k (by rw[hc.len];omega));have fn:=frozen_of_row wr _ k _ _ hn;have hs:=hc.succ hl hk5;have o1:=hc.lo;have o2:=hc.hi;have e1:m.getD k 0=l.getD k 0:=hc.rest k (by omega);have b1:=hl.2 k;rw[← e1]at b1
   have HS:Hid (Carr l (m.set k ((m.getD k 0+ov)%67108864)) (k+1) ((m.getD k 0+ov)/67108864)):=hs;clear hs hc e1;generalize m.getD k 0=x at cn HS b1;obtain⟨b1,b2⟩:=b1;have ha:=eh (x+ov) (by omega) (by omega);go_wp2
   go_roundw
   case rel =>
    refine⟨k+1,_,_,by omega,by go_num,rfl,HS.out,?_,?_,?_⟩
    ·have h1:=DI (DI hn k (x+ov)) k ((x+ov)%67108864);rw[List.set_set]at h1
     exact h1
    ·rw[heap_setCell_other _ _ _ _ (by simp),heap_setCell_other _ _ _ _ (by simp)];exact hr
    ·exact(hb.setCell (p:=⟨w.heap.size,k,none⟩) (Nat.le_refl _) _).setCell (p:=⟨w.heap.size,k,none⟩) (Nat.le_refl _) _
   case measure=>simp[intOf];omega
  ·have HK:Hid (k=5):=by unfold Hid;omega
   have hki:¬ (k:Int)<5:=by omega
   have hsz1:=Cn hc.len;go_wp2_with ((with_reducible (refine Ao ?_));first
    | (refine wpList_load_row rfl 272 _ rfl w.heap.size rfl 272 _ (0,0) _ hn underlying272 rfl hsz1 ?_)
    | (refine wpList_store_row rfl 272 _ _ rfl (w.heap.size+1) _ rfl rfl 272 _ hr hsz1 (by rw[Ak,Ak,hc.len];rfl) (Bg m) ?_))
   refine bodyPost_ret (v:=.tuple #[.agg (Ah m),.int .u64 ov]) (Fv rfl _ _ (w.heap.size+1) 272 _ (0,0) _ rfl (setRow_heap wr (w.heap.size+1) _ _ 272 _ hr) underlying272 rfl hsz1 rfl) rfl ⟨m,ov,rfl,by have:=HK.out;subst this;exact hc,AP hb (by omega) _⟩
def PP:Nat→List Int→Prop
 | 0,m=>Lim 1152921504606846976 m
 | 1,m=>Lim 274877906944 m∧val m<1361129467683753853853498429727072845824+274877906944
 | 2,m=>Lim 274877906944 m∧val m<1361129467683753853853498429727072845824
 | _,m=>Lim 67108864 m
theorem PP.lim:∀ {k:Nat} {m:List Int},PP k m→Lim 9223372036854775808 m
 | 0,_,h=>Lim.mono h (by omega)
 | 1,_,h=>Lim.mono h.1 (by omega)
 | 2,_,h=>Lim.mono h.1 (by omega)
 | _+3,_,h=>Lim.mono (B:=67108864) h (by omega)
theorem cQ(a b o:Int)(h:a+1361129467683753853853498429727072845824*o=b):(a+5*o)%pp=b%pp:=by
 rw[← h,show a+1361129467683753853853498429727072845824*o=a+5*o+pp*o by unfold pp;omega,Int.add_mul_emod_self_left]
theorem PP.succ{k:Nat}{l m:List Int}{o:Int}(h:PP k l)(hk:k<3)(hc:Carr l m 5 o):PP (k+1) (m.set 0 (m.getD 0 0+o*5))∧val (m.set 0 (m.getD 0 0+o*5))%pp=val l%pp∧0≤m.getD 0 0∧m.getD 0 0<67108864∧0≤o∧o<274877906944:=by
 obtain⟨h1,h2⟩:=hc.five;obtain⟨m0,m1,m2,m3,m4,rfl,b0,b1,b2,b3,b4⟩:=h1.split;have o1:=hc.lo;have o2:=hc.hi;simp only[List.set_cons_zero,List.getD_cons_zero];have hm:=cQ _ _ _ h2;rw[CI]at h2
 have e:val [m0+o*5,m1,m2,m3,m4]=val [m0,m1,m2,m3,m4]+5*o:=by rw[CI,CI];omega
 rw[← e]at hm
 refine⟨?_,hm,b0.1,b0.2,o1,o2⟩;obtain rfl|rfl|rfl:k=0∨k=1∨k=2:=by omega
 ·obtain⟨l0,l1,l2,l3,l4,rfl,c0,c1,c2,c3,c4⟩:=Lim.split h;rw[CI]at h2
  refine⟨Lim.of5 (by omega) (by omega) (by omega) (by omega) (by omega),?_⟩;rw[CI];omega
 ·obtain⟨h3,h4⟩:=h;obtain⟨l0,l1,l2,l3,l4,rfl,c0,c1,c2,c3,c4⟩:=Lim.split h3;rw[CI]at h2 h4
  refine⟨Lim.of5 (by omega) (by omega) (by omega) (by omega) (by omega),?_⟩;rw[CI];omega
 ·obtain⟨h3,h4⟩:=h;have ho:o=0:=by omega
  subst ho;show Lim 67108864 _;exact Lim.of5 (by omega) (by omega) (by omega) (by omega) (by omega)
theorem IC(l:List Int)(w:World)(hl:Lim 1152921504606846976 l) :
  Calls prog 207 #[.agg (Ah l)] w fun e w'=>∃ m,e=.returned (.agg (Ah m))∧Lim 67108864 m∧val m%pp=val l%pp∧Bw w w':=by
 have h5:=hl.1;have hsz:=Cn h5;go_enter func207,ntmps207
 go_wp2_with fail
 go_loopw [4] (fun i wr=>∃ (k:Nat) (m:List Int),k≤3∧i=.int .i64 k∧PP k m∧val m%pp=val l%pp∧wr.heap[w.heap.size]?=some (.cells (Ah m) 272 (0,0))∧wr.heap[w.heap.size+1]?=some (.cells (Ah [0,0,0,0,0]) 272 (0,0))∧w.heap.size+2≤wr.heap.size∧Bw w wr) (fun i _=>3-(intOf i).toNat)
 case atStart=>
  refine⟨0,l,by omega,rfl,hl,rfl,?_,?_,by simp,?_⟩
  ·exact heap_alloc2_old _ _ _
  ·exact heap_alloc2_new _ _ _
  ·exact((Below.refl _ _).alloc (Nat.le_refl _) _).alloc (by simp) _
 case round =>
  obtain⟨k,m,hk,rfl,hc,hv,hn,hr,hz,hb⟩:=hrel;have hm5:=hc.lim.1;have hsz1:=Cn hm5;by_cases hk3:k<3
  ·have hki:(k:Int)<3:=by omega
   go_wp2_with ((with_reducible (refine Ao ?_));refine wpList_load_row rfl 272 _ rfl w.heap.size rfl 272 _ (0,0) _ hn underlying272 rfl hsz1 ?_)
   refine(OW m wr hc.lim).mono ?_;rintro e w1 ⟨m1,o,rfl,hc1,hb1⟩;obtain⟨hs,hv1,x1,x2,o1,o2⟩:=hc.succ hk3 hc1;have hl1:=hc1.len;have hsz2:=Cn hl1;have hn1:=(hb1.block w.heap.size (by omega)).trans hn;have hr1:=(hb1.block (w.heap.size+1) (by omega)).trans hr;have hz1:=hb1.size;have hB1:Bw w w1:=hb.trans (hb1.mono (by omega));have hn2:=setRow_heap w1 w.heap.size (Ah m) (Ah m1) 272 (0,0) hn1;have hr2:(w1.setRow w.heap.size (Ah m1)).heap[w.heap.size+1]?=some (.cells (Ah [0,0,0,0,0]) 272 (0,0)):=(setRow_other _ _ _ _ (by omega)).trans hr1;have hB2:Bw w (w1.setRow w.heap.size (Ah m1)):=AP hB1 (Nat.le_refl _) _;have hz2:(w1.setRow w.heap.size (Ah m1)).heap.size=w1.heap.size:=by simp
   have cn:=(cell_of_row _ _ 0 _ _ _ hn2).trans (Ap m1 0 (by omega));have fn:=frozen_of_row _ _ 0 _ _ hn2;have hs':Hid (PP (k+1) (m1.set 0 (m1.getD 0 0+o*5))):=hs;have hv':Hid (val (m1.set 0 (m1.getD 0 0+o*5))%pp=val m%pp):=hv1;have hst:Hid (((w1.setRow w.heap.size (Ah m1)).setCell ⟨w.heap.size,0,none⟩ (.int .u64 (m1.getD 0 0+o*5))).heap[w.heap.size]?=some (.cells (Ah (m1.set 0 (m1.getD 0 0+o*5))) 272 (0,0))):=DI hn2 0 _;clear hb hn hr hb1 hr1 hB1 hc hc1 hs hv1;generalize m1.getD 0 0=x at cn hs' hv' hst x1 x2;go_wp2_with ((with_reducible (refine Ao ?_));refine wpList_store_row rfl 272 _ _ rfl w.heap.size _ rfl rfl 272 _ hn1 hsz2 (by rw[Ak,Ak,hl1,hm5]) (Bg m1) ?_)
   go_roundw
   case rel =>
    refine⟨k+1,_,by omega,by go_num,hs'.out,hv'.out.trans hv,hst.out,?_,?_,?_⟩
    ·rw[heap_setCell_other _ _ _ _ (by simp)];exact hr2
    ·simp;omega
    ·exact hB2.setCell (p:=⟨w.heap.size,0,none⟩) (Nat.le_refl _) _
   case measure=>simp[intOf];omega
  ·have hki:¬ (k:Int)<3:=by omega
   have hc3:Lim 67108864 m:=by
    obtain rfl:k=3:=by omega
    exact hc
   go_wp2_with ((with_reducible (refine Ao ?_));first
    | (refine wpList_load_row rfl 272 _ rfl w.heap.size rfl 272 _ (0,0) _ hn underlying272 rfl hsz1 ?_)
    | (refine wpList_store_row rfl 272 _ _ rfl (w.heap.size+1) _ rfl rfl 272 _ hr hsz1 (by rw[Ak,Ak,hm5];rfl) (Bg m) ?_))
   refine bodyPost_ret (v:=.agg (Ah m)) (results_cell_row rfl _ _ (w.heap.size+1) 272 _ (0,0) _ rfl (setRow_heap wr (w.heap.size+1) _ _ 272 _ hr) underlying272 rfl hsz1) rfl ⟨m,rfl,hc3,hv,AP hb (by omega) _⟩
theorem Ln(n:Int):IntKind.u64.wrap n=n%18446744073709551616:=by simp[IntKind.wrap,IntKind.bits,IntKind.signed]
theorem Q7(S:List Int)(hS:S.length=5)(j:Nat)(hj:j<5):∀ w,(Instr.index 272 (.agg (Ah S)) (.int .i64 (j:Int))).run prog w=.ok (.int .u64 (S.getD j 0)) w:=by
 intro w;obtain⟨a,b,c,d,e,rfl⟩:=Mj S hS;obtain rfl|rfl|rfl|rfl|rfl:j=0∨j=1∨j=2∨j=3∨j=4:=by omega
 all_goals kernel_rfl
theorem EY(w:World)(o1 o2 o3:Obj):(((w.alloc o1).alloc o2).alloc o3).heap[w.heap.size]?=some o1∧(((w.alloc o1).alloc o2).alloc o3).heap[w.heap.size+1]?=some o2∧(((w.alloc o1).alloc o2).alloc o3).heap[w.heap.size+1+1]?=some o3∧Bw w (((w.alloc o1).alloc o2).alloc o3):=by
 refine⟨?_,?_,?_,(((Below.refl _ _).alloc (Nat.le_refl _) _).alloc (by simp) _).alloc (by simp;omega) _⟩
 ·rw[heap_alloc_old _ _ (by simp;omega)];exact heap_alloc2_old w o1 o2
 ·rw[heap_alloc_old _ _ (by simp)];exact heap_alloc2_new w o1 o2
 ·have:=heap_alloc_new ((w.alloc o1).alloc o2) o3;simpa using this
theorem JL(w:World)(o1 o2 o3 o4:Obj):((((w.alloc o1).alloc o2).alloc o3).alloc o4).heap[w.heap.size]?=some o1∧((((w.alloc o1).alloc o2).alloc o3).alloc o4).heap[w.heap.size+1]?=some o2∧((((w.alloc o1).alloc o2).alloc o3).alloc o4).heap[w.heap.size+1+1]?=some o3∧((((w.alloc o1).alloc o2).alloc o3).alloc o4).heap[w.heap.size+1+1+1]?=some o4∧Bw w ((((w.alloc o1).alloc o2).alloc o3).alloc o4):=by
 obtain⟨h1,h2,h3,hb⟩:=EY w o1 o2 o3;refine⟨?_,?_,?_,?_,hb.alloc (by simp;omega) _⟩
 ·rw[heap_alloc_old _ _ (by simp;omega)];exact h1
 ·rw[heap_alloc_old _ _ (by simp)];exact h2
 ·rw[heap_alloc_old _ _ (by simp)];exact h3
 ·have:=heap_alloc_new (((w.alloc o1).alloc o2).alloc o3) o4;simpa using this
theorem WW(l m:List Int)(w:World)(hl:Lim 67108864 l)(hm:Lim 67108864 m) :
  Calls prog 201 #[.agg (Ah l),.agg (Ah m)] w fun e w'=>∃ r,e=.returned (.agg (Ah r))∧Lim 134217728 r∧val r=val l+val m∧Bw w w':=by
 have h5:=hl.1;have hszm:=Cn hm.1;go_enter func201,ntmps201
 go_wp2_with ((with_reducible (refine Ao ?_));(refine wpList_load_row rfl 272 _ rfl (w.heap.size+1) rfl 272 _ (0,0) _ (EY w _ _ _).2.1 underlying272 rfl hszm ?_))
 go_loopw [8] (fun i wr=>∃ (k:Nat) (r:List Int),k≤5∧i=.int .i64 k∧Adds l m r k∧wr.heap[w.heap.size]?=some (.cells (Ah r) 272 (0,0))∧wr.heap[w.heap.size+1+1]?=some (.cells (Ah [0,0,0,0,0]) 272 (0,0))∧Bw w wr) (fun i _=>5-(intOf i).toNat)
 case atStart=>exact⟨0,l,by omega,rfl,Adds.zero h5,(EY w _ _ _).1,(EY w _ _ _).2.2.1,(EY w _ _ _).2.2.2⟩
 case round =>
  obtain⟨k,r,hk,rfl,hc,hn,hr,hb⟩:=hrel;have hr5:=hc.len;by_cases hk5:k<5
  ·have hki:(k:Int)<5:=by omega
   have hix:=Q7 m hm.1 k hk5;have cn:=(cell_of_row wr _ k _ _ _ hn).trans (Ap r k (by omega));have fn:=frozen_of_row wr _ k _ _ hn;have HS:Hid (Adds l m (r.set k (r.getD k 0+m.getD k 0)) (k+1)):=hc.succ hk5;have b1:=hl.2 k;rw[← hc.rest k (by omega)]at b1
   have b2:=hm.2 k;generalize r.getD k 0=x at cn HS b1;generalize m.getD k 0=y at hix HS b2;obtain⟨b1,b3⟩:=b1;obtain⟨b2,b4⟩:=b2;go_wp2
   go_roundw
   case rel =>
    refine⟨k+1,_,by omega,by go_num,HS.out,DI hn k _,?_,?_⟩
    ·rw[heap_setCell_other _ _ _ _ (by simp;omega)];exact hr
    ·exact hb.setCell (p:=⟨w.heap.size,k,none⟩) (Nat.le_refl _) _
   case measure=>simp[intOf];omega
  ·have HK:Hid (k=5):=by unfold Hid;omega
   have hki:¬ (k:Int)<5:=by omega
   have hsz1:=Cn hr5;go_wp2_with ((with_reducible (refine Ao ?_));first
    | (refine wpList_load_row rfl 272 _ rfl (w.heap.size) rfl 272 _ (0,0) _ hn underlying272 rfl hsz1 ?_)
    | (refine wpList_store_row rfl 272 _ _ rfl (w.heap.size+1+1) _ rfl rfl 272 _ hr hsz1 (by rw[Ak,Ak,hr5];rfl) (Bg r) ?_))
   have hc5:Adds l m r 5:=by have:=HK.out;subst this;exact hc
   refine bodyPost_ret (v:=.agg (Ah r)) (results_cell_row rfl _ _ (w.heap.size+1+1) 272 _ (0,0) _ rfl (setRow_heap wr (w.heap.size+1+1) _ _ 272 _ hr) underlying272 rfl hsz1) rfl ⟨r,rfl,(hc5.five hl hm).1,(hc5.five hl hm).2,AP hb (by omega) _⟩
theorem UE(n m:List Int)(w:World)(hn:Lim 134217728 n)(hm:Lim 67108864 m) :
  Calls prog 203 #[.agg (Ah n),.agg (Ah m)] w fun e w'=>∃ r,e=.returned (.agg (Ah r))∧Lim 67108864 r∧val r%pp=(val n*val m)%pp∧Bw w w':=by
 have hszn:=Cn hn.1;have hszm:=Cn hm.1;go_enter func203,ntmps203
 go_wp2_with ((with_reducible (refine Ao ?_));(refine wpList_load_row rfl 272 _ rfl (w.heap.size) rfl 272 _ (0,0) _ (JL w _ _ _ _).1 underlying272 rfl hszn ?_))
 go_loopw [11] (fun i wr=>∃ (k:Nat) (r:List Int),k≤5∧i=.int .i64 k∧Prods n m r k 0∧wr.heap[w.heap.size+1]?=some (.cells (Ah m) 272 (0,0))∧wr.heap[w.heap.size+1+1]?=some (.cells (Ah [0,0,0,0,0]) 272 (0,0))∧wr.heap[w.heap.size+1+1+1]?=some (.cells (Ah r) 272 (0,0))∧Bw w wr) (fun i _=>5-(intOf i).toNat)
 case atStart=>exact⟨0,_,by omega,rfl,Prods.zero n m,(JL w _ _ _ _).2.1,(JL w _ _ _ _).2.2.1,(JL w _ _ _ _).2.2.2.1,(JL w _ _ _ _).2.2.2.2⟩
 case round =>
  obtain⟨k,r,hk,rfl,hc,hm1,hz,ho,hb⟩:=hrel;have hr5:=hc.len;by_cases hk5:k<5
  ·have hki:(k:Int)<5:=by omega
   have hix:=Q7 n hn.1 k hk5;obtain⟨x,hx⟩:∃ x,n.getD k 0=x:=⟨_,rfl⟩;rw[hx]at hix
   have HX:Hid (n.getD k 0=x):=hx;clear hx;go_wp2_with ((with_reducible (refine Ao ?_));(refine wpList_load_row rfl 272 _ rfl (w.heap.size+1) rfl 272 _ (0,0) _ hm1 underlying272 rfl hszm ?_))
   go_loopw [16] (fun i wr=>∃ (j:Nat) (r:List Int),j≤5∧i=.int .i64 j∧Prods n m r k j∧wr.heap[w.heap.size+1]?=some (.cells (Ah m) 272 (0,0))∧wr.heap[w.heap.size+1+1]?=some (.cells (Ah [0,0,0,0,0]) 272 (0,0))∧wr.heap[w.heap.size+1+1+1]?=some (.cells (Ah r) 272 (0,0))∧Bw w wr) (fun i _=>5-(intOf i).toNat)
   case atStart=>exact⟨0,r,by omega,rfl,hc,hm1,hz,ho,hb⟩
   case round =>
    clear hix;clear hc hm1 hz ho hb hr5;obtain⟨j,r,hj,rfl,hc,hm1,hz,ho,hb⟩:=hrel;have hr5:=hc.len;by_cases hj5:j<5
    ·have hji:(j:Int)<5:=by omega
     have hix:=Q7 m hm.1 j hj5;have hxy:=G1 (hn.2 k) (hm.2 j);rw[HX.out]at hxy
     by_cases hs:k+j<5
     ·have hsi:(k:Int)+(j:Int)<5:=by omega
      have cn:=(cell_of_row _ _ (k+j) _ _ _ ho).trans (Ap r (k+j) (by omega));have fn:=frozen_of_row _ _ (k+j) _ _ ho;have HS:Hid (Prods n m (r.set (k+j) (r.getD (k+j) 0+x*m.getD j 0)) k (j+1)):=by rw[← HX.out];exact hc.low_step hn hm hs
      have b1:=hc.low (k+j);have b2:r.getD (k+j) 0≤1152921504606846976:=by have:=hc.high (k+j);omega
      generalize r.getD (k+j) 0=z at cn HS b1 b2;generalize m.getD j 0=y at hix HS hxy;obtain⟨xy1,xy2⟩:=hxy;have e1:IntKind.u64.wrap (x*y)=x*y:=by rw[Ln];omega
      have e2:IntKind.u64.wrap (z+x*y)=z+x*y:=by rw[Ln];omega
      clear hc;go_wp2
      go_roundw
      case rel =>
       refine⟨j+1,_,by omega,by go_num,HS.out,?_,?_,DI ho (k+j) _,?_⟩
       ·rw[heap_setCell_other _ _ _ _ (by simp)];exact hm1
       ·rw[heap_setCell_other _ _ _ _ (by simp)];exact hz
       ·exact hb.setCell (p:=⟨w.heap.size+1+1+1,k+j,none⟩) (by simp;omega) _
      case measure=>simp[intOf];omega
     ·have hsi:¬ (k:Int)+(j:Int)<5:=by omega
      have cn:=(cell_of_row _ _ (k+j-5) _ _ _ ho).trans (Ap r (k+j-5) (by omega));have fn:=frozen_of_row _ _ (k+j-5) _ _ ho;have HS:Hid (Prods n m (r.set (k+j-5) (r.getD (k+j-5) 0+x*m.getD j 0*5)) k (j+1)):=by rw[← HX.out];exact hc.high_step hn hm (by omega) hk5 hj5
      have b1:=hc.low (k+j-5);have b2:r.getD (k+j-5) 0≤1152921504606846976:=by have:=hc.high (k+j-5);omega
      generalize r.getD (k+j-5) 0=z at cn HS b1 b2;generalize m.getD j 0=y at hix HS hxy;obtain⟨xy1,xy2⟩:=hxy;have e1:IntKind.u64.wrap (x*y)=x*y:=by rw[Ln];omega
      have e3:IntKind.u64.wrap (x*y*5)=x*y*5:=by rw[Ln];omega
      have e2:IntKind.u64.wrap (z+x*y*5)=z+x*y*5:=by rw[Ln];omega
      clear hc;obtain⟨t,ht⟩:∃ t:Nat,k+j=t+5:=⟨k+j-5,by omega⟩;have e4:(k:Int)+(j:Int)-5=(t:Int):=by omega
      have ht':k+j-5=t:=by omega
      rw[ht']at cn fn HS
      go_wp2
      go_roundw
      case rel =>
       refine⟨j+1,_,by omega,by go_num,HS.out,?_,?_,DI ho t _,?_⟩
       ·rw[heap_setCell_other _ _ _ _ (by simp)];exact hm1
       ·rw[heap_setCell_other _ _ _ _ (by simp)];exact hz
       ·exact hb.setCell (p:=⟨w.heap.size+1+1+1,t,none⟩) (by simp;omega) _
      case measure=>simp[intOf];omega
    ·have HJ:Hid (j=5):=by unfold Hid;omega
     have hji:¬ (j:Int)<5:=by omega
     go_wp2
     go_roundw
     case rel=>exact⟨k+1,r,by omega,by go_num,by have:=HJ.out;subst this;exact hc.row hm.1,hm1,hz,ho,hb⟩
     case measure=>simp[intOf];omega
  ·have HK:Hid (k=5):=by unfold Hid;omega
   have hki:¬ (k:Int)<5:=by omega
   have hsz1:=Cn hr5;have hc5:Prods n m r 5 0:=by have:=HK.out;subst this;exact hc
   obtain⟨l5,v5⟩:=hc5.five hn.1;have hzz:w.heap.size+1+1<wr.heap.size:=(Array.getElem?_eq_some_iff.1 hz).1;clear hc hc5 hm1;go_wp2_with ((with_reducible (refine Ao ?_));(refine wpList_load_row rfl 272 _ rfl (w.heap.size+1+1+1) rfl 272 _ (0,0) _ ho underlying272 rfl hsz1 ?_))
   refine(IC r wr l5).mono ?_;rintro e w1 ⟨r1,rfl,l1,v1,hb1⟩;have hz1:=(hb1.block (w.heap.size+1+1) hzz).trans hz;have hB1:Bw w w1:=hb.trans (hb1.mono hb.size);have hsz2:=Cn l1.1;go_wp2_with ((with_reducible (refine Ao ?_));(refine wpList_store_row rfl 272 _ _ rfl (w.heap.size+1+1) _ rfl rfl 272 _ hz1 hsz2 (by rw[Ak,Ak,l1.1];rfl) (Bg r1) ?_))
   refine bodyPost_ret (v:=.agg (Ah r1)) (results_cell_row rfl _ _ (w.heap.size+1+1) 272 _ (0,0) _ rfl (setRow_heap w1 (w.heap.size+1+1) _ _ 272 _ hz1) underlying272 rfl hsz2) rfl ⟨r1,rfl,l1,v1.trans v5,AP hB1 (by omega) _⟩
theorem OH(w:World)(n:List Int)(_hn:n.length=5){A W:World}(hA:A=((w.alloc (.cells (Ah n) 272 (0,0))).alloc (.cells (Ah [0,0,0,0,0]) 272 (0,0))).alloc (.cells (Ah [0,0,0,0,0]) 272 (0,0)))(hW:A.setRow (w.heap.size+1+1) (Ah n)=W) :
  W.heap[w.heap.size]?=some (.cells (Ah n) 272 (0,0))∧W.heap[w.heap.size+1]?=some (.cells (Ah [0,0,0,0,0]) 272 (0,0))∧W.heap[w.heap.size+1+1]?=some (.cells (Ah n) 272 (0,0))∧Bw w W:=by
 obtain⟨a1,a2,a3,a4⟩:=EY w (.cells (Ah n) 272 (0,0)) (.cells (Ah [0,0,0,0,0]) 272 (0,0)) (.cells (Ah [0,0,0,0,0]) 272 (0,0));rw[← hA]at a1 a2 a3 a4
 subst hW;refine⟨?_,?_,setRow_heap _ _ _ _ 272 _ a3,AP a4 (by omega) _⟩
 ·rw[setRow_other _ _ _ _ (by omega)];exact a1
 ·rw[setRow_other _ _ _ _ (by omega)];exact a2
theorem TG(n:List Int)(w:World)(hn:Lim 67108864 n) :
  Calls prog 204 #[.agg (Ah n)] w fun e w'=>∃ r,e=.returned (.agg (Ah r))∧Lim 67108864 r∧val r=val n%pp∧Bw w w':=by
 have h5:=hn.1;have hszn:=Cn h5;have x0:=hn.2 0;have hset:(n.set 0 (n.getD 0 0+5)).length=5:=by simpa using h5
 have hlim:Lim 9223372036854775808 (n.set 0 (n.getD 0 0+5)):=by
  refine⟨hset,fun j=>?_⟩;by_cases e:0=j
  ·subst e;rw[AF (by omega)];omega
  ·rw[Av e];have:=hn.2 j;omega
 have hszs:=Cn hset;have HL:Hid (∀ m o,Carr (n.set 0 (n.getD 0 0+5)) m 5 o→Lim 67108864 m∧(0<o→val m=val n%pp)∧(¬ 0<o→val n=val n%pp)):=fun m o h=>QI hn h;have HST:Hid (∀ W:World,W.heap[w.heap.size+1+1]?=some (.cells (Ah n) 272 (0,0))→(W.setCell ⟨w.heap.size+1+1,0,none⟩ (.int .u64 (n.getD 0 0+5))).heap[w.heap.size+1+1]?=some (.cells (Ah (n.set 0 (n.getD 0 0+5))) 272 (0,0))):=fun W h=>DI h 0 _;have HC:Hid (∀ W:World,W.heap[w.heap.size+1+1]?=some (.cells (Ah n) 272 (0,0))→W.cell? ⟨w.heap.size+1+1,0,none⟩=some (.int .u64 (n.getD 0 0))):=fun W h=>(cell_of_row W _ 0 _ _ _ h).trans (Ap n 0 (by omega));generalize n.set 0 (n.getD 0 0+5)=m0 at hlim HL hszs HST hset;generalize n.getD 0 0=x at x0 HST HC;obtain⟨x1,x2⟩:=x0;obtain⟨A,hA⟩:∃ A,A=((w.alloc (.cells (Ah n) 272 (0,0))).alloc (.cells (Ah [0,0,0,0,0]) 272 (0,0))).alloc (.cells (Ah [0,0,0,0,0]) 272 (0,0)):=⟨_,rfl⟩;obtain⟨W1,hW1⟩:∃ W,A.setRow (w.heap.size+1+1) (Ah n)=W:=⟨_,rfl⟩;obtain⟨s1,s2,s3,s4⟩:=OH w n h5 hA hW1;rw[hA]at hW1
 clear hA;have c0:=HC.out W1 s3;have f0:=frozen_of_row W1 _ 0 _ _ s3;have t3:=HST.out W1 s3;have t1:(W1.setCell ⟨w.heap.size+1+1,0,none⟩ (.int .u64 (x+5))).heap[w.heap.size]?=some (.cells (Ah n) 272 (0,0)):=by rw[heap_setCell_other _ _ _ _ (by simp;omega)];exact s1
 have t2:(W1.setCell ⟨w.heap.size+1+1,0,none⟩ (.int .u64 (x+5))).heap[w.heap.size+1]?=some (.cells (Ah [0,0,0,0,0]) 272 (0,0)):=by rw[heap_setCell_other _ _ _ _ (by simp)];exact s2
 have t4:Bw w (W1.setCell ⟨w.heap.size+1+1,0,none⟩ (.int .u64 (x+5))):=s4.setCell (p:=⟨w.heap.size+1+1,0,none⟩) (by simp;omega) _;have tz:w.heap.size+1+1<(W1.setCell ⟨w.heap.size+1+1,0,none⟩ (.int .u64 (x+5))).heap.size:=(Array.getElem?_eq_some_iff.1 t3).1;have HW:Hid _:=hW1;clear hW1 s1 s2 s3 s4 HST HC;go_enter func204,ntmps204
 go_wp2_with ((with_reducible (refine Ao ?_));first
  | (refine wpList_load_row rfl 272 _ rfl (w.heap.size) rfl 272 _ (0,0) _ (heap_alloc2_old _ _ _) underlying272 rfl hszn ?_)
  | (refine wpList_store_row rfl 272 _ _ rfl (w.heap.size+1+1) _ rfl rfl 272 (Ah [0,0,0,0,0]) (EY w _ _ _).2.2.1 hszn (by rw[Ak,Ak,h5];rfl) (Bg n) ?_;refine(congrArg (wpList _ _ _ _ _) HW.out).mpr ?_)
  | (refine wpList_load_row rfl 272 _ rfl (w.heap.size+1+1) rfl 272 _ (0,0) _ t3 underlying272 rfl hszs ?_))
 refine(OW m0 _ hlim).mono ?_;rintro e w1 ⟨m1,o,rfl,hc1,hb1⟩;obtain⟨l1,g1,g2⟩:=HL.out m1 o hc1;have o1:=hc1.lo;generalize W1.setCell _ _=W2 at hb1 t1 t2 t3 t4 tz;have u1:=(hb1.block w.heap.size (by omega)).trans t1;have u2:=(hb1.block (w.heap.size+1) (by omega)).trans t2;have u3:=(hb1.block (w.heap.size+1+1) (by omega)).trans t3;have u4:Bw w w1:=t4.trans (hb1.mono t4.size);have v1:(w1.setRow (w.heap.size+1+1) (Ah m1)).heap[w.heap.size]?=some (.cells (Ah n) 272 (0,0)):=(setRow_other _ _ _ _ (by omega)).trans u1;have v2:(w1.setRow (w.heap.size+1+1) (Ah m1)).heap[w.heap.size+1]?=some (.cells (Ah [0,0,0,0,0]) 272 (0,0)):=(setRow_other _ _ _ _ (by omega)).trans u2;have v3:=setRow_heap w1 (w.heap.size+1+1) _ (Ah m1) 272 _ u3;have v4:Bw w (w1.setRow (w.heap.size+1+1) (Ah m1)):=AP u4 (by omega) _;have hsz1:=Cn l1.1;by_cases ho:0<o
 ·have g1':=g1 ho;clear g1 g2 hc1 HL c0 f0 HW;go_wp2_with ((with_reducible (refine Ao ?_));first
   | (refine wpList_store_row rfl 272 _ _ rfl (w.heap.size+1+1) _ rfl rfl 272 _ u3 hsz1 (by rw[Ak,Ak,l1.1,hset]) (Bg m1) ?_)
   | (refine wpList_load_row rfl 272 _ rfl (w.heap.size+1+1) rfl 272 _ (0,0) _ v3 underlying272 rfl hsz1 ?_)
   | (refine wpList_store_row rfl 272 _ _ rfl (w.heap.size+1) _ rfl rfl 272 _ v2 hsz1 (by rw[Ak,Ak,l1.1];rfl) (Bg m1) ?_))
  exact bodyPost_ret (v:=.agg (Ah m1)) (results_cell_row rfl _ _ (w.heap.size+1) 272 _ (0,0) _ rfl (setRow_heap _ (w.heap.size+1) _ _ 272 _ v2) underlying272 rfl hsz1) rfl ⟨m1,rfl,l1,g1',AP v4 (by omega) _⟩
 ·have g2':=g2 (by omega);clear g1 g2 hc1 HL c0 f0 HW;go_wp2_with ((with_reducible (refine Ao ?_));first
   | (refine wpList_store_row rfl 272 _ _ rfl (w.heap.size+1+1) _ rfl rfl 272 _ u3 hsz1 (by rw[Ak,Ak,l1.1,hset]) (Bg m1) ?_)
   | (refine wpList_load_row rfl 272 _ rfl (w.heap.size) rfl 272 _ (0,0) _ v1 underlying272 rfl hszn ?_)
   | (refine wpList_store_row rfl 272 _ _ rfl (w.heap.size+1) _ rfl rfl 272 _ v2 hszn (by rw[Ak,Ak,h5];rfl) (Bg n) ?_))
  exact bodyPost_ret (v:=.agg (Ah n)) (results_cell_row rfl _ _ (w.heap.size+1) 272 _ (0,0) _ rfl (setRow_heap _ (w.heap.size+1) _ _ 272 _ v2) underlying272 rfl hszn) rfl ⟨n,rfl,hn,g2',AP v4 (by omega) _⟩
theorem Ud(k q sh:Nat)(h:sh+26*q=8*k)(hs:sh<26):(0:Int)≤2^sh∧(2:Int)^sh≤33554432∧(2:Int)^sh*67108864^q=256^k:=by
 refine⟨Int.le_of_lt (Int.pow_pos (by omega)),?_,?_⟩
 ·have h1:(2:Nat)^sh≤2^25:=Nat.pow_le_pow_right (by omega) (by omega);have h2:(((2:Nat)^sh:Nat):Int)≤((2^25:Nat):Int):=Int.ofNat_le.2 h1;rw[Int.natCast_pow]at h2
  exact h2
 ·rw[show(67108864:Int)=2^26 from rfl,show(256:Int)=2^8 from rfl,← Int.pow_mul,← Int.pow_mul,← Int.pow_add,h]
theorem Pr(v:Value)(b:List Int)(w:World)(h:Sl w v b)(hl:b.length≤17) :
  Calls prog 205 #[v] w fun e w'=>∃ r,e=.returned (.agg (Ah r))∧Lim 67108864 r∧val r%pp=leN b%pp∧Bw w w':=by
 obtain⟨⟨a,cap,rfl,hc,hn,h1⟩,hla,hba⟩:=h;have hcell:∃ B off,(b≠[]→a=some ⟨B,off,none⟩)∧(b≠[]→B<w.heap.size)∧∀ i,i<b.length→w.cell? ⟨B,off+i,none⟩=some (.int .u8 (b.getD i 0)):=by
  rcases h1 with rfl|⟨B,off,rfl,hb,hcell⟩
  ·exact⟨0,0,fun h=>absurd rfl h,fun h=>absurd rfl h,fun i hi=>by simp at hi⟩
  ·exact⟨B,off,fun _=>rfl,fun _=>hb,hcell⟩
 clear h1;obtain⟨B,off,ha,hB,HC0⟩:=hcell;have HC:Hid (∀ i,i<b.length→w.cell? ⟨B,off+i,none⟩=some (.int .u8 (b.getD i 0))):=HC0;have HA:Hid (b≠[]→a=some ⟨B,off,none⟩):=ha;have HB:Hid (b≠[]→B<w.heap.size):=hB;have HBY:Hid (∀ x∈b,0≤x∧x<256):=hba;obtain⟨n,HN⟩:∃ n,Hid (b.length=n):=⟨_,rfl⟩;rw[HN.out]at hl hc hla ⊢
 clear HC0 ha hB hba hn;go_enter func205,ntmps205
 go_wp2_with fail
 go_loopw [8] (fun i wr=>∃ (k:Nat) (r:List Int),k≤n∧i=.int .i64 k∧Reads b r k∧wr.heap[w.heap.size]?=some (.cells (Ah [0,0,0,0,0]) 272 (0,0))∧wr.heap[w.heap.size+1]?=some (.cells (Ah r) 272 (0,0))∧Bw w wr) (fun i _=>n-(intOf i).toNat)
 case atStart=>exact⟨0,_,by omega,rfl,Reads.zero b,heap_alloc2_old _ _ _,heap_alloc2_new _ _ _,((Below.refl _ _).alloc (Nat.le_refl _) _).alloc (by simp) _⟩
 case round =>
  obtain⟨k,r,hk,rfl,hr,hz,ho,hb⟩:=hrel;have hr5:=hr.len;by_cases hkn:k<n
  ·have hki:(k:Int)<(n:Int):=by omega
   have hne:b≠[]:=by intro e;have:=HN.out;rw[e]at this;simp at this;omega
   have hA:=HA.out hne;subst hA;have hBs:=HB.out hne;have ck:=(hb.cell (p:=⟨B,off+k,none⟩) hBs).trans (HC.out k (by rw[HN.out];exact hkn));have hbk:=Aj HBY.out k;have HS:Hid (∀ (q:Nat) (m:Int),q<5→0≤m∧m≤33554432→m*67108864^q=256^k→Reads b (r.set q (r.getD q 0+b.getD k 0*m)) (k+1)):=fun q m h1 h2 h3=>hr.succ hbk q m h1 h2 h3;have HR:Hid (∀ t,0≤r.getD t 0∧r.getD t 0≤300000000000):=fun t=>⟨hr.low t,by have:=hr.high t;omega⟩;have HK:Hid (∀ t,t<5→wr.cell? ⟨w.heap.size+1,t,none⟩=some (.int .u64 (r.getD t 0))):=fun t ht=>(cell_of_row _ _ t _ _ _ ho).trans (Ap r t (by omega));have HF:Hid (∀ t,wr.frozen? ⟨w.heap.size+1,t,none⟩=false):=fun t=>frozen_of_row _ _ t _ _ ho;have HST:Hid (∀ t x,(wr.setCell ⟨w.heap.size+1,t,none⟩ (.int .u64 x)).heap[w.heap.size+1]?=some (.cells (Ah (r.set t x)) 272 (0,0))):=fun t x=>DI ho t x;generalize b.getD k 0=x at ck HS hbk;obtain⟨x1,x2⟩:=hbk;clear hr;obtain⟨q,hq⟩:∃ q,8*k/26=q:=⟨_,rfl⟩;have hq5:q<5:=by omega
   have cq:=HK.out q hq5;have fq:=HF.out q;have rq:=HR.out q;have HSq:Hid (∀ (m:Int),0≤m∧m≤33554432→m*67108864^q=256^k→Reads b (r.set q (r.getD q 0+x*m)) (k+1)):=fun m h2 h3=>HS.out q m hq5 h2 h3;generalize r.getD q 0=y at cq rq HSq;obtain⟨y1,y2⟩:=rq;obtain⟨sh,hsh⟩:∃ sh,8*k%26=sh:=⟨_,rfl⟩;have hsh26:sh<26:=by omega
   have i1:(8*(k:Int))/26=(q:Int):=by omega
   have i2:(8*(k:Int))%26=(sh:Int):=by omega
   have i3:Int.tdiv (8*(k:Int)) 26=(q:Int):=by rw[Int.tdiv_eq_ediv_of_nonneg (by omega)];exact i1
   have i4:Int.tmod (8*(k:Int)) 26=(sh:Int):=by rw[Int.tmod_eq_emod_of_nonneg (by omega)];exact i2
   have HP:Hid ((0:Int)≤2^sh∧(2:Int)^sh≤33554432∧(2:Int)^sh*67108864^q=256^k):=Ud k q sh (by omega) hsh26;clear hq HK HF HR HS;go_wp2_with fail
   refine Aq 13 (by kernel_rfl) (by kernel_rfl) ?_;simp only[List.take_succ_cons,List.take_zero,List.drop_succ_cons,List.drop_zero]
   repeat (go_big_quiet_step (fail))
   refine wpQuiet_nil ?_;go_wp2
   obtain⟨p1,p2,p3⟩:=HP.out;have q1:0≤x*2^sh:=Int.mul_nonneg x1 p1;have q2:x*2^sh≤256*33554432:=Int.mul_le_mul (by omega) p2 p1 (by omega);rw[show IntKind.u64.wrap (x*2^sh)=x*2^sh by rw[Ln];omega,show IntKind.u64.wrap (y+x*2^sh)=y+x*2^sh by rw[Ln];omega];go_roundw
   case rel =>
    refine⟨k+1,_,by omega,by go_num,HSq.out (2^sh) ⟨p1,p2⟩ p3,?_,HST.out q _,?_⟩
    ·exact(heap_setCell_other _ _ _ _ (by simp)).trans hz
    ·exact(hb.setCell (p:=⟨w.heap.size+1,q,none⟩) (by simp) _).drew
   case measure=>simp[intOf];omega
  ·have HK:Hid (k=n):=by unfold Hid;omega
   have hki:¬ (k:Int)<(n:Int):=by omega
   have hsz1:=Cn hr5;have hlim:Lim 1152921504606846976 r:=⟨hr5,fun t=>⟨hr.low t,by have:=hr.high t;omega⟩⟩;have HV:Hid (val r=leN b):=by
    unfold Hid;rw[hr.sum,HK.out,← HN.out];rfl
   have hzz:w.heap.size<wr.heap.size:=(Array.getElem?_eq_some_iff.1 hz).1;clear hr;go_wp2_with ((with_reducible (refine Ao ?_));(refine wpList_load_row rfl 272 _ rfl (w.heap.size+1) rfl 272 _ (0,0) _ ho underlying272 rfl hsz1 ?_))
   refine(IC r wr hlim).mono ?_;rintro e w1 ⟨r1,rfl,l1,v1,hb1⟩;have hz1:=(hb1.block w.heap.size hzz).trans hz;have hB1:Bw w w1:=hb.trans (hb1.mono hb.size);have hsz2:=Cn l1.1;go_wp2_with ((with_reducible (refine Ao ?_));(refine wpList_store_row rfl 272 _ _ rfl (w.heap.size) _ rfl rfl 272 _ hz1 hsz2 (by rw[Ak,Ak,l1.1];rfl) (Bg r1) ?_))
   exact bodyPost_ret (v:=.agg (Ah r1)) (results_cell_row rfl _ _ (w.heap.size) 272 _ (0,0) _ rfl (setRow_heap w1 (w.heap.size) _ _ 272 _ hz1) underlying272 rfl hsz2) rfl ⟨r1,rfl,l1,by rw[v1,HV.out],AP hB1 (Nat.le_refl _) _⟩
end Go.Proofs.YtaeckakjdagddadGreatDoor
