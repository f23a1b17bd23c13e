/- Part 10 of the walk. -/
import Derived.Test.YtalbmmghmoggcadGreatDoorZ9
import Derived.Test.YtalbmmghmoggcadGreatDoorZ8
set_option maxRecDepth 100000
set_option maxHeartbeats 4000000
open Go.Proofs.Tryz
set_option linter.unusedVariables false
namespace Go.Proofs.YtalbmmghmoggcadGreatDoor
section
section
structure Plc(l:List Vt)(s:Int)(p:Nat):Prop where
 le:p<=l.length
 lo:∀ (i:Nat) (v:Vt),i<p->l[i]?=some v->v.slot<s
 hi:∀ (i:Nat) (v:Vt),p<=i->l[i]?=some v->s<=v.slot
theorem MX(a b:List Vt)(v:Vt)(h:∀ u∈a,u.slot<v.slot):Ba (a++b) v=a++Ba b v:=by
 induction a with
 | nil=>rfl
 | cons x a ih =>
  show Ba (x::(a++b)) v=x::(a++Ba b v);rw[Ba,if_pos (h x U'),ih (λu hu=>h u (P' _ hu))]
variable{i j m p:Nat}{l:List Vt}{s:Int}{u v x:Vt}
theorem Plc.front(h:Plc l s p):∀ u∈l.take p,u.slot<s:=by
 intro u hu;obtain⟨i,hi⟩:=jG.1 hu;rw[jL]at hi
 split at hi
 .rename_i hip;exact h.lo i u hip hi
 .cases hi
theorem Plc.has(h:Plc l v.slot p)(hu:l[p]?=some u)(he:u.slot=v.slot):Ba l v=l.take p++(v::l.drop (p+1)):=by
 obtain⟨hp,e⟩:=Q'.1 hu;have hd:l.drop p=u::l.drop (p+1):=by rw[<- e];exact js hp
 have h1:=MX (l.take p) (l.drop p) v h.front;rw[jz]at h1
 rw[h1,hd,Ba,if_neg (by omega),if_pos he]
theorem Plc.no(h:Plc l v.slot p)(hn:∀ u,l[p]?=some u->u.slot≠v.slot):Ba l v=l.take p++(v::l.drop p):=by
 have h1:=MX (l.take p) (l.drop p) v h.front;rw[jz]at h1
 rw[h1];rcases jt p l.length with hp|hp
 .have hd:l.drop p=l[p]::l.drop (p+1):=js hp;have h2:=h.hi p l[p] (A' _) (E' hp);have h3:=hn l[p] (E' hp);rw[hd,Ba,if_neg (by omega),if_neg h3]
 .rw[jD hp,Ba]
theorem Plc.ofSlot_has(hr:BA l)(hu:l[p]?=some u)(he:u.slot=s):Af l s=[u]:=by
 have h1:=II hr s;have h2:u∈Af l s:=BO.2 ⟨jG.2 ⟨p,hu⟩,he⟩
 match hl:Af l s with
 | []=>rw[hl]at h2;cases h2
 | [x]=>rw[hl]at h2;rw[O'.1 h2]
 | x::y::r=>rw[hl]at h1;simp at h1
theorem Plc.ofSlot_no(hr:BA l)(h:Plc l s p)(hn:∀ u,l[p]?=some u->u.slot≠s):Af l s=[]:=by
 rw[List.eq_nil_iff_forall_not_mem];intro u hu;obtain⟨hu,he⟩:=BO.1 hu;obtain⟨i,hi⟩:=jG.1 hu;rcases lI i p with hip|rfl|hip
 .have:=h.lo i u hip hi;omega
 .exact hn u hi he
 .have hip':i<l.length:=(Q'.1 hi).1;have hp:p<l.length:=by omega
  have h2:=h.hi p l[p] (A' _) (E' hp);have h3:=rise_lt hr hip (E' hp) hi;omega
where
 rise_lt:∀ {l:List Vt} (hr:BA l) {i j:Nat} (hij:i<j) {u v:Vt} (hu:l[i]?=some u) (hv:l[j]?=some v),u.slot<v.slot
  | x::xs,hr,0,j+1,_,u,v,hu,hv=>by
   simp at hu hv;subst hu;exact hr.1 v (jG.2 ⟨j,hv⟩)
  | x::xs,hr,i+1,j+1,hij,u,v,hu,hv=>rise_lt (l:=xs) hr.2 (i:=i) (j:=j) (by omega) (by simpa using hu) (by simpa using hv)
  | [],_,i,j,_,u,v,hu,hv=>by simp at hu
theorem BA.get(hr:BA l)(hij:i<j)(hu:l[i]?=some u)(hv:l[j]?=some v):u.slot<v.slot:=Plc.ofSlot_no.rise_lt hr hij hu hv
theorem Plc.half(hr:BA l){h:Nat}(hu:l[h]?=some u)(hlo:∀ (k:Nat) (v:Vt),k<i->l[k]?=some v->v.slot<s)(hhi:∀ (k:Nat) (v:Vt),j<=k->l[k]?=some v->s<=v.slot) :
  (u.slot<s->∀ (k:Nat) (v:Vt),k<h+1->l[k]?=some v->v.slot<s)/\(s<=u.slot->∀ (k:Nat) (v:Vt),h<=k->l[k]?=some v->s<=v.slot):=by
 constructor
 .intro g k v hk hv;rcases jt k h with hkh|hkh
  .have:=hr.get hkh hv hu;omega
  .obtain rfl:k=h:=by omega
   rw[hu]at hv;cases hv;exact g
 .intro g k v hk hv;rcases jt h k with hkh|hkh
  .have:=hr.get hkh hu hv;omega
  .obtain rfl:k=h:=by omega
   rw[hu]at hv;cases hv;exact g
def PE(o:Option Vt)(v:Vt):Option Vt:=match o with
 | none=>some v
 | some u=>if u.b.lt v.b then some v else some u
theorem QD(l:List Vt)(v:Vt)(o:Option Vt):BY (l++[v]) o=PE (BY l o) v:=by
 induction l generalizing o with
 | nil =>
  cases o with
  | none=>rfl
  | some u =>
   show BY [v] (some u)=PE (some u) v;rw[BY,PE];split<;>rfl
 | cons x l ih =>
  cases o with
  | none=>exact ih _
  | some u =>
   show BY (x::(l++[v])) (some u)=PE (BY (x::l) (some u)) v;rw[BY,BY];split
   .exact ih _
   .exact ih _
def vt0:Vt:=⟨0,⟨0,0⟩,⟨0,0,0,0,0⟩⟩
def DV(o:Option Vt)(x:Vt):Prop:=(o=none/\x=vt0)\/(o=some x/\Ab x.b)
theorem DV.next{o:Option Vt}(h:DV o x)(hv:Ab v.b):DV (PE o v) (if x.b.lt v.b then v else x):=by
 rcases h with⟨rfl,rfl⟩|⟨rfl,hx⟩
 .rw[if_pos (by unfold Ab at hv;unfold Bal.lt;simp[vt0];omega)];exact .inr ⟨rfl,hv⟩
 .show DV (if x.b.lt v.b then some v else some x) _;split
  .exact .inr ⟨rfl,hv⟩
  .exact .inr ⟨rfl,hx⟩
theorem DV.pick{ls:List (List Vt)}(hs:0<=s/\s<=39)(hb:∀ l∈ls,∀ v∈l,Ak v)(h:DV (Jw ls s) x):(if C1 ls s=0 then((Jw ls s).map (·.w)).getD ⟨0,0,0,0,0⟩else⟨0,0,0,0,0⟩)=x.w/\(if C1 ls s=0 then(Jw ls s).isSome else false)=!decide (x.b.r=0/\x.b.n=0)/\C1 ls s=0:=by
 have e:C1 ls s=0:=by unfold C1;rw[if_neg (λg=>g hs),if_pos hb]
 rw[if_pos e,if_pos e];rcases h with⟨h1,rfl⟩|⟨h1,h2⟩
 .rw[h1];exact⟨rfl,rfl,e⟩
 .rw[h1];refine⟨rfl,?_,e⟩;rw[D' (by unfold Ab at h2;omega)];rfl
theorem XB(l:List Vt)(h:u≠v):BN l u+BN l v<=l.length:=by
 induction l with
 | nil=>simp[BN]
 | cons x l ih =>
  unfold BN at ih ⊢;rw[mp,mp,jo];by_cases hx:x=u
  .subst hx;rw[if_pos (by simp),if_neg (by simp[h])];omega
  .by_cases hy:x=v
   .subst hy;rw[if_neg (by simp[hx]),if_pos (by simp)];omega
   .rw[if_neg (by simp[hx]),if_neg (by simp[hy])];omega
theorem XA(h:0<BN l v):v∈l:=by
 unfold BN at h;obtain⟨u,hu,e⟩:=List.countP_pos_iff.1 h;rw[<- jn e];exact hu
theorem aD(a b:List Vt)(v:Vt):BN a v<=BN (a++b) v:=by
 unfold BN;rw[l8];omega
theorem QL(hl:l.length<=m)(h:m<2*BN l v):Hk l m=some v:=by
 cases hf:Hk l m with
 | none =>
  have:=j6.1 hf v (XA (by omega));simp at this;omega
 | some u =>
  have hu:=List.find?_some hf;simp at hu;by_cases e:u=v
  .rw[e]
  .have:=XB l e;omega
theorem VX(h:∀ v,2*BN l v<=m):Hk l m=none:=by
 unfold Hk;rw[j6];intro v _;have:=h v;simp;omega
end
end
section
open Go.RowKit
section
variable{B cap n p:Nat}{P:Program}{Q:Exit->Act->World->Prop}{a:Option Addr}{g:Gh}{l:List Vt}{o:Oper}{ops:Array Oper}{rest:List Oper}{s:Int}{v:Vt}{w w' w0:World}{y:Value}
theorem Sv.first(h:Sv w (.slice a n cap) l)(i:Nat)(v:Vt)(hi:l[i]?=some v):∃ b off,a=some ⟨b,off,none⟩/\b<w.heap.size/\w.cell? ⟨b,off+8*i,none⟩=some (.int .i64 v.slot):=by
 obtain⟨b,off,ha,hb,hr⟩:=h.spot i v hi;exact⟨b,off,ha,hb,hr 0 _ rfl⟩
theorem RY(g1 g2:Nat)(a:Option Addr)(n cap:Nat)(l:List Vt)(s:Int)(i:Nat)(v:Vt)(w:World)(hl:l.length=n)(hv:l[i]?=some v)(h:Sv w (.slice a n cap) l)(c1:w.cell? ⟨g1,0,none⟩=some (.slice a n cap))(c2:w.cell? ⟨g2,0,none⟩=some (.int .i64 s)) :
  Calls prog 198 #[.int .i64 (i:Int),.pointer (some ⟨g1,0,none⟩),.pointer (some ⟨g2,0,none⟩)] w λe w'=>e=.returned (.bool (decide (s<=v.slot)))/\Bw w w':=by
 obtain⟨b,off,rfl,hb,c3⟩:=h.first i v hv;have hin:i<n:=by have:=(Q'.1 hv).1;omega
 have hix:=D7 b off n cap i hin;have bb:=Below.refl w.heap.size w;go_enter func198,ntmps198
 go_wp2_with fail
 go_quiet (fail)
 have e1:Bw w (w.drewN nq):=Ao bb nq;go_wp2
 go_ret;exact⟨Ae (by simp),e1⟩
theorem Sj(g1 g2:Nat)(a:Option Addr)(n cap:Nat)(l:List Vt)(s:Int)(w:World)(hl:l.length=n)(hr:BA l)(h:Sv w (.slice a n cap) l)(l1:g1<w.heap.size)(l2:g2<w.heap.size)(c1:w.cell? ⟨g1,0,none⟩=some (.slice a n cap))(c2:w.cell? ⟨g2,0,none⟩=some (.int .i64 s)) :
  Calls prog 197 #[.int .i64 (n:Int),.func (.func 198) #[] #[.pointer (some ⟨g1,0,none⟩),.pointer (some ⟨g2,0,none⟩)]] w λe w'=>∃ p:Nat,e=.returned (.int .i64 (p:Int))/\Plc l s p/\Bw w w':=by
 have hlen:=h.len;rw[hl]at hlen
 have HL:Hid (l.length=n):=hl;clear hl;go_enter func197,ntmps197
 go_wp2_with fail
 go_loopw [5,6] (λiv jv wr=>∃ i j:Nat,i<=j/\j<=n/\iv=.int .i64 (i:Int)/\jv=.int .i64 (j:Int)/\(∀ (k:Nat) (v:Vt),k<i->l[k]?=some v->v.slot<s)/\(∀ (k:Nat) (v:Vt),j<=k->l[k]?=some v->s<=v.slot)/\Bw w wr) (λiv jv _=>(intOf jv-intOf iv).toNat)
 case atStart=>exact⟨0,n,by omega,by omega,rfl,rfl,λk v hk=>by omega,λk v hk hv=>by have:=(Q'.1 hv).1;have:=HL.out;omega,Below.refl _ _⟩
 case round =>
  obtain⟨i,j,hij,hjn,rfl,rfl,hlo,hhi,hbel⟩:=hrel;have HLo:Hid (∀ (k:Nat) (v:Vt),k<i->l[k]?=some v->v.slot<s):=hlo;have HHi:Hid (∀ (k:Nat) (v:Vt),j<=k->l[k]?=some v->s<=v.slot):=hhi;clear hlo hhi;by_cases hlt:i<j
  .have hlt':(i:Int)<(j:Int):=by omega
   go_wp2_with fail
   obtain⟨m,hm⟩:∃ m:Nat,((i:Int)+(j:Int))/2=(m:Int):=⟨(i+j)/2,by omega⟩;rw[hm];have m1:i<=m:=by omega
   have m2:m<j:=by omega
   clear hm;obtain⟨v,hv⟩:∃ v,l[m]?=some v:=⟨_,E' (by have:=HL.out;omega)⟩;refine(RY g1 g2 a n cap l s m v wr HL.out hv (h.below hbel) ((hbel.cell (p:=⟨g1,0,none⟩) l1).trans c1) ((hbel.cell (p:=⟨g2,0,none⟩) l2).trans c2)).mono ?_;rintro e w2 ⟨rfl,b2⟩;have e2:=hbel.trans (b2.mono hbel.size);obtain⟨P1,P2⟩:=Plc.half hr hv HLo.out HHi.out;by_cases hs:s<=v.slot
   .rw[I' hs];have HH:Hid (∀ (k:Nat) (v:Vt),m<=k->l[k]?=some v->s<=v.slot):=P2 hs;clear P1 P2 hv hs;go_wp2
    go_roundw
    case rel=>exact⟨i,m,by omega,by omega,rfl,rfl,HLo.out,HH.out,e2⟩
    case measure=>simp[intOf];omega
   .rw[D' hs];have HH:Hid (∀ (k:Nat) (v:Vt),k<m+1->l[k]?=some v->v.slot<s):=P1 (by omega);clear P1 P2 hv hs;go_wp2
    go_roundw
    case rel=>exact⟨m+1,j,by omega,by omega,by go_num,rfl,HH.out,HHi.out,e2⟩
    case measure=>simp[intOf];omega
  .obtain rfl:i=j:=by omega
   go_wp2
   go_ret;exact⟨i,rfl,⟨by have:=HL.out;omega,HLo.out,HHi.out⟩,hbel⟩
theorem Jx(x:Value)(l:List Vt)(s:Int)(w:World)(hr:BA l)(h:Sv w x l) :
  Calls prog 187 #[x,.int .i64 s] w λe w'=>∃ p:Nat,e=.returned (.int .i64 (p:Int))/\Plc l s p/\Bw w w':=by
 obtain⟨a,cp,rfl⟩:=h.shape;obtain⟨n,hn⟩:∃ n,l.length=n:=⟨_,rfl⟩;rw[hn]at h ⊢
 have HL:Hid (l.length=n):=hn;clear hn;have r1:=heap_alloc2_old w (.cells #[.slice a n cp] 103) (.cells #[.int .i64 s] 3);have r2:=heap_alloc2_new w (.cells #[.slice a n cp] 103) (.cells #[.int .i64 s] 3);have bb:Bw w ((w.alloc (.cells #[.slice a n cp] 103)).alloc (.cells #[.int .i64 s] 3)):=((Below.refl _ _).alloc (A' _) _).alloc (by simp) _;generalize hW:(w.alloc (.cells #[.slice a n cp] 103)).alloc (.cells #[.int .i64 s] 3)=W at r1 r2 bb;have z:W.heap.size=w.heap.size+2:=by rw[<- hW];simp
 have c1:W.cell? ⟨w.heap.size,0,none⟩=some (.slice a n cp):=cell_of_row _ _ 0 _ _ _ r1;have c2:W.cell? ⟨w.heap.size+1,0,none⟩=some (.int .i64 s):=cell_of_row _ _ 0 _ _ _ r2;have hW2:=h.below bb;go_enter func187,ntmps187
 go_wp2_with fail
 clear hW;refine(Sj w.heap.size (w.heap.size+1) a n cp l s W HL.out hr hW2 (by omega) (by omega) c1 c2).mono ?_;rintro e w2 ⟨p,rfl,hp,b2⟩;have d2:=bb.trans (b2.mono bb.size);have HP:Hid (Plc l s p):=hp;clear hp;go_wp2
 go_ret;exact⟨p,rfl,HP.out,d2⟩
def KQ(l:List Vt)(p:Nat)(s:Int):Bool:=match l[p]? with|some v=>decide (v.slot=s)|none=>false
theorem IA(h:l[p]?=some v):KQ l p s=decide (v.slot=s):=by unfold KQ;rw[h]
theorem MT(h:l[p]?=none):KQ l p s=false:=by unfold KQ;rw[h]
theorem MU(h:KQ l p s=true):∃ v,l[p]?=some v/\v.slot=s:=by
 cases hu:l[p]? with
 | none=>rw[MT hu]at h;cases h
 | some v=>rw[IA hu]at h;exact⟨v,rfl,jn h⟩
theorem KR(h:KQ l p s=false):∀ v,l[p]?=some v->v.slot≠s:=by
 intro v hv;rw[IA hv]at h
 exact of_decide_eq_false h
theorem Jn(x:Value)(l:List Vt)(p:Nat)(s:Int)(w:World)(h:Sv w x l) :
  Calls prog 188 #[x,.int .i64 (p:Int),.int .i64 s] w λe w'=>e=.returned (.bool (KQ l p s))/\w'=w:=by
 obtain⟨a,cp,rfl⟩:=h.shape;obtain⟨n,hn⟩:∃ n,l.length=n:=⟨_,rfl⟩;rw[hn]at h ⊢
 by_cases hp:p<n
 .obtain⟨v,hv⟩:∃ v,l[p]?=some v:=⟨_,E' (by omega)⟩;obtain⟨b,off,rfl,hb,c3⟩:=h.first p v hv;have hix:=D7 b off n cp p hp;have hpi:(p:Int)<(n:Int):=by omega
  rw[IA hv];clear hn hv h;go_enter func188,ntmps188
  go_wp2
  go_ret;exact⟨Ae (by first|rfl|simp),rfl⟩
 .have hv:l[p]?=none:=j3 (by omega);have hpi:¬ (p:Int)<(n:Int):=by omega
  rw[MT hv];clear hn hv h;go_enter func188,ntmps188
  go_wp2
  go_ret;exact⟨rfl,rfl⟩
theorem Sv.cells{ad:Addr}{m:List Vt}(h:Sv w (.slice (some ad) n cap) m):∀ j u,(vtL m)[j]?=some u->w.cell? (ad.add j)=some u:=by
 intro j u hj;obtain⟨⟨a,cp,e,hc,hn,h1⟩,_⟩:=h;simp only[Value.slice.injEq]at e;obtain⟨rfl,rfl,rfl⟩:=e;rcases h1 with rfl|⟨b,off,hab,_,hcell⟩
 .simp[vtL]at hj
 .obtain rfl:ad=⟨b,off,none⟩:=by simpa using hab
  obtain⟨v,h2,h3⟩:=YN m j u hj;have hadd:(⟨b,off,none⟩:Addr).add j=⟨b,off+j,none⟩:=by unfold Addr.add;split<;>simp_all
  rw[hadd];have h4:=hcell (j/8) v h2 (j%8) u h3
  rwa [show off+8*(j/8)+j%8=off+j by omega]at h4
theorem Qh(w:World)(base dT sT ty e:Nat)(hu:P.underlying dT=some (.slice e))(hs:(P.info? e).map (·.size)=some 8)(g n:Nat)(xs:List Value)(hown:w.ownsRow base e 8 (.slice (some ⟨g,0,none⟩) n n) n xs)(u:Value)(m:List Vt)(hm:m.length=n)(hv:Sv w u m) :
  ∃ w',(Builtin.copy_ #[dT,sT] ty #[.slice (some ⟨g,0,none⟩) n n,u]).run P w=.ok (goInt n) w'/\w'.ownsRow base e 8 (.slice (some ⟨g,0,none⟩) n n) n (vtL m)/\Below g w w':=by
 obtain⟨i,hq,hi⟩:∃ i,P.info? e=some i/\i.size=8:=by
  cases hq:P.info? e with
  | none=>rw[hq]at hs;cases hs
  | some i=>rw[hq]at hs;exact⟨i,rfl,by simpa using hs⟩
 rcases hown.2 with⟨h0,_⟩|⟨g',cap,cur,hvv,hbg,hg,hnc,hcm,hcs,ht⟩
 .cases h0
 .simp only[Value.slice.injEq,X',Addr.mk.injEq]at hvv;obtain⟨⟨rfl,_⟩,_,rfl⟩:=hvv;have hv2:=hv;obtain⟨⟨a,cp,rfl,hc,hn,h1⟩,_⟩:=hv;rw[hm]at hv2 ⊢
  cases a with
  | none =>
   have hc0:=hn rfl;subst hc0;have hm0:n=0:=by omega
   subst hm0;have hmn:m=[]:=iN hm;subst hmn;refine⟨w,?_,⟨rfl,.inr ⟨g,0,cur,rfl,hbg,hg,hnc,hcm,hcs,by simp[vtL]⟩⟩,Below.refl _ _⟩;simp[Builtin.copy_,run_underlying hu,Builtin.lenOf,Builtin.firstCells,sizeOf,typeInfo,hq,storeCells]
  | some ad =>
   have hl:=run_firstCells_some (P:=P) w 8 n ad n cp (vtL m) (by rw[CG,hm]) hv2.cells;have hst:=run_storeCells_at P g 0 e (vtL m) 0 cur w hg (by rw[CG,hm];omega) (T9 m);have hfull:(cur.toList.take (0+0)++vtL m++cur.toList.drop (0+0+(vtL m).length))=vtL m:=by
    rw[CG,hm,jD (by rw[jW];omega)];simp
   rw[hfull]at hst
   refine⟨w.setRow g (vtL m).toArray,?_,⟨by rw[CG,hm],.inr ⟨g,n,(vtL m).toArray,rfl,hbg,setRow_heap w g cur _ e _ hg,A' _,hcm,by simp[CG,hm],?_⟩⟩,?_⟩
   .simp[Builtin.copy_,run_underlying hu,Builtin.lenOf,sizeOf,typeInfo,hq,hi,hl,hst]
   .rw[iU (by simp[CG,hm])]
   .exact⟨rfl,rfl,rfl,by simp,λk hk=>setRow_other w g k _ (by omega)⟩
theorem LX(w:World){a:Act}(hgd:o.guard=none)(d s:Operand)(dT sT:TypeId)(ho:o.op=.call { callee:=.builtin .copy,args:=#[d,s],argTypes:=#[dT,sT] })(base e:Nat)(hu:P.underlying dT=some (.slice e))(hs:(P.info? e).map (·.size)=some 8)(g n:Nat)(xs:List Value)(hd:a.eval d=.slice (some ⟨g,0,none⟩) n n)(hown:w.ownsRow base e 8 (.slice (some ⟨g,0,none⟩) n n) n xs)(u:Value)(hu':a.eval s=u)(m:List Vt)(hm:m.length=n)(hv:Sv w u m)(h:∀ w',w'.ownsRow base e 8 (.slice (some ⟨g,0,none⟩) n n) n (vtL m)->Below g w w'->wpList P ops Q rest (a.put o.dst (goInt n)) w'):wpList P ops Q (o::rest) a w:=by
 refine wpList_plain hgd λK hK=>?_;obtain⟨w',hrun,r1,r2⟩:=Qh (P:=P) w base dT sT o.type e hu hs g n xs hown u m hm hv;unfold Oper.wp execOp;simp only[ho,resolve,invoke,builtin,Sem.run_bind,Sem.run_pure,Result.andThen_ok,kS,ji,jX,hd,hu',hrun];exact hK _ _ (h w' r1 r2)
theorem LZ(w:World){a:Act}(hg:o.guard=none)(l c:Operand)(t:TypeId)(hop:o.op=Op.makeSlice t l c)(base:Nat)(e:TypeId)(h1:P.underlying t=some (.slice e))(hinfo:(P.info? e).map (λi=>(i.zero,i.size,i.bytes))=some (some zVt,8,64))(n:Nat)(hl:a.eval l=.int .i64 (n:Int))(hc:a.eval c=.int .i64 (n:Int))(hn:n<=2199023255488)(b4:base<=w.heap.size)(hK:∀ w',Hid (∃ xs,w'.ownsRow base e 8 (.slice (some ⟨w.heap.size,0,none⟩) n n) n xs)->w.grownBy w' none->wpList P ops Q rest (a.put o.dst (.slice (some ⟨w.heap.size,0,none⟩) n n)) w'):wpList P ops Q (o::rest) a w:=by
 obtain⟨i0,hi,hz0,hz1,hz2⟩:=info_parts hinfo;refine wpList_make_full w hg l c t hop base e i0 zVt 8 h1 hi hz0 hz1 _ _ _ _ n hl hc rfl rfl (by rw[hz2];omega) (by unfold maxLen;omega) b4 (λw' o1 g1=>hK w' ⟨_,o1⟩ g1)
theorem Br{b b' e k8:Nat}{v:Value}{xs:List Value}(h:w.ownsRow b e k8 v n xs)(hb:b'<=b):w.ownsRow b' e k8 v n xs:=by
 refine⟨h.1,?_⟩;rcases h.2 with h2|⟨g,cap,cur,hv,hbg,hr⟩
 .exact .inl h2
 .exact .inr ⟨g,cap,cur,hv,iP hb hbg,hr⟩
theorem vt8:(prog.info? 166).map (·.size)=some 8:=by kernel_rfl
theorem KA(x:Value)(l:List Vt)(w:World)(h:Sv w x l) :
  Calls prog 158 #[x] w λe w'=>∃ x',e=.returned x'/\w'.ownsRow w.heap.size 166 8 x' l.length (vtL l)/\Bw w w':=by
 have hlen:=h.len;obtain⟨a,cp,rfl⟩:=h.shape;obtain⟨N,hN⟩:∃ N,l.length=N:=⟨_,rfl⟩;have HN:Hid (l.length=N):=hN;rw[hN]at h hlen ⊢
 clear hN;go_enter func158,ntmps158
 go_wp2_with ((with_reducible (refine As ?_));at_make;refine LZ _ rfl _ _ 103 rfl w.heap.size 166 underlying103 Ep N rfl rfl hlen (A' _) ?_)
 intro w1 o1 g1;have b1:Bw w w1:=(Below.refl _ _).grown g1 (A' _) (λk hk=>by cases hk);have h1:=h.below b1;obtain⟨xs,o1⟩:=o1.out;have HO:Hid (w1.ownsRow w.heap.size 166 8 (.slice (some ⟨w.heap.size,0,none⟩) N N) N xs):=o1;clear o1;go_wp2_with ((with_reducible (refine As ?_));refine LX _ rfl _ _ 103 103 rfl w.heap.size 166 underlying103 vt8 w.heap.size N _ rfl HO.out _ rfl l HN.out h1 ?_)
 intro w2 o2 b2;have HO2:Hid (w2.ownsRow w.heap.size 166 8 (.slice (some ⟨w.heap.size,0,none⟩) N N) N (vtL l)):=o2;have d2:=b1.trans b2;clear o2 HO;go_wp2
 go_ret;exact⟨_,rfl,HO2.out,d2⟩
theorem Sv.window(h:Sv w (.slice a n cap) l)(lo hi:Nat)(hlo:lo<=hi)(hhi:hi<=l.length):Sv w (sliced a lo hi cap 8) ((l.take hi).drop lo):=by
 obtain⟨⟨a',cap',e,hc,hn,h1⟩,hla⟩:=h;simp only[Value.slice.injEq]at e;obtain⟨rfl,rfl,rfl⟩:=e;have hl:((l.take hi).drop lo).length=hi-lo:=by rw[iQ,iO];omega
 cases a with
 | none =>
  have c0:=hn rfl;subst c0;have h0:l.length=0:=by omega
  refine⟨⟨_,_,by rw[hl];rfl,by omega,λ_=>by omega,.inl (iN (by omega))⟩,by omega⟩
 | some ad =>
  refine⟨⟨_,_,by rw[hl];rfl,by omega,(by intro h;split at h<;>simp at h),?_⟩,by omega⟩;rcases Nat.eq_or_lt_of_le hlo with he|hlt
  .exact .inl (iN (by omega))
  .rcases h1 with rfl|⟨b,off,e2,hbs,hcell⟩
   .simp at hhi;omega
   .simp only[X']at e2;subst e2;refine .inr ⟨b,off+lo*8,?_,hbs,λi v hi2=>?_⟩
    .rw[if_neg (by omega)];simp[Addr.add]
    .rw[jB,jL]at hi2
     split at hi2
     .have:=hcell (lo+i) v hi2
      rwa [show off+8*(lo+i)=off+lo*8+8*i by omega]at this
     .cases hi2
theorem Sv.upTo(h:Sv w (.slice a n cap) l)(hi:Nat)(hhi:hi<=l.length) :
  ∃ a' c',(∀ W,(Instr.slice 103 (.slice a n cap) none (some (.int .i64 (hi:Int))) none).run prog W=.ok (.slice a' hi c') W)/\Sv w (.slice a' hi c') (l.take hi):=by
 have hw:=h.window 0 hi (by omega) hhi;obtain⟨⟨a',cap',e,hc,hn,h1⟩,hla⟩:=h;simp only[Value.slice.injEq]at e;obtain⟨rfl,rfl,rfl⟩:=e;refine⟨_,_,λW=>?_,by simpa[sliced]using hw⟩;rw[run_slice_h (P:=prog) W 103 a _ cap underlying103 .i64 _ (by omega) (by omega)];rw[QZ,Sm];simp[Result.andThen,sliced]
theorem Sv.from(h:Sv w (.slice a n cap) l)(lo:Nat)(hlo:lo<=l.length) :
  ∃ a' c',(∀ W,(Instr.slice 103 (.slice a n cap) (some (.int .i64 (lo:Int))) none none).run prog W=.ok (.slice a' (n-lo) c') W)/\Sv w (.slice a' (n-lo) c') (l.drop lo):=by
 have hw:=h.window lo l.length hlo (A' _);obtain⟨⟨a',cap',e,hc,hn,h1⟩,hla⟩:=h;simp only[Value.slice.injEq]at e;obtain⟨rfl,rfl,rfl⟩:=e;refine⟨_,_,λW=>?_,by simpa[sliced]using hw⟩;rw[run_slice_l (P:=prog) W 103 a _ cap underlying103 .i64 _ (by omega) (by omega)];rw[QZ,Sm];simp[Result.andThen,sliced]
theorem ED(w:World){a:Act}(hg:o.guard=none)(l c:Operand)(t:TypeId)(hop:o.op=Op.makeSlice t l c)(base:Nat)(e:TypeId)(h1:P.underlying t=some (.slice e))(hinfo:(P.info? e).map (λi=>(i.zero,i.size,i.bytes))=some (some zVt,8,64))(C:Int)(n:Nat)(hl:a.eval l=.int .i64 0)(hc:a.eval c=.int .i64 C)(hC:C=(n:Int))(hn:n<=2199023255500)(b4:base<=w.heap.size)(hK:∀ w',Hid (w'.ownsRow base e 8 (.slice (some ⟨w.heap.size,0,none⟩) 0 n) ([]:List Vt).length (vtL []))->w.grownBy w' none->wpList P ops Q rest (a.put o.dst (.slice (some ⟨w.heap.size,0,none⟩) 0 n)) w'):wpList P ops Q (o::rest) a w:=by
 obtain⟨i0,hi,hz0,hz1,hz2⟩:=info_parts hinfo;exact wpList_make_own w hg l c t hop base e i0 zVt 8 h1 hi hz0 hz1 _ _ C n hl hc hC (by rw[hz2];omega) (by unfold maxLen;omega) b4 (λw' o1 g1=>hK w' o1 g1)
theorem OD(x:Value)(l:List Vt)(v:Vt)(w:World)(hr:BA l)(h:Sv w x l) :
  Calls prog 163 #[x,.agg (vtA v)] w λe w'=>∃ x',e=.returned x'/\w'.ownsRow w.heap.size 166 8 x' (Ba l v).length (vtL (Ba l v))/\Bw w w':=by
 have hlen:=h.len;obtain⟨a,cp,rfl⟩:=h.shape;obtain⟨n,hn⟩:∃ n,l.length=n:=⟨_,rfl⟩;rw[hn]at h hlen ⊢
 have HL:Hid (l.length=n):=hn;clear hn;have bb:Bw w (w.alloc (.cells (vtA v) 166)):=(Below.refl _ _).alloc (A' _) _;have rr:=heap_alloc_new w (.cells (vtA v) 166);have hsz:=fg v;have HU:Hid (∀ p,Plc l v.slot p->KQ l p v.slot=true->Ba l v=l.take p++[v]++l.drop (p+1)/\p+1<=l.length):=λp hp hh=>by
  obtain⟨u,hu,he⟩:=MU hh;exact⟨by rw[hp.has hu he];simp,by have:=(Q'.1 hu).1;omega⟩
 have HN:Hid (∀ p,Plc l v.slot p->KQ l p v.slot=false->Ba l v=l.take p++[v]++l.drop p/\p<=l.length):=λp hp hh=>⟨by rw[hp.no (KR hh)];simp,hp.le⟩;obtain⟨vs,⟨vr,vn⟩,⟨vk,vc,vq,vm,vx⟩⟩:=v;simp only[vtA,vtC]at bb rr hsz ⊢;generalize hW:w.alloc (.cells [.int .i64 vs,.int .i64 vr,.int .i64 vn,.int .i64 vk,.int .i64 vc,.int .i64 vq,.int .i64 vm,.int .i64 vx].toArray 166)=W at bb rr;have ltG:w.heap.size<W.heap.size:=(H'.1 rr).1;have c0:W.cell? ⟨w.heap.size,0,none⟩=some (.int .i64 vs):=cell_of_row _ _ 0 _ _ _ rr;go_enter func163,ntmps163
 go_wp2_with fail
 clear hW;refine(Jx _ l vs W hr (h.below bb)).mono ?_;rintro e w1 ⟨p,rfl,hp,b1⟩;have d1:=bb.trans (b1.mono bb.size);have ltG1:w.heap.size<w1.heap.size:=Z' ltG b1.size;replace rr:=(b1.block _ ltG).trans rr;have c0:w1.cell? ⟨w.heap.size,0,none⟩=some (.int .i64 vs):=cell_of_row _ _ 0 _ _ _ rr;have s1:=h.below d1;have hp0:p<=n:=by have:=hp.le;have:=HL.out;omega
 have HP:Hid (Plc l vs p):=hp;clear b1 bb hp;go_wp2_with fail
 refine(Jn _ l p vs w1 s1).mono ?_;rintro e w2 ⟨rfl,rfl⟩;obtain⟨a1,k1,u1,su⟩:=s1.upTo p HP.out.le;have hlp:(l.take p).length<=n:=by rw[iO];omega
 have hz:=d1.size;generalize hh:KQ l p vs=bh;cases bh
 .obtain⟨HI0,hk0⟩:=HN.out p HP.out hh;have HI:Hid (Ba l ⟨vs,⟨vr,vn⟩,⟨vk,vc,vq,vm,vx⟩⟩=l.take p++([⟨vs,⟨vr,vn⟩,⟨vk,vc,vq,vm,vx⟩⟩]:List Vt)++l.drop (p)):=HI0;obtain⟨a2,k2,u2,sd⟩:=s1.from (p) hk0;have hld:(l.take p).length+(l.drop (p)).length<=n:=by rw[iO,iQ];have:=HL.out;omega
  have SU:Hid (∀ w',Bw w2 w'->Sv w' (.slice a1 p k1) (l.take p)):=λw' hb=>su.below hb;have SD:Hid (∀ w',Bw w2 w'->Sv w' (.slice a2 (n-(p)) k2) (l.drop (p))):=λw' hb=>sd.below hb;clear HI0 HU HN hh su sd s1 h hr;generalize l.take p=LP at HI SU hlp hld;generalize l.drop (p)=LD at HI SD hld;have hkn:(p)<=n:=by have:=HL.out;omega
  go_wp2_with ((with_reducible (refine As ?_));at_make;refine ED _ rfl _ _ 103 rfl w2.heap.size 166 underlying103 Ep _ (n+1) rfl rfl (by first|rfl|omega) (by omega) (A' _) ?_)
  intro w3 o3 g3;have b3:Bw w2 w3:=(Below.refl _ _).grown g3 (A' _) (λk hk=>by cases hk);have z3:=b3.size;clear g3;go_wp2_with ((with_reducible (refine As ?_));at_builtin;refine Bj _ rfl _ _ 103 rfl w2.heap.size 166 zVt underlying103 Ep rfl _ _ rfl rfl [] (LP) o3.out (SU.out w3 b3) (by simp;omega) (by omega) ?_)
  intro v4 w4 o4 g4;have b4:Bw w2 w4:=b3.grown g4 (by omega) (λk hk=>(o3.out.lt k hk).1);have z4:=b4.size;have HO4:Hid (w4.ownsRow w2.heap.size 166 8 v4 (LP).length (vtL (LP))):=by unfold Hid;simpa using o4
  have lt4:=HO4.out.lt;have rr4:=(b4.block _ ltG1).trans rr;clear o4 g4 o3;go_wp2_with ((with_reducible (refine As ?_));first|(refine wpList_load_row rfl 166 _ rfl w.heap.size rfl 166 _ (0,0) _ rr4 underlying166 rfl hsz ?_)|(at_builtin;refine Bj _ rfl _ _ 103 rfl w2.heap.size 166 zVt underlying103 Ep rfl _ _ rfl rfl (LP) ([⟨vs,⟨vr,vn⟩,⟨vk,vc,vq,vm,vx⟩⟩]:List Vt) (HO4.out.alloc _) (Sv.one _ ⟨vs,⟨vr,vn⟩,⟨vk,vc,vq,vm,vx⟩⟩ _ rfl) (by simp;omega) (by simp;omega) ?_))
  intro v5 w5 o5 g5;have b5:Bw w2 w5:=(b4.alloc (by omega) _).grown g5 (by simp;omega) (λk hk=>(lt4 k hk).1);have z5:=b5.size;have HO5:Hid (w5.ownsRow w2.heap.size 166 8 v5 (LP++([⟨vs,⟨vr,vn⟩,⟨vk,vc,vq,vm,vx⟩⟩]:List Vt)).length (vtL (LP++([⟨vs,⟨vr,vn⟩,⟨vk,vc,vq,vm,vx⟩⟩]:List Vt)))):=by unfold Hid;rw[G'];exact o5
  have lt5:=HO5.out.lt;clear o5 g5 HO4 lt4 rr4;go_wp2_with ((with_reducible (refine As ?_));at_builtin;refine Bj _ rfl _ _ 103 rfl w2.heap.size 166 zVt underlying103 Ep rfl _ _ rfl rfl (LP++([⟨vs,⟨vr,vn⟩,⟨vk,vc,vq,vm,vx⟩⟩]:List Vt)) (LD) HO5.out (SD.out w5 b5) (by rw[G'];simp;omega) (by omega) ?_)
  intro v6 w6 o6 g6;have b6:Bw w2 w6:=b5.grown g6 (by omega) (λk hk=>(lt5 k hk).1);have HO6:Hid (w6.ownsRow w2.heap.size 166 8 v6 (LP++([⟨vs,⟨vr,vn⟩,⟨vk,vc,vq,vm,vx⟩⟩]:List Vt)++LD).length (vtL (LP++([⟨vs,⟨vr,vn⟩,⟨vk,vc,vq,vm,vx⟩⟩]:List Vt)++LD))):=by unfold Hid;simpa using o6
  have d6:=d1.trans (b6.mono d1.size);clear o6 g6 HO5 lt5;go_wp2
  go_ret;refine⟨v6,rfl,?_,d6⟩;rw[HI.out];exact Br HO6.out d1.size
 .obtain⟨HI0,hk0⟩:=HU.out p HP.out hh;have HI:Hid (Ba l ⟨vs,⟨vr,vn⟩,⟨vk,vc,vq,vm,vx⟩⟩=l.take p++([⟨vs,⟨vr,vn⟩,⟨vk,vc,vq,vm,vx⟩⟩]:List Vt)++l.drop (p+1)):=HI0;obtain⟨a2,k2,u2,sd⟩:=s1.from (p+1) hk0;rw[show((p+1:Nat):Int)=(p:Int)+1 by omega]at u2
  have hld:(l.take p).length+(l.drop (p+1)).length<=n:=by rw[iO,iQ];have:=HL.out;omega
  have SU:Hid (∀ w',Bw w2 w'->Sv w' (.slice a1 p k1) (l.take p)):=λw' hb=>su.below hb;have SD:Hid (∀ w',Bw w2 w'->Sv w' (.slice a2 (n-(p+1)) k2) (l.drop (p+1))):=λw' hb=>sd.below hb;clear HI0 HU HN hh su sd s1 h hr;generalize l.take p=LP at HI SU hlp hld;generalize l.drop (p+1)=LD at HI SD hld;have hkn:(p+1)<=n:=by have:=HL.out;omega
  go_wp2_with ((with_reducible (refine As ?_));at_make;refine ED _ rfl _ _ 103 rfl w2.heap.size 166 underlying103 Ep _ (n+1) rfl rfl (by first|rfl|omega) (by omega) (A' _) ?_)
  intro w3 o3 g3;have b3:Bw w2 w3:=(Below.refl _ _).grown g3 (A' _) (λk hk=>by cases hk);have z3:=b3.size;clear g3;go_wp2_with ((with_reducible (refine As ?_));at_builtin;refine Bj _ rfl _ _ 103 rfl w2.heap.size 166 zVt underlying103 Ep rfl _ _ rfl rfl [] (LP) o3.out (SU.out w3 b3) (by simp;omega) (by omega) ?_)
  intro v4 w4 o4 g4;have b4:Bw w2 w4:=b3.grown g4 (by omega) (λk hk=>(o3.out.lt k hk).1);have z4:=b4.size;have HO4:Hid (w4.ownsRow w2.heap.size 166 8 v4 (LP).length (vtL (LP))):=by unfold Hid;simpa using o4
  have lt4:=HO4.out.lt;have rr4:=(b4.block _ ltG1).trans rr;clear o4 g4 o3;go_wp2_with ((with_reducible (refine As ?_));first|(refine wpList_load_row rfl 166 _ rfl w.heap.size rfl 166 _ (0,0) _ rr4 underlying166 rfl hsz ?_)|(at_builtin;refine Bj _ rfl _ _ 103 rfl w2.heap.size 166 zVt underlying103 Ep rfl _ _ rfl rfl (LP) ([⟨vs,⟨vr,vn⟩,⟨vk,vc,vq,vm,vx⟩⟩]:List Vt) (HO4.out.alloc _) (Sv.one _ ⟨vs,⟨vr,vn⟩,⟨vk,vc,vq,vm,vx⟩⟩ _ rfl) (by simp;omega) (by simp;omega) ?_))
  intro v5 w5 o5 g5;have b5:Bw w2 w5:=(b4.alloc (by omega) _).grown g5 (by simp;omega) (λk hk=>(lt4 k hk).1);have z5:=b5.size;have HO5:Hid (w5.ownsRow w2.heap.size 166 8 v5 (LP++([⟨vs,⟨vr,vn⟩,⟨vk,vc,vq,vm,vx⟩⟩]:List Vt)).length (vtL (LP++([⟨vs,⟨vr,vn⟩,⟨vk,vc,vq,vm,vx⟩⟩]:List Vt)))):=by unfold Hid;rw[G'];exact o5
  have lt5:=HO5.out.lt;clear o5 g5 HO4 lt4 rr4;go_wp2_with ((with_reducible (refine As ?_));at_builtin;refine Bj _ rfl _ _ 103 rfl w2.heap.size 166 zVt underlying103 Ep rfl _ _ rfl rfl (LP++([⟨vs,⟨vr,vn⟩,⟨vk,vc,vq,vm,vx⟩⟩]:List Vt)) (LD) HO5.out (SD.out w5 b5) (by rw[G'];simp;omega) (by omega) ?_)
  intro v6 w6 o6 g6;have b6:Bw w2 w6:=b5.grown g6 (by omega) (λk hk=>(lt5 k hk).1);have HO6:Hid (w6.ownsRow w2.heap.size 166 8 v6 (LP++([⟨vs,⟨vr,vn⟩,⟨vk,vc,vq,vm,vx⟩⟩]:List Vt)++LD).length (vtL (LP++([⟨vs,⟨vr,vn⟩,⟨vk,vc,vq,vm,vx⟩⟩]:List Vt)++LD))):=by unfold Hid;simpa using o6
  have d6:=d1.trans (b6.mono d1.size);clear o6 g6 HO5 lt5;go_wp2
  go_ret;refine⟨v6,rfl,?_,d6⟩;rw[HI.out];exact Br HO6.out d1.size
theorem RH{g:Nat}{t:TypeId}{fr:Nat × Nat}(h:w.heap[g]?=some (.cells (vtA v) t fr)):w.rangeAt g 0 (vtC v):=λj u hj=>by
 rw[jm,cell_of_row _ _ j _ _ _ h];simpa[vtA]using hj
theorem UP{id:Nat}{K:Act->World->Prop}{a:Act}(R:Option Addr->Nat->Nat->World->Prop){A:Option Addr->Nat->Nat->Act}(hreg:∀ K':Act->World->Prop,Hid (∀ g n c W2,R g n c W2->K' (A g n c) W2)->(Code.region id ops true).wp P (Exit.then K' Q) a w)(hrest:∀ g n c W2,R g n c W2->K (A g n c) W2):(Code.region id ops true).wp P (Exit.then K Q) a w:=hreg K hrest
theorem Cb(p:Bal)(x:Value)(l:List Vt)(v:Vt)(w:World)(h:Sv w x l)(ht:NTab w) :
  Calls prog 129 #[.agg (acA p x),.agg (vtA v)] w λe w'=>∃ y,e=.returned (.tuple #[.agg (acA (BR ⟨p,l⟩ v) y),.int .i64 (AQ ⟨p,l⟩ v)])/\w'.ownsRow w.heap.size 166 8 y (Ca ⟨p,l⟩ v).length (vtL (Ca ⟨p,l⟩ v))/\(Ca ⟨p,l⟩ v).length<=40/\Bw w w':=by
 obtain⟨pr,pn⟩:=p;obtain⟨vs,⟨vr,vn⟩,⟨vk,vc,vq,vm,vx⟩⟩:=v;have hlen:=h.len;obtain⟨ax,cp,rfl⟩:=h.shape;obtain⟨M,hM⟩:∃ M,l.length=M:=⟨_,rfl⟩;have HM:Hid (l.length=M):=hM;rw[hM]at h hlen ⊢
 clear hM;simp only[acA,vtA,vtC];obtain⟨W0,hW0⟩:∃ W0,((w.alloc (.cells #[.int .i64 pr,.int .i64 pn,.slice ax M cp] 105)).alloc (.cells #[.int .i64 vs,.int .i64 vr,.int .i64 vn,.int .i64 vk,.int .i64 vc,.int .i64 vq,.int .i64 vm,.int .i64 vx] 166)).alloc (.cells #[.int .i64 0,.int .i64 0,.slice none 0 0] 105)=W0:=⟨_,rfl⟩;obtain⟨r0,r1,r2,bb⟩:=PQ w (.cells #[.int .i64 pr,.int .i64 pn,.slice ax M cp] 105) (.cells #[.int .i64 vs,.int .i64 vr,.int .i64 vn,.int .i64 vk,.int .i64 vc,.int .i64 vq,.int .i64 vm,.int .i64 vx] 166) (.cells #[.int .i64 0,.int .i64 0,.slice none 0 0] 105);have z0:W0.heap.size=w.heap.size+3:=by rw[<- hW0];simp
 rw[hW0]at r0 r1 r2 bb
 have hl0:=h.below bb;go_enter func129,ntmps129
 go_wp2_with ((with_reducible (refine As ?_));refine wpList_load_row rfl 105 _ rfl w.heap.size rfl 105 _ (0,0) _ r0 underlying105 rfl (BV ⟨pr,pn⟩ (.slice ax M cp)) ?_)
 clear hW0;refine(I5 ⟨pr,pn⟩ (.slice ax M cp) l W0 hl0 (ht.below bb)).mono ?_;rintro e w1 ⟨rfl,b1⟩;have d1:=bb.trans (b1.mono bb.size);have z1:=b1.size;have q0:=(b1.block w.heap.size (by omega)).trans r0;have q1:=(b1.block (w.heap.size+1) (by omega)).trans r1;have q2:=(b1.block (w.heap.size+2) (by omega)).trans r2;have hl1:=hl0.below b1;clear r0 r1 r2 b1 bb hl0;have hz3:(#[.int .i64 0,.int .i64 0,.slice none 0 0]:Array Value).all (·.oneCell')=true:=by simp[Value.oneCell']
 have HZero:Hid (∀ E,E≠0->AQ ⟨⟨pr,pn⟩,l⟩ ⟨vs,⟨vr,vn⟩,⟨vk,vc,vq,vm,vx⟩⟩=E->BR ⟨⟨pr,pn⟩,l⟩ ⟨vs,⟨vr,vn⟩,⟨vk,vc,vq,vm,vx⟩⟩=⟨0,0⟩/\Ca ⟨⟨pr,pn⟩,l⟩ ⟨vs,⟨vr,vn⟩,⟨vk,vc,vq,vm,vx⟩⟩=[]):=λE h1 h2=>⟨if_neg (by rw[h2];exact h1),if_neg (by rw[h2];exact h1)⟩;by_cases h1:An ⟨⟨pr,pn⟩,l⟩
 .rw[show Gn ⟨⟨pr,pn⟩,l⟩=0 from if_pos h1];have c0:w1.cell? ⟨w.heap.size+1,0,none⟩=some (.int .i64 vs):=cell_of_row _ _ 0 _ _ _ q1;have c1:w1.cell? ⟨w.heap.size+1,1,none⟩=some (.int .i64 vr):=cell_of_row _ _ 1 _ _ _ q1;have c2:w1.cell? ⟨w.heap.size+1,2,none⟩=some (.int .i64 vn):=cell_of_row _ _ 2 _ _ _ q1;have c3:w1.cell? ⟨w.heap.size+1,3,none⟩=some (.int .i64 vk):=cell_of_row _ _ 3 _ _ _ q1;have c4:w1.cell? ⟨w.heap.size+1,4,none⟩=some (.int .i64 vc):=cell_of_row _ _ 4 _ _ _ q1;have c5:w1.cell? ⟨w.heap.size+1,5,none⟩=some (.int .i64 vq):=cell_of_row _ _ 5 _ _ _ q1;have c6:w1.cell? ⟨w.heap.size+1,6,none⟩=some (.int .i64 vm):=cell_of_row _ _ 6 _ _ _ q1;have c7:w1.cell? ⟨w.heap.size+1,7,none⟩=some (.int .i64 vx):=cell_of_row _ _ 7 _ _ _ q1;go_wp2_with fail
  refine(H6 ⟨vs,⟨vr,vn⟩,⟨vk,vc,vq,vm,vx⟩⟩ w1 (ht.below d1)).mono ?_;rintro e w2 ⟨rfl,b2⟩;have d2:=d1.trans (b2.mono d1.size);have z2:=b2.size;have hl2:=hl1.below b2;replace q0:=(b2.block w.heap.size (by omega)).trans q0;replace q1:=(b2.block (w.heap.size+1) (by omega)).trans q1;replace q2:=(b2.block (w.heap.size+2) (by omega)).trans q2;clear c0 c1 c2 c3 c4 c5 c6 c7;have c1:w2.cell? ⟨w.heap.size+1,1,none⟩=some (.int .i64 vr):=cell_of_row _ _ 1 _ _ _ q1;have c2:w2.cell? ⟨w.heap.size+1,2,none⟩=some (.int .i64 vn):=cell_of_row _ _ 2 _ _ _ q1;have a0:w2.cell? ⟨w.heap.size,0,none⟩=some (.int .i64 pr):=cell_of_row _ _ 0 _ _ _ q0;have a1:w2.cell? ⟨w.heap.size,1,none⟩=some (.int .i64 pn):=cell_of_row _ _ 1 _ _ _ q0;clear b2 d1 hl1;by_cases h2:Ak ⟨vs,⟨vr,vn⟩,⟨vk,vc,vq,vm,vx⟩⟩
  .rw[I' h2];go_wp2_with fail
   refine(DD ⟨vr,vn⟩ ⟨pr,pn⟩ w2).mono ?_;rintro e W ⟨rfl,b3⟩;have d3:=d2.trans (b3.mono d2.size);have z3:=b3.size;have hl:=hl2.below b3;replace q0:=(b3.block w.heap.size (by omega)).trans q0;replace q1:=(b3.block (w.heap.size+1) (by omega)).trans q1;have rR:=(b3.block (w.heap.size+2) (by omega)).trans q2;clear b3 d2 hl2 q2 c1 c2 a0 a1;by_cases h3:Bal.lt ⟨vr,vn⟩ ⟨pr,pn⟩
   .rw[I' h3];have HE:Hid (AQ ⟨⟨pr,pn⟩,l⟩ ⟨vs,⟨vr,vn⟩,⟨vk,vc,vq,vm,vx⟩⟩=7):=by unfold Hid AQ;rw[if_neg (λg=>g h1),if_neg (λg=>g h2),if_pos h3]
    go_wp2_with ((with_reducible (refine As ?_));refine wpList_store_row rfl 105 (.tmp 4) (.tmp 22) rfl (w.heap.size+2) #[.int .i64 0,.int .i64 0,.slice none 0 0] rfl rfl 105 _ rR (BV ⟨0,0⟩ (.slice none 0 0)) rfl hz3 ?_)
    have q9:=setRow_heap W (w.heap.size+2) _ (#[.int .i64 0,.int .i64 0,.slice none 0 0]) 105 _ rR;have d9:=Aj d3 (show w.heap.size<=w.heap.size+2 by omega) (#[.int .i64 0,.int .i64 0,.slice none 0 0]);have HZ:=HZero.out _ (by decide) HE.out;refine bodyPost_ret (FH rfl _ _ (w.heap.size+2) 105 _ (0,0) _ rfl q9 underlying105 rfl (BV ⟨0,0⟩ (.slice none 0 0))) rfl ?_;rw[HE.out,HZ.1,HZ.2];exact⟨.slice none 0 0,rfl,World.ownsRow_nil _ _ _ _,by simp,d9⟩
   .rw[D' h3];have HE:Hid (AQ ⟨⟨pr,pn⟩,l⟩ ⟨vs,⟨vr,vn⟩,⟨vk,vc,vq,vm,vx⟩⟩=0):=by unfold Hid AQ;rw[if_neg (λg=>g h1),if_neg (λg=>g h2),if_neg h3]
    have HP:Hid (BR ⟨⟨pr,pn⟩,l⟩ ⟨vs,⟨vr,vn⟩,⟨vk,vc,vq,vm,vx⟩⟩=⟨vr,vn⟩/\Ca ⟨⟨pr,pn⟩,l⟩ ⟨vs,⟨vr,vn⟩,⟨vk,vc,vq,vm,vx⟩⟩=Ba l ⟨vs,⟨vr,vn⟩,⟨vk,vc,vq,vm,vx⟩⟩):=⟨if_pos HE.out,if_pos HE.out⟩;have HI:Hid (∀ k:Nat,k=40->KP l ⟨vs,⟨vr,vn⟩,⟨vk,vc,vq,vm,vx⟩⟩ k=Ba l ⟨vs,⟨vr,vn⟩,⟨vk,vc,vq,vm,vx⟩⟩):=λk hk=>ZN k h1.2.2 (λu hu=>by have:=(h1.2.1 u hu).1.1;omega) (by have:=h2.1;simp only at this ⊢;omega);have HR:Hid (BA l):=h1.2.2;clear h1 h2 h3 HZero;have a2:W.cell? ⟨w.heap.size,2,none⟩=some (.slice ax M cp):=cell_of_row _ _ 2 _ _ _ q0;have rB:W.rangeAt (w.heap.size+1) 1 [.int .i64 vr,.int .i64 vn]:=Sf (o:=1) (cell_of_row _ _ 1 _ _ _ q1) (cell_of_row _ _ 2 _ _ _ q1);have rV:W.rangeAt (w.heap.size+1) 0 (vtC ⟨vs,⟨vr,vn⟩,⟨vk,vc,vq,vm,vx⟩⟩):=RH q1;have hle:w.heap.size+2<=W.heap.size:=by omega
    have ltR:w.heap.size+2<W.heap.size:=by omega
    have HI40:Hid ((Ba l ⟨vs,⟨vr,vn⟩,⟨vk,vc,vq,vm,vx⟩⟩).length<=40):=by unfold Hid;rw[<- HI.out 40 rfl];exact WO _ HR.out 40
    clear HI;go_wp2_with fail
    apply UP (λg n c W2=>W2.heap[w.heap.size+2]?=some (.cells #[.int .i64 vr,.int .i64 vn,.slice g n c] 105)/\W2.ownsRow W.heap.size 166 8 (.slice g n c) (Ba l ⟨vs,⟨vr,vn⟩,⟨vk,vc,vq,vm,vx⟩⟩).length (vtL (Ba l ⟨vs,⟨vr,vn⟩,⟨vk,vc,vq,vm,vx⟩⟩))/\Below (w.heap.size+2) W W2)
    .intro K2 HK2;have ed0:Bw W W.drew:=(Below.refl _ _).drew;have ed:Below (w.heap.size+2) W W.drew:=ed0.mono hle;refine wp_region_held (S:=λw'=>Below (w.heap.size+2) W w') (by kernel_rfl) ?_;have hS0:(λw'=>Below (w.heap.size+2) W w') W.drew:=ed;refine Ah (i:=0) 23 (v:=.pointer (some ⟨w.heap.size+1,1,none⟩)) rfl rfl (by kernel_rfl) (by kernel_rfl) (by kernel_rfl) (λ_ _ _ h=>h) (kt ⟨by rfl,λ_ _=>by kernel_rfl⟩) hS0 ?_;simp only[Act.put,N',Y',iM];refine Ah (i:=1) 24 (v:=.agg #[.int .i64 vr,.int .i64 vn]) rfl rfl (by kernel_rfl) (by kernel_rfl) (by kernel_rfl) (λ_ _ _ h=>h) (yieldsIf_load_mid (by rfl) 102 (.tmp 23) rfl (w.heap.size+1) 1 rfl [.int .i64 vr,.int .i64 vn] _ (λw' hw'=>GU hw' (by omega) rB) underlying102 rfl Kw) hS0 ?_;simp only[Act.put,N',Y',iM];refine Ah (i:=2) 25 (v:=.pointer (some ⟨w.heap.size,2,none⟩)) rfl rfl (by kernel_rfl) (by kernel_rfl) (by kernel_rfl) (λ_ _ _ h=>h) (kt ⟨by rfl,λ_ _=>by kernel_rfl⟩) hS0 ?_;simp only[Act.put,N',Y',iM];refine Ah (i:=3) 26 (v:=.slice ax M cp) rfl rfl (by kernel_rfl) (by kernel_rfl) (by kernel_rfl) (λ_ _ _ h=>h) (Gm (by rfl) 103 (.tmp 25) rfl _ underlying103 rfl ⟨w.heap.size,2,none⟩ rfl (.slice ax M cp) (λw' hw'=>(hw'.cell (p:=⟨w.heap.size,2,none⟩) (show w.heap.size<w.heap.size+2 by omega)).trans a2)) hS0 ?_;simp only[Act.put,N',Y',iM];refine Ah (i:=4) 27 (v:=.agg (vtA ⟨vs,⟨vr,vn⟩,⟨vk,vc,vq,vm,vx⟩⟩)) rfl rfl (by kernel_rfl) (by kernel_rfl) (by kernel_rfl) (λ_ _ _ h=>h) (cx (by rfl) (.tmp 3) rfl (w.heap.size+1) 0 rfl ⟨vs,⟨vr,vn⟩,⟨vk,vc,vq,vm,vx⟩⟩ (λw' hw'=>GU hw' (by omega) rV)) hS0 ?_;simp only[Act.put,N',Y',iM];refine BK (i:=5) (by kernel_rfl) (GR (i:=5) (d:=28) (f:=163) (args:=#[.slice ax M cp,.agg (vtA ⟨vs,⟨vr,vn⟩,⟨vk,vc,vq,vm,vx⟩⟩)]) rfl (by kernel_rfl) rfl (by kernel_rfl) ((OD _ l ⟨vs,⟨vr,vn⟩,⟨vk,vc,vq,vm,vx⟩⟩ _ HR.out (hl.below ed0)).mono ?_));rintro e' w5 ⟨x5,rfl,o5,b5⟩;have e5:Bw W w5:=ed0.trans (b5.mono ed0.size);have hI40:=HI40.out;have s5:=Sv.ofOwns o5 (by omega);obtain⟨a5,c5,h5⟩:=s5.shape;obtain⟨n5,hn5⟩:∃ n5,(Ba l ⟨vs,⟨vr,vn⟩,⟨vk,vc,vq,vm,vx⟩⟩).length=n5:=⟨_,rfl⟩;rw[hn5]at h5
     subst h5;refine⟨_,rfl,e5.mono hle,?_⟩;simp only[Act.put,N',Y',iM];refine Ah (i:=6) 29 (v:=.agg #[.int .i64 vr,.int .i64 vn,(.slice a5 n5 c5)]) rfl rfl (by kernel_rfl) (by kernel_rfl) (by kernel_rfl) (λ_ _ _ h=>h) (kt ⟨by rfl,λ_ _=>by kernel_rfl⟩) (e5.mono hle) ?_;simp only[Act.put,N',Y',iM];have hone:(#[.int .i64 vr,.int .i64 vn,(.slice a5 n5 c5)]:Array Value).all (·.oneCell')=true:=by simp[Value.oneCell']
     have rS:=(e5.block (w.heap.size+2) ltR).trans rR;have e7:Below (w.heap.size+2) W (w5.setRow (w.heap.size+2) #[.int .i64 vr,.int .i64 vn,(.slice a5 n5 c5)]):=Aj (e5.mono hle) (A' _) _;have q7:=setRow_heap w5 (w.heap.size+2) _ (#[.int .i64 vr,.int .i64 vn,(.slice a5 n5 c5)]) 105 _ rS;have t5:(w5.setRow (w.heap.size+2) #[.int .i64 vr,.int .i64 vn,(.slice a5 n5 c5)]).ownsRow W.heap.size 166 8 (.slice a5 n5 c5) (Ba l ⟨vs,⟨vr,vn⟩,⟨vk,vc,vq,vm,vx⟩⟩).length (vtL (Ba l ⟨vs,⟨vr,vn⟩,⟨vk,vc,vq,vm,vx⟩⟩)):=Br (EY o5 (λk hk=>setRow_other _ _ _ _ (by have:=(o5.lt k hk).1;have:=ed0.size;omega))) ed0.size;refine BK (i:=7) (by kernel_rfl) (Ib (i:=7) rfl (by kernel_rfl) rfl 105 (.tmp 4) (.tmp 29) rfl (w.heap.size+2) #[.int .i64 vr,.int .i64 vn,(.slice a5 n5 c5)] (by kernel_rfl) (by kernel_rfl) 105 _ rS (BV ⟨vr,vn⟩ (.slice a5 n5 c5)) rfl hone ⟨e7,?_⟩);refine Ah (i:=8) 5 (v:=.int .i64 0) rfl rfl (by kernel_rfl) (by kernel_rfl) (by kernel_rfl) (λ_ _ _ h=>h) (kt ⟨by rfl,λ_ _=>by kernel_rfl⟩) e7 ?_;simp only[Act.put,N',Y',iM];exact wpAnyH_done (by kernel_rfl) (HK2.out a5 n5 c5 _ ⟨q7,t5,e7⟩) _
    intro g n c W2 hW2;obtain⟨q7,t5,e7⟩:=hW2;have d7:=d3.trans (e7.mono (by omega));clear rR q0 q1 a2 rB rV;go_wp2
    refine bodyPost_ret (FH rfl _ _ (w.heap.size+2) 105 _ (0,0) _ rfl q7 underlying105 rfl (BV ⟨vr,vn⟩ (.slice g n c))) rfl ?_;rw[HE.out,HP.out.1,HP.out.2];exact⟨.slice g n c,rfl,Br t5 d3.size,HI40.out,d7⟩
  .rw[D' h2];have HE:Hid (AQ ⟨⟨pr,pn⟩,l⟩ ⟨vs,⟨vr,vn⟩,⟨vk,vc,vq,vm,vx⟩⟩=2):=by unfold Hid AQ;rw[if_neg (λg=>g h1),if_pos h2]
   clear c1 c2 a0 a1;go_wp2_with ((with_reducible (refine As ?_));refine wpList_store_row rfl 105 (.tmp 4) (.tmp 16) rfl (w.heap.size+2) #[.int .i64 0,.int .i64 0,.slice none 0 0] rfl rfl 105 _ q2 (BV ⟨0,0⟩ (.slice none 0 0)) rfl hz3 ?_)
   have q9:=setRow_heap w2 (w.heap.size+2) _ (#[.int .i64 0,.int .i64 0,.slice none 0 0]) 105 _ q2;have d9:=Aj d2 (show w.heap.size<=w.heap.size+2 by omega) (#[.int .i64 0,.int .i64 0,.slice none 0 0]);have HZ:=HZero.out _ (by decide) HE.out;refine bodyPost_ret (FH rfl _ _ (w.heap.size+2) 105 _ (0,0) _ rfl q9 underlying105 rfl (BV ⟨0,0⟩ (.slice none 0 0))) rfl ?_;rw[HE.out,HZ.1,HZ.2];exact⟨.slice none 0 0,rfl,World.ownsRow_nil _ _ _ _,by simp,d9⟩
 .rw[show Gn ⟨⟨pr,pn⟩,l⟩=5 from if_neg h1];have HE:Hid (AQ ⟨⟨pr,pn⟩,l⟩ ⟨vs,⟨vr,vn⟩,⟨vk,vc,vq,vm,vx⟩⟩=5):=by unfold Hid AQ;rw[if_pos h1]
  go_wp2_with ((with_reducible (refine As ?_));refine wpList_store_row rfl 105 (.tmp 4) (.tmp 11) rfl (w.heap.size+2) #[.int .i64 0,.int .i64 0,.slice none 0 0] rfl rfl 105 _ q2 (BV ⟨0,0⟩ (.slice none 0 0)) rfl hz3 ?_)
  have q9:=setRow_heap w1 (w.heap.size+2) _ (#[.int .i64 0,.int .i64 0,.slice none 0 0]) 105 _ q2;have d9:=Aj d1 (show w.heap.size<=w.heap.size+2 by omega) (#[.int .i64 0,.int .i64 0,.slice none 0 0]);have HZ:=HZero.out _ (by decide) HE.out;refine bodyPost_ret (FH rfl _ _ (w.heap.size+2) 105 _ (0,0) _ rfl q9 underlying105 rfl (BV ⟨0,0⟩ (.slice none 0 0))) rfl ?_;rw[HE.out,HZ.1,HZ.2];exact⟨.slice none 0 0,rfl,World.ownsRow_nil _ _ _ _,by simp,d9⟩
theorem Q9(p:Bal)(x:Value)(l:List Vt)(v:Vt)(w:World)(h:Sv w x l)(ht:NTab w) :
  Calls prog 129 #[.agg (acA p x),.agg (vtA v)] w λe w'=>∃ y,e=.returned (.tuple #[.agg (acA (BR ⟨p,l⟩ v) y),.int .i64 (AQ ⟨p,l⟩ v)])/\Sv w' y (Ca ⟨p,l⟩ v)/\Bw w w':=by
 refine(Cb p x l v w h ht).mono ?_;rintro e w' ⟨y,he,hy,hl,hb⟩;exact⟨y,he,Sv.ofOwns hy (by omega),hb⟩
structure Base(w0:World)(g:Gh)(w:World):Prop where
 b:Bw w0 w
 z:∀ k,k<w0.heap.size->g.t k=.z
theorem Base.ch{T:List Tg}{g':Gh}(h:Base w0 g w)(c:Cg B T g w g' w')(hz:Tg.z∉T:=by simp):Base w0 g' w' :=
 have hs:∀ k,k<w0.heap.size->k<w.heap.size:=λk hk=>Z' hk h.b.size
 ⟨⟨c.os.trans h.b.os,c.tape.trans h.b.tape,c.output.trans h.b.output,iP h.b.size c.size,λk hk=>(c.zc hz (hs k hk) (h.z k hk)).trans (h.b.block k hk)⟩,λk hk=>(c.tag (hs k hk) (by rw[h.z k hk];intro h;cases h)).trans (h.z k hk)⟩
structure Tabs(w:World):Prop where
 t:AE w
 n:NTab w
 q:CB w
theorem Base.tt(h:Base w0 g w)(t:Tabs w0):AE w:=t.t.below h.b
theorem Base.tn(h:Base w0 g w)(t:Tabs w0):NTab w:=t.n.below h.b
theorem Base.tq(h:Base w0 g w)(t:Tabs w0):CB w:=t.q.below t.q.pos h.b
theorem D0(h:w'.ownsRow B 166 8 y l.length (vtL l))(hg:∀ b,B<=b->g.t b=.z)(hl:l.length<=2199023255488):∃ y3:S3,y=y3.v/\y3.n=l.length/\FSv g w' y3 l:=by
 have hs:=Sv.ofOwns h hl;rcases h.2 with⟨rfl,h0⟩|⟨b,cap,cur,rfl,hb,_⟩
 .exact⟨s30,rfl,h0.symm,hs,λhn=>absurd (iN h0) hn⟩
 .exact⟨⟨some ⟨b,0,none⟩,l.length,cap⟩,rfl,rfl,hs,λ_ a ha=>by simp only[X']at ha;subst ha;exact hg b hb⟩
theorem aL{l:List Int}(h:w'.ownsRow B 5 1 y l.length (l.map (Value.int .u8)))(hg:∀ b,B<=b->g.t b=.z)(hl:l.length<=140737488351232)(hb:∀ x∈l,0<=x/\x<256):∃ y3:S3,y=y3.v/\y3.n=l.length/\FSl g w' y3 l:=by
 rcases h.2 with⟨rfl,h0⟩|⟨b,cap,cur,rfl,hbb,hh,hc,_,hcs,ht⟩
 .have hn:l=[]:=iN h0;subst hn;exact⟨s30,rfl,rfl,⟨⟨none,0,rfl,A' _,λ_=>rfl,.inl rfl⟩,by simp,by simp⟩,λhn=>absurd rfl hn⟩
 .refine⟨⟨some ⟨b,0,none⟩,l.length,cap⟩,rfl,rfl,⟨⟨_,_,rfl,hc,λh=>(by cases h),.inr ⟨b,0,rfl,rl hh,λi hi=>?_⟩⟩,hl,hb⟩,λ_ a ha=>by simp only[X']at ha;subst ha;exact hg b hbb⟩;have h1:(l.map (Value.int .u8))[i]?=some (.int .u8 (l.getD i 0)):=by rw[jh,E' hi,jd,E' hi];rfl
  rw[<- ht,jL]at h1
  split at h1
  .rw[cell_of_row _ _ _ _ _ _ hh,jm];simpa using h1
  .cases h1
theorem IZ{d:List Int}{may:Prop}[Decidable may]{b:List Int}(h:CM d s may b=0):Bd d s/\d.length+(b.length+5)<=100000/\may:=by
 unfold CM at h;by_cases hr:GZ d s (b.length+5)≠0
 .rw[if_pos hr]at h;exact absurd h hr
 .rw[if_neg hr]at h
  have hm:may:=jO λhm=>by rw[if_neg hm]at h;cases h
  have hr':GZ d s (b.length+5)=0:=by simpa using hr
  unfold GZ at hr';by_cases ht:Bd d s
  .rw[if_neg (λg=>g ht)]at hr'
   refine⟨ht,?_,hm⟩;rcases jt 100000 (d.length+(b.length+5))with h2|h2
   .rw[if_pos h2]at hr';cases hr'
   .exact h2
  .rw[if_pos ht]at hr';cases hr'
theorem er{a:Acc}{b:Bal}(h:BQ a b=0):Fv a b=b/\Fu a b=a.vs:=⟨if_pos h,if_pos h⟩
theorem Fj{a:Acc}(h:AQ a v=0):BR a v=v.b/\Ca a v=Ba a.vs v:=⟨if_pos h,if_pos h⟩
end
end
section
open Go.ChangeShapes Go.WideShapes Go.ChangeAt Go.RowKit
theorem iG{W:World}(h:laidMetH prog Rows.topReignRow.laid W):Tabs W/\LWTab W/\LBTab W:=by
 have h':laidMet prog Rows.topReignRow.laid W:=h;obtain⟨ps,⟨g0,t0,cs0,fuel0,p0,q0,hg0,ht0,hvar0,hd0,⟨g1,t1,cs1,fuel1,p1,q1,hg1,ht1,hvar1,hd1,⟨g2,t2,cs2,fuel2,p2,q2,hg2,ht2,hvar2,hd2,h4,_⟩,_⟩,_⟩,_⟩:=h';have h5:=bI h4;obtain rfl:=jJ (WI.symm.trans hg0);obtain rfl:=jJ (Rn.symm.trans ht0);obtain rfl:=jJ (fU.symm.trans hg1);obtain rfl:=jJ (WJ.symm.trans ht1);obtain rfl:=jJ (cE.symm.trans hg2);obtain rfl:=jJ (Um.symm.trans ht2);exact⟨⟨Yi hvar1 hd1,az hvar2 hd2,XW hvar0 hd0⟩,h5.1,h5.2⟩
def Iz(os:Os)(W:World):Prop :=
 W={ World.holding prog os ⟨#[],#[],[]⟩with heap:=(((((World.holding prog os ⟨#[],#[],[]⟩).heap.modify 4 (Xm UW)).modify 3 (Xm (R1.map (Value.int .u32)).toArray)).modify 0 (Xm (Nh.map (Value.int .i64)).toArray)).modify 2 (Xi OP)).modify 1 (Xi QH) }
theorem ZB(os:Os):∃ W,Iz os W:=⟨_,rfl⟩
end
end Go.Proofs.YtalbmmghmoggcadGreatDoor
