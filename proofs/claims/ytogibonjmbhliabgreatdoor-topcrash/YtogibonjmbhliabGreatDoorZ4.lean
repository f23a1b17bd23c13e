/- Part 4 of the walk. -/
import Derived.Test.YtogibonjmbhliabGreatDoorZ3
set_option maxRecDepth 100000
set_option maxHeartbeats 4000000
open Go.Proofs.Tryz
set_option linter.unusedVariables false
namespace Go.Proofs.YtogibonjmbhliabGreatDoor
section
section
structure Plc(l:List Vt)(s:Int)(p:Nat):Prop where
 le:p<=l.length
 lo:∀ (i:Nat) (v:Vt),i<p->l[i]?=some v->v.bu<s
 hi:∀ (i:Nat) (v:Vt),p<=i->l[i]?=some v->s<=v.bu
theorem O2(a b:List Vt)(v:Vt)(h:∀ u∈a,u.bu<v.bu):Bp (a++b) v=a++Bp b v:=by
 induction a with
 | nil=>rfl
 | cons x a ih =>
  show Bp (x::(a++b)) v=x::(a++Bp b v);rw[Bp,if_pos (h x O'),ih (λu c=>h u (I' _ c))]
variable{i j m p:Nat}{l:List Vt}{s:Int}{u v x:Vt}
theorem Plc.front(h:Plc l s p):∀ u∈l.take p,u.bu<s:=by
 intro u b;obtain⟨i,a⟩:=oA.1 b;rw[ol]at a
 split at a
 .rename_i hip;exact h.lo i u hip a
 .cases a
theorem Plc.has(h:Plc l v.bu p)(f:l[p]?=some u)(c:u.bu=v.bu):Bp l v=l.take p++(v::l.drop (p+1)):=by
 obtain⟨d,e⟩:=V'.1 f;have b:l.drop p=u::l.drop (p+1):=by rw[<- e];exact nO d
 have a:=O2 (l.take p) (l.drop p) v h.front;rw[oz]at a
 rw[a,b,Bp,if_neg (by omega),if_pos c]
theorem Plc.no(h:Plc l v.bu p)(c:∀ u,l[p]?=some u->u.bu≠v.bu):Bp l v=l.take p++(v::l.drop p):=by
 have a:=O2 (l.take p) (l.drop p) v h.front;rw[oz]at a
 rw[a];rcases nW p l.length with hp|hp
 .have hd:l.drop p=l[p]::l.drop (p+1):=nO hp;have d:=h.hi p l[p] (A' _) (E' hp);have b:=c l[p] (E' hp);rw[hd,Bp,if_neg (by omega),if_neg b]
 .rw[nN hp,Bp]
theorem Plc.sP(d:BR l)(e:l[p]?=some u)(c:u.bu=s):Ae l s=[u]:=by
 have b:=JK d s;have a:u∈Ae l s:=Be.2 ⟨oA.2 ⟨p,e⟩,c⟩
 match hl:Ae l s with
 | []=>rw[hl]at a;cases a
 | [x]=>rw[hl]at a;rw[G'.1 a]
 | x::y::r=>rw[hl]at b;simp at b
theorem Plc.sE(b:BR l)(h:Plc l s p)(f:∀ u,l[p]?=some u->u.bu≠s):Ae l s=[]:=by
 rw[qA];intro u a;obtain⟨a,e⟩:=Be.1 a;obtain⟨i,c⟩:=oA.1 a;rcases qp i p with hip|rfl|hip
 .have:=h.lo i u hip c;omega
 .exact f u c e
 .have hip':i<l.length:=(V'.1 c).1;have d:p<l.length:=by omega
  have g:=h.hi p l[p] (A' _) (E' d);have k:=rise_lt b hip (E' d) c;omega
where
 rise_lt:∀ {l:List Vt} (b:BR l) {i j:Nat} (hij:i<j) {u v:Vt} (a:l[i]?=some u) (hv:l[j]?=some v),u.bu<v.bu
  | x::xs,b,0,j+1,_,u,v,a,hv=>by
   simp at a hv;subst a;exact b.1 v (oA.2 ⟨j,hv⟩)
  | x::xs,b,i+1,j+1,hij,u,v,a,hv=>rise_lt (l:=xs) b.2 (i:=i) (j:=j) (by omega) (by simpa using a) (by simpa using hv)
  | [],_,i,j,_,u,v,a,hv=>by simp at a
theorem BR.get(b:BR l)(a:i<j)(c:l[i]?=some u)(d:l[j]?=some v):u.bu<v.bu:=Plc.sE.rise_lt b a c d
theorem Plc.half(b:BR l){h:Nat}(a:l[h]?=some u)(d:∀ (k:Nat) (v:Vt),k<i->l[k]?=some v->v.bu<s)(c:∀ (k:Nat) (v:Vt),j<=k->l[k]?=some v->s<=v.bu) :
  (u.bu<s->∀ (k:Nat) (v:Vt),k<h+1->l[k]?=some v->v.bu<s)/\(s<=u.bu->∀ (k:Nat) (v:Vt),h<=k->l[k]?=some v->s<=v.bu):=by
 constructor
 .intro g k v hk hv;rcases nW k h with hkh|hkh
  .have:=b.get hkh hv a;omega
  .obtain rfl:k=h:=by omega
   rw[a]at hv;cases hv;exact g
 .intro g k v hk hv;rcases nW h k with hkh|hkh
  .have:=b.get hkh a hv;omega
  .obtain rfl:k=h:=by omega
   rw[a]at hv;cases hv;exact g
def Rb(o:Option Vt)(v:Vt):Option Vt:=match o with
 | none=>some v
 | some u=>if u.b.lt v.b then some v else some u
theorem Sg(l:List Vt)(v:Vt)(o:Option Vt):BW (l++[v]) o=Rb (BW l o) v:=by
 induction l generalizing o with
 | nil =>
  cases o with
  | none=>rfl
  | some u =>
   show BW [v] (some u)=Rb (some u) v;rw[BW,Rb];split<;>rfl
 | cons x l ih =>
  cases o with
  | none=>exact ih _
  | some u =>
   show BW (x::(l++[v])) (some u)=Rb (BW (x::l) (some u)) v;rw[BW,BW];split
   .exact ih _
   .exact ih _
def vt0:Vt:=⟨0,⟨0,0⟩,⟨0,0,0,0,0⟩⟩
def Fe(o:Option Vt)(x:Vt):Prop:=(o=none/\x=vt0)\/(o=some x/\Ab x.b)
theorem Fe.next{o:Option Vt}(h:Fe o x)(a:Ab v.b):Fe (Rb o v) (if x.b.lt v.b then v else x):=by
 rcases h with⟨rfl,rfl⟩|⟨rfl,hx⟩
 .rw[if_pos (by unfold Ab at a;unfold Bal.lt;simp[vt0];omega)];exact .inr ⟨rfl,a⟩
 .show Fe (if x.b.lt v.b then some v else some x) _;split
  .exact .inr ⟨rfl,a⟩
  .exact .inr ⟨rfl,hx⟩
theorem Fe.pick{a:List (List Vt)}(d:0<=s/\s<=39)(c:∀ l∈a,∀ v∈l,Ah v)(h:Fe (Gf a s) x):(if Ck a s=0 then((Gf a s).map (·.w)).getD ⟨0,0,0,0,0⟩else⟨0,0,0,0,0⟩)=x.w/\(if Ck a s=0 then(Gf a s).isSome else false)=!decide (x.b.r=0/\x.b.n=0)/\Ck a s=0:=by
 have e:Ck a s=0:=by unfold Ck;rw[if_neg (λg=>g d),if_pos c]
 rw[if_pos e,if_pos e];rcases h with⟨h1,rfl⟩|⟨h1,h2⟩
 .rw[h1];exact⟨rfl,rfl,e⟩
 .rw[h1];refine⟨rfl,?_,e⟩;rw[D' (by unfold Ab at h2;omega)];rfl
theorem ah(l:List Vt)(h:u≠v):BQ l u+BQ l v<=l.length:=by
 induction l with
 | nil=>simp[BQ]
 | cons x l ih =>
  unfold BQ at ih ⊢;rw[pW,pW,nD];by_cases a:x=u
  .subst a;rw[if_pos (by simp),if_neg (by simp[h])];omega
  .by_cases hy:x=v
   .subst hy;rw[if_neg (by simp[a]),if_pos (by simp)];omega
   .rw[if_neg (by simp[a]),if_neg (by simp[hy])];omega
theorem ZX(h:0<BQ l v):v∈l:=by
 unfold BQ at h;obtain⟨u,a,e⟩:=qW.1 h;rw[<- nG e];exact a
theorem eN(a b:List Vt)(v:Vt):BQ a v<=BQ (a++b) v:=by
 unfold BQ;rw[pK];omega
theorem Sr(b:l.length<=m)(h:m<2*BQ l v):Hl l m=some v:=by
 cases hf:Hl l m with
 | none =>
  have:=oD.1 hf v (ZX (by omega));simp at this;omega
 | some u =>
  have a:=List.find?_some hf;simp at a;by_cases e:u=v
  .rw[e]
  .have:=ah l e;omega
theorem Yo(h:∀ v,2*BQ l v<=m):Hl l m=none:=by
 unfold Hl;rw[oD];intro v _;have:=h v;simp;omega
end
end
section
open Go.RowKit
section
variable{B cap e i n p sz:Nat}{P:Program}{Q:Exit->Act->World->Prop}{a:Option Addr}{b:Bal}{l:List Vt}{o:Oper}{ops:Array Oper}{r:Bool}{rest:List Oper}{s:Int}{v:Vt}{w:World}{x:S3}{xs:List Value}{y:Value}
theorem NTab.uv(h:NTab w):w.cell? ⟨2,1*3+2,none⟩=some (.int .i64 1073741824):=h.cell 5 (by omega)
theorem NTab.value(h:NTab w)(k:Nat)(a:1<=k)(b:k<=3):w.cell? ⟨2,k*3+2,none⟩=some (.int .i64 (if k=1 then 1073741824 else 0)):=by
 rcases(by omega:k=1\/k=2\/k=3)with rfl|rfl|rfl
 .exact h.cell 5 (by omega)
 .exact h.cell 8 (by omega)
 .exact h.cell 11 (by omega)
theorem Es(k c s n v:Int)(w:World)(E:NTab w) :
  Calls prog 76 #[.agg (cmA k c s n v)] w λe w'=>e=.returned (.int .i64 (Bo k c s n v))/\Bw w w':=by
 have b:Bw w (w.alloc (.cells (cmA k c s n v) 49)):=(Below.refl _ _).alloc (A' _) _;have h:=Bc.made w k c s n v;have t:=E.af b;have D:=Ha k c s n v;generalize C:w.alloc (.cells (cmA k c s n v) 49)=W at b h t;have u:w.alloc (.cells #[.int .i64 k,.int .i64 c,.int .i64 s,.int .i64 n,.int .i64 v] 49)=W:=C;obtain⟨c0,c1,x,y,z⟩:=Fi h.row;clear E;go_enter func76,ntmps76
 go_wp2_with fail
 clear C u;refine(Te k _).mono ?_;rintro e I ⟨rfl,rfl⟩;by_cases o:0<=k/\k<=3
 .rw[M' o];by_cases A:k=0
  .subst A;go_wp2_with (refine wpList_load_row rfl 49 _ rfl w.heap.size rfl 49 _ (0,0) _ h.row underlying49 rfl D ?_)
   refine(ZW c s n v _).mono ?_;rintro e f ⟨rfl,g⟩;have j:Bw w f:=b.trans (g.mono b.size);go_wp2
   go_ret;exact⟨rfl,j⟩
  .obtain⟨m,rfl⟩:=nL o.1;have r:1<=(m:Int)/\(m:Int)<=3:=by omega
   go_wp2_with (refine wpList_load_row rfl 49 _ rfl w.heap.size rfl 49 _ (0,0) _ h.row underlying49 rfl D ?_)
   refine(Pv (m:Int) c s n v _ r t).mono ?_;rintro e f ⟨rfl,g⟩;have j:Bw w f:=b.trans (g.mono b.size);have i:=h.af g;have q:=t.af g;clear c0 c1 x y z h t g b;by_cases a:InC c s n v
   .rw[M' a];obtain⟨c0,c1,x,y,z⟩:=Fi i.row;have B:=q.value m (by omega) (by omega);have F:(0:Int)<=(m:Int):=by omega
    have G:(m:Int)<4:=by omega
    have H:m<4:=by omega
    clear i q o A;by_cases p:v<=(if m=1 then 1073741824 else 0)
    .have d:Hid (0=Bo (m:Int) c s n v):=by
      refine(UF r a ?_).symm;unfold InC at a;split at p<;>omega
     clear a r;generalize (if m=1 then(1073741824:Int)else 0)=V at B p;go_wp2_with fail
     go_quiet (fail)
     have l:Bw w (f.drewN nq):=Aq j nq;generalize f.drewN nq=w3 at l ⊢;go_wp2
     go_ret;exact⟨BM d.out,l⟩
    .have d:Hid (3=Bo (m:Int) c s n v):=by
      unfold InC at a;refine(VS ⟨?_,by omega⟩ (by unfold InC;omega) ?_).symm
      .split at p<;>omega
      .split at p<;>omega
     clear a r;generalize (if m=1 then(1073741824:Int)else 0)=V at B p;go_wp2_with fail
     go_quiet (fail)
     have l:Bw w (f.drewN nq):=Aq j nq;generalize f.drewN nq=w3 at l ⊢;go_wp2
     go_ret;exact⟨BM d.out,l⟩
   .rw[D' a];have d:Hid (2=Bo (m:Int) c s n v):=(S1 r a).symm;clear a;go_wp2
    go_ret;exact⟨BM d.out,j⟩
 .rw[D' o];have d:Hid (4=Bo k c s n v):=(VT o).symm;go_wp2
  go_ret;exact⟨BM d.out,b⟩
def Lv(l:List Vt)(n:Int):Prop:=0<=n/\n<=40/\∀ s:Int,0<=s->(n<=s↔∀ u∈l,u.bu<s)
theorem Lv.nil:Lv [] 0:=⟨by omega,by omega,λs a=>⟨λ_ u b=>(P' b).elim,λ_=>a⟩⟩
theorem Lv.snoc{n:Int}(h:Lv l n)(b:0<=v.bu)(c:v.bu<=39)(d:n<=v.bu):Lv (l++[v]) (v.bu+1):=by
 refine⟨by omega,by omega,λs a=>⟨λg u hu=>?_,λg=>?_⟩⟩
 .rcases U'.1 hu with hu|hu
  .exact(h.2.2 s a).1 (by omega) u hu
  .obtain rfl:u=v:=by simpa using hu
   omega
 .have:=g v (by simp);omega
theorem lu{p:Bal}(h:p≠Bb):(!decide (Ab p))=!decide (Ar p):=by
 have:Ab p↔Ar p:=⟨.inl,λg=>g.resolve_right λe=>h ((Bal.eq_iff p Bb).1 e)⟩;simp[this]
theorem kg{P Q:Prop}[Decidable P][Decidable Q](h:Q↔¬ P):decide P=!decide Q:=by by_cases g:P<;>simp[h,g]
theorem Xb(h:BR l)(k:Nat):BR (l.take k):=by
 induction k with
 | zero=>exact trivial
 | succ k ih =>
  cases hh:l[k]? with
  | none=>rw[np (by have:=List.getElem?_eq_none_iff.1 hh;omega)];exact h
  | some v =>
   rw[FY l k v hh,OH];refine⟨ih,λu b=>?_⟩;obtain⟨i,a⟩:=oA.1 b;rw[ol]at a
   split at a
   .rename_i hk;exact h.get hk a hh
   .cases a
theorem Eh(b:decide (0<=s/\s<=39)=r) :
  Calls prog 154 #[iv s] w λe w'=>e=.returned (.bool r)/\Bw w w':=by
 subst b;refine tIn [] func154 trivial (tR 7 [] λc _ _=>?_);by_cases a:0<=s
 .refine tV 1 (.bool true) (λF C=>(rGe (t:=3) (m:=s) (n:=0) (x:=(.tmp 3)) (y:=(.const (iv 0))) (M' a))) (tR 6 [] λd _ _=>tE (.bool (decide (s<40))) λ_ B=>⟨by rw[og.2 (show s<40↔0<=s/\s<=39 by omega)],B⟩)
 .refine tV 1 (.bool false) (λF C=>(rGe (t:=3) (m:=s) (n:=0) (x:=(.tmp 3)) (y:=(.const (iv 0))) (D' a))) (tR 6 [] λf _ _=>tE (.bool false) λ_ B=>⟨by rw[D' (show ¬ (0<=s/\s<=39)by omega)],B⟩)
theorem IT(f:decide (Ab b)=r) :
  Calls prog 132 #[.agg #[iv b.r,iv b.n]] w λe w'=>e=.returned (.bool r)/\Bw w w':=by
 subst f;refine tIn [] func132 trivial (tR 9 [0,0,0] λg _ _=>?_);by_cases a:1<=b.r
 .refine tV 2 (.bool true) (λF C=>(rGe (t:=3) (m:=b.r) (n:=1) (x:=(.tmp 4)) (y:=(.const (iv 1))) (M' a))) (tR 3 [0] λh _ _=>?_);by_cases c:b.r<=65536
  .refine tV 6 (.bool true) (λF C=>(rLe (t:=3) (m:=b.r) (n:=65536) (x:=(.tmp 8)) (y:=(.const (iv 65536))) (M' c))) (tR 4 [0] λi _ _=>?_);by_cases d:0<=b.n
   .refine tV 11 (.bool true) (λF C=>(rGe (t:=3) (m:=b.n) (n:=0) (x:=(.tmp 13)) (y:=(.const (iv 0))) (M' d))) (tR 8 [0] λj _ _=>tE (.bool (decide (b.n<5))) λ_ B=>⟨by rw[og.2 (show b.n<5↔Ab b by unfold Ab;omega)],B⟩)
   .refine tV 11 (.bool false) (λF C=>(rGe (t:=3) (m:=b.n) (n:=0) (x:=(.tmp 13)) (y:=(.const (iv 0))) (D' d))) (tR 8 [] λk _ _=>tE (.bool false) λ_ B=>⟨by rw[D' (show ¬ Ab b by unfold Ab;omega)],B⟩)
  .refine tV 6 (.bool false) (λF C=>(rLe (t:=3) (m:=b.r) (n:=65536) (x:=(.tmp 8)) (y:=(.const (iv 65536))) (D' c))) (tR 13 [] λl _ _=>tE (.bool false) λ_ B=>⟨by rw[D' (show ¬ Ab b by unfold Ab;omega)],B⟩)
 .refine tV 2 (.bool false) (λF C=>(rGe (t:=3) (m:=b.r) (n:=1) (x:=(.tmp 4)) (y:=(.const (iv 1))) (D' a))) (tR 17 [] λo _ _=>tE (.bool false) λ_ B=>⟨by rw[D' (show ¬ Ab b by unfold Ab;omega)],B⟩)
theorem En{a:Bal}(d:decide (a.lt b)=r) :
  Calls prog 133 #[.agg #[iv a.r,iv a.n],.agg #[iv b.r,iv b.n]] w λe w'=>e=.returned (.bool r)/\Bw w w':=by
 subst d;refine tIn [] func133 trivial (tR 15 [0,0,0,0,0,1] λf _ _=>?_);by_cases c:a.r≠b.r
 .refine tI ((a.r != b.r)) true (by simpa using c) (tR 9 [0,1] λg _ _=>tE (.bool (decide (a.r<b.r))) λ_ B=>⟨by rw[og.2 (show a.r<b.r↔a.lt b by unfold Bal.lt;omega)],B⟩)
 .refine tI ((a.r != b.r)) false (by simpa using c) (tR 10 [0,1] λh _ _=>tE (.bool (decide (a.n<b.n))) λ_ B=>⟨by rw[og.2 (show a.n<b.n↔a.lt b by unfold Bal.lt;omega)],B⟩)
theorem Hf(i:NTab w)(h:decide (Ah v)=r) :
  Calls prog 138 #[.agg #[iv v.bu,iv v.b.r,iv v.b.n,iv v.w.k,iv v.w.c,iv v.w.s,iv v.w.n,iv v.w.v]] w λe w'=>e=.returned (.bool r)/\Bw w w':=by
 subst h;refine tIn [] func138 trivial (tR 9 [0,0,0] λj _ _=>?_);by_cases a:0<=v.bu/\v.bu<=39
 .refine tC1 2 (λF C=>Eh (r:=true) (M' a)) λ_=>tR 3 [0] λl _ _=>?_;by_cases d:Ab v.b
  .refine tC1 6 (λF C=>IT (b:=v.b) (r:=true) (M' d)) λ_=>tR 4 [0] λm _ _=>tC1 11 (λF C=>Es v.w.k v.w.c v.w.s v.w.n v.w.v _ (i.af (CgQ.af C))) λ_=>tR 4 [] λo _ _=>tE (.bool (Bo v.w.k v.w.c v.w.s v.w.n v.w.v==0)) λ_ B=>⟨by rw[show(Bo v.w.k v.w.c v.w.s v.w.n v.w.v==0)=decide (Ah v)from by rw[show(Bo v.w.k v.w.c v.w.s v.w.n v.w.v==0)=decide (v.w.e=0)from rfl];exact og.2 ⟨λg=>⟨a,d,g⟩,λg=>g.2.2⟩],B⟩
  .refine tC1 6 (λF C=>IT (b:=v.b) (r:=false) (D' d)) λ_=>tR 9 [] λp _ _=>tE (.bool false) λ_ B=>⟨by rw[D' (show ¬ Ah v from λg=>d g.2.1)],B⟩
 .refine tC1 2 (λF C=>Eh (r:=false) (D' a)) λ_=>tR 13 [] λf _ _=>tE (.bool false) λ_ B=>⟨by rw[D' (show ¬ Ah v from λg=>a g.1)],B⟩
theorem I8{p:Bal}{u:Vt}:Ag ⟨p,l++[u]⟩↔Ag ⟨p,l⟩/\(Ah u/\¬ p.lt u.b)/\∀ x∈l,x.bu<u.bu:=by
 unfold Ag;simp only[OH,U',G'];exact⟨λh=>⟨⟨h.1,λv a=>h.2.1 v (.inl a),h.2.2.1⟩,h.2.1 u (.inr rfl),h.2.2.2⟩,λh=>⟨h.1.1,λv a=>a.elim (h.1.2.1 v) λe=>by rw[e];exact h.2.1,h.1.2.2,h.2.2⟩⟩
theorem XL{p:Bal}(h:Ag ⟨p,l⟩)(k:Nat):Ag ⟨p,l.take k⟩:=⟨h.1,λv a=>h.2.1 v (nu a),(Xb h.2.2 k)⟩
theorem Sv.op(h:Sv w x.v l):x.n=l.length/\(l=[]\/∃ b off,x.a=some ⟨b,off,none⟩/\∀ i v,l[i]?=some v->w.rangeAt b (off+8*i) (vtC v)):=by
 obtain⟨j,m,k⟩:=x;obtain⟨⟨a,c,e,_,_,d⟩,_⟩:=h;simp only[S3.v,Value.slice.injEq]at e;obtain⟨rfl,rfl,rfl⟩:=e;exact⟨rfl,d.imp id λ⟨b,off,f,_,g⟩=>⟨b,off,f,g⟩⟩
theorem Sv.at_(h:Sv w x.v l){b c:Nat}(e:x.a=some ⟨b,c,none⟩)(d:l[i]?=some v):w.rangeAt b (c+8*i) (vtC v):=by
 rcases h.op.2 with rfl|⟨b',off',ha,hc⟩
 .simp at d
 .rw[e]at ha;cases ha;exact hc i v d
theorem Sv.ad(h:Sv w x.v l)(c:i<l.length):∃ b off,x.a=some ⟨b,off,none⟩:=by
 rcases h.op.2 with rfl|⟨b',off',ha,hc⟩
 .exact absurd c (oZ _)
 .exact⟨b',off',ha⟩
theorem Sv.s3{x:Value}(h:Sv w x l):∃ y:S3,x=y.v:=by
 obtain⟨⟨a,b,e,_,_,c⟩,_⟩:=h;exact⟨⟨a,l.length,b⟩,e⟩
theorem J6(p:Bal)(x:Value)(l:List Vt)(w:World)(h:Sv w x l)(S:NTab w) :
  Calls prog 131 #[.agg (acA p x)] w λe w'=>e=.returned (.int .i64 (F5 ⟨p,l⟩))/\Bw w w':=by
 obtain⟨y,rfl⟩:=h.s3;have hn:=h.op.1;have a7:=h.len;show Calls prog 131 #[.agg #[iv p.r,iv p.n,S3.v y]] w _;refine tIn [] func131 trivial (tR 7 [0,0] λf _ _=>KV 43 (λL K d=>∃ (v:Bool),L=[(1,pt (f 0) 0),(15,.bool v)]/\K=[⟨(f 0),.cells #[iv p.r,iv p.n,S3.v y] 78,.z,false⟩]/\d=[]/\v=!decide (Ar p)) (λJ u=>?_) ?_)
 .refine tR 4 [0] λa8 _ _=>?_;by_cases q:p=Bb
  .refine tV 3 (.bool false) (λF C=>(Ja (x:=(.tmp 7)) (y:=(.tmp 8)) p Bb q)) (tR 7 [] λa9 _ _=>tD u [true] ⟨false,rfl,rfl,rfl,by rw[q];rfl⟩ (λF=>trivial))
  .refine tV 3 (.bool true) (λF C=>(Jd (x:=(.tmp 7)) (y:=(.tmp 8)) p Bb q)) (tR 3 [0] λb0 _ _=>tC1 7 (λF C=>IT (b:=p) rfl) λ_=>tR 3 [] λb1 _ _=>tD u [true] ⟨_,rfl,rfl,rfl,lu q⟩ (λF=>trivial))
 rintro _ _ _ ⟨v,rfl,rfl,rfl,H⟩ _ _ _;by_cases q:v=true
 .refine tI (v) true q (tR 4 [] λb2 _ _=>tE (iv 5) λ_ B=>⟨by rw[F5,if_neg λg:Ag _=>absurd g.1 (by simpa[q]using H.symm)],B⟩)
 .refine tI (v) false (by simpa using q) ?_;have hp:Ar p:=by simpa[q]using H.symm
  refine tR 14 [0] λb3 _ _=>DU 43 [(1,pt (f 0) 0),(3,iv 0),(17,S3.v y),(18,iv (y.n:Int)),(19,iv 0)] [true] [⟨(f 0),.cells #[iv p.r,iv p.n,S3.v y] 78,.z,false⟩] [] (λkk L K d=>∃ (j:Nat) (n:Int),kk=y.n-j/\L=[(1,pt (f 0) 0),(3,iv n),(17,S3.v y),(18,iv (y.n:Int)),(19,iv (j:Int))]/\K=[⟨(f 0),.cells #[iv p.r,iv p.n,S3.v y] 78,.z,false⟩]/\d=[]/\j<=y.n/\Ag ⟨p,l.take j⟩/\Lv (l.take j) n) (y.n) ⟨0,0,rfl,rfl,rfl,rfl,by omega,⟨hp,λv H=>(by cases H),trivial⟩,Lv.nil⟩ (λF=>trivial) ?_;rintro k _ _ _ ⟨j,n,rfl,rfl,rfl,rfl,hj,E,G⟩ _ _ _ J u;refine tR 5 [] λU _ _=>?_;by_cases I:j<y.n
  .refine tI ((decide ((j:Int)<(y.n:Int)))) true (M' (by omega)) ?_;obtain⟨v,H⟩:∃ v,l[j]?=some v:=⟨_,E' (by omega)⟩;obtain⟨b,O,Q⟩:=h.ad (i:=j) (by omega);have N:l.take (j+1)=l.take j++[v]:=FY l j v H;refine tR 5 [] λV _ _=>tV 0 (pt b (O+8*j)) (λF C=>(Vl Q j (by omega))) (tV 1 (.agg #[iv v.bu,iv v.b.r,iv v.b.n,iv v.w.k,iv v.w.c,iv v.w.s,iv v.w.n,iv v.w.v]) (λF C=>(fs v ((h.af (CgQ.af C)).at_ Q H))) (tR 5 [0,0,1,0] λD _ _=>KV 43 (λL K d=>∃ (z:Bool),L=[(1,pt (f 0) 0),(3,iv n),(5,pt (D 0) 0),(17,S3.v y),(18,iv (y.n:Int)),(19,iv (j:Int)),(38,.bool z)]/\K=[⟨(f 0),.cells #[iv p.r,iv p.n,S3.v y] 78,.z,false⟩,⟨(D 0),.cells #[iv v.bu,iv v.b.r,iv v.b.n,iv v.w.k,iv v.w.c,iv v.w.s,iv v.w.n,iv v.w.v] 140,.z,false⟩]/\d=[]/\z=!decide (Ag ⟨p,l.take j++[v]⟩)) (λJ u=>?_) ?_))
   .refine tR 2 [1] λW _ _=>?_;by_cases I:Ah v
    .refine tC1 1 (λF C=>Hf (v:=v) (S.af (CgQ.af C)) (r:=true) (M' I)) λ_=>tR 5 [1] λX _ _=>?_;have R:=G.2.2 v.bu I.1.1;by_cases P:v.bu<n
     .refine tV 7 (.bool true) (λF C=>(rLt (t:=3) (m:=v.bu) (n:=n) (x:=(.tmp 28)) (y:=(.tmp 29)) (M' P))) (tR 9 [] λY _ _=>tD u [true,true] ⟨true,rfl,rfl,rfl,by rw[D' λg=>absurd (R.2 (I8.1 g).2.2) (by omega)];rfl⟩ (λF=>trivial))
     .refine tV 7 (.bool false) (λF C=>(rLt (t:=3) (m:=v.bu) (n:=n) (x:=(.tmp 28)) (y:=(.tmp 29)) (D' P))) (tR 6 [0,1] λZ _ _=>tC1 14 (λF C=>En (a:=p) (b:=v.b) rfl) λ_=>tR 2 [] λa0 _ _=>tD u [true,true] ⟨_,rfl,rfl,rfl,kg (I8.trans ⟨λg=>g.2.1.2,λg=>⟨E,⟨I,g⟩,R.1 (by omega)⟩⟩)⟩ (λF=>trivial))
    .refine tC1 1 (λF C=>Hf (v:=v) (S.af (CgQ.af C)) (r:=false) (D' I)) λ_=>tR 15 [] λa1 _ _=>tD u [true,true] ⟨true,rfl,rfl,rfl,by rw[D' λg=>I (I8.1 g).2.1.1];rfl⟩ (λF=>trivial)
   rintro _ _ _ ⟨z,rfl,rfl,rfl,T⟩ _ _ _;by_cases M:z=true
   .refine tI (z) true M (tR 4 [] λa2 _ _=>tE (iv 5) λ_ B=>⟨by rw[F5,if_neg λg=>absurd (N▸XL g (j+1)) (by simpa[M]using T.symm)],B⟩)
   .refine tI (z) false (by simpa using M) ?_;have A:Ag ⟨p,l.take j++[v]⟩:=by simpa[M]using T.symm
    have o:=(I8.1 A).2;refine tR 4 [1] λa3 _ _=>tV 2 (iv (v.bu+1)) (λF C=>(AU 40 v.bu underlying3 (by have:=o.1.1.1;omega))) (tR 4 [] λa4 _ _=>tV 0 (iv ((j:Int)+1)) (λF C=>(AU 19 (j:Int) underlying3 (by omega))) (tR 2 [] λa5 _ _=>tB u (y.n-(j+1)) (by omega) [true,false] ⟨j+1,v.bu+1,rfl,rfl,rfl,rfl,by omega,by rw[N];exact A,by rw[N];exact G.snoc o.1.1.1.1 o.1.1.1.2 ((G.2.2 v.bu o.1.1.1.1).2 o.2)⟩ (λF=>trivial)))
  .refine tI ((decide ((j:Int)<(y.n:Int)))) false (D' (by omega)) ?_;rw[np (by omega)]at E
   refine tR 5 [] λa6 _ _=>tE (iv 0) λ_ B=>⟨by rw[F5,if_pos E],B⟩
theorem Sv.cells{ad:Addr}{m:List Vt}(h:Sv w (.slice (some ad) n cap) m):∀ j u,(vtL m)[j]?=some u->w.cell? (ad.add j)=some u:=by
 intro j u d;obtain⟨⟨a,l,e,o,p,f⟩,_⟩:=h;simp only[Value.slice.injEq]at e;obtain⟨rfl,rfl,rfl⟩:=e;rcases f with rfl|⟨b,off,hab,_,hcell⟩
 .simp[vtL]at d
 .obtain rfl:ad=⟨b,off,none⟩:=by simpa using hab
  obtain⟨v,g,i⟩:=cN m j u d;have c:(⟨b,off,none⟩:Addr).add j=⟨b,off+j,none⟩:=by unfold Addr.add;split<;>simp_all
  rw[c];have k:=hcell (j/8) v g (j%8) u i
  rwa [show off+8*(j/8)+j%8=off+j by omega]at k
theorem R7(w:World)(b s B C e:Nat)(t:P.underlying s=some (.slice e))(o:(P.info? e).map (·.size)=some 8)(g n:Nat)(D:List Value)(f:w.ownsRow b e 8 (.slice (some ⟨g,0,none⟩) n n) n D)(u:Value)(m:List Vt)(c:m.length=n)(v:Sv w u m) :
  ∃ w',(Builtin.copy_ #[s,B] C #[.slice (some ⟨g,0,none⟩) n n,u]).run P w=.ok (goInt n) w'/\w'.ownsRow b e 8 (.slice (some ⟨g,0,none⟩) n n) n (vtL m)/\Below g w w':=by
 obtain⟨i,h,y⟩:∃ i,P.info? e=some i/\i.size=8:=by
  cases h:P.info? e with
  | none=>rw[h]at o;cases o
  | some i=>rw[h]at o;exact⟨i,rfl,by simpa using o⟩
 rcases f.2 with⟨h0,_⟩|⟨g',cap,cur,hvv,hbg,hg,hnc,hcm,hcs,ht⟩
 .cases h0
 .simp only[Value.slice.injEq,Y',Addr.mk.injEq]at hvv;obtain⟨⟨rfl,_⟩,_,rfl⟩:=hvv;have l:=v;obtain⟨⟨a,x,rfl,F,A,E⟩,_⟩:=v;rw[c]at l ⊢
  cases a with
  | none =>
   have p:=A rfl;subst p;have q:n=0:=by omega
   subst q;have r:m=[]:=Z' c;subst r;refine⟨w,?_,⟨rfl,.inr ⟨g,0,cur,rfl,hbg,hg,hnc,hcm,hcs,by simp[vtL]⟩⟩,Below.refl _ _⟩;simp[Builtin.copy_,run_underlying t,Builtin.lenOf,Builtin.firstCells,sizeOf,typeInfo,h,storeCells]
  | some ad =>
   have z:=run_firstCells_some (P:=P) w 8 n ad n x (vtL m) (by rw[De,c]) l.cells;have j:=run_storeCells_at P g 0 e (vtL m) 0 cur w hg (by rw[De,c];omega) (V8 m);have d:(cur.toList.take (0+0)++vtL m++cur.toList.drop (0+0+(vtL m).length))=vtL m:=by
    rw[De,c,nN (by rw[oI];omega)];simp
   rw[d]at j
   refine⟨w.setRow g (vtL m).toArray,?_,⟨by rw[De,c],.inr ⟨g,n,(vtL m).toArray,rfl,hbg,setRow_heap w g cur _ e _ hg,A' _,hcm,by simp[De,c],?_⟩⟩,?_⟩
   .simp[Builtin.copy_,run_underlying t,Builtin.lenOf,sizeOf,typeInfo,h,y,z,j]
   .rw[np (by simp[De,c])]
   .exact⟨rfl,rfl,rfl,by simp,λk G=>setRow_other w g k _ (by omega)⟩
theorem Np(w:World){a:Act}(j:o.guard=none)(d s:Operand)(i l:TypeId)(v:o.op=.call { callee:=.builtin .copy,args:=#[d,s],argTypes:=#[i,l] })(b e:Nat)(y:P.underlying i=some (.slice e))(x:(P.info? e).map (·.size)=some 8)(g n:Nat)(p:List Value)(r:a.eval d=.slice (some ⟨g,0,none⟩) n n)(c:w.ownsRow b e 8 (.slice (some ⟨g,0,none⟩) n n) n p)(u:Value)(k:a.eval s=u)(m:List Vt)(t:m.length=n)(z:Sv w u m)(h:∀ w',w'.ownsRow b e 8 (.slice (some ⟨g,0,none⟩) n n) n (vtL m)->Below g w w'->wpList P ops Q rest (a.put o.dst (goInt n)) w'):wpList P ops Q (o::rest) a w:=by
 refine wpList_plain j λK q=>?_;obtain⟨w',f,A,B⟩:=R7 (P:=P) w b i l o.type e y x g n p c u m t z;unfold Oper.wp execOp;simp only[v,resolve,invoke,builtin,Sem.run_bind,Sem.run_pure,Result.andThen_ok,pU,nK,oJ,r,k,f];exact q _ _ (h w' A B)
theorem Nr(w:World){a:Act}(s:o.guard=none)(l c:Operand)(t:TypeId)(f:o.op=Op.makeSlice t l c)(b:Nat)(e:TypeId)(p:P.underlying t=some (.slice e))(d:(P.info? e).map (λi=>(i.zero,i.size,i.bytes))=some (some zVt,8,64))(n:Nat)(v:a.eval l=.int .i64 (n:Int))(r:a.eval c=.int .i64 (n:Int))(z:n<=2199023255488)(k:b<=w.heap.size)(q:∀ w',Hid (∃ xs,w'.ownsRow b e 8 (.slice (some ⟨w.heap.size,0,none⟩) n n) n xs)->w.grownBy w' none->wpList P ops Q rest (a.put o.dst (.slice (some ⟨w.heap.size,0,none⟩) n n)) w'):wpList P ops Q (o::rest) a w:=by
 obtain⟨x,u,g,h,j⟩:=info_parts d;refine wpList_make_full w s l c t f b e x zVt 8 p u g h _ _ _ _ n v r rfl rfl (by rw[j];omega) (by unfold maxLen;omega) k (λw' y m=>q w' ⟨_,y⟩ m)
theorem FN{b a c:Nat}{v:Value}(h:w.ownsRow b e c v n xs)(d:a<=b):w.ownsRow a e c v n xs:=by
 refine⟨h.1,?_⟩;rcases h.2 with h2|⟨g,cap,cur,hv,hbg,hr⟩
 .exact .inl h2
 .exact .inr ⟨g,cap,cur,hv,mV d hbg,hr⟩
theorem vt8:(prog.info? 140).map (·.size)=some 8:=by kernel_rfl
theorem S5(x:Value)(l:List Vt)(w:World)(h:Sv w x l) :
  Calls prog 134 #[x] w λe w'=>∃ x',e=.returned x'/\w'.ownsRow w.heap.size 140 8 x' l.length (vtL l)/\Bw w w':=by
 have b:=h.len;obtain⟨a,v,rfl⟩:=h.shape;obtain⟨N,f⟩:∃ N,l.length=N:=⟨_,rfl⟩;have n:Hid (l.length=N):=f;rw[f]at h b ⊢
 clear f;go_enter func134,ntmps134
 go_wp2_with ((with_reducible (refine Da ?_));at_make;refine Nr _ rfl _ _ 76 rfl w.heap.size 140 underlying76 EY N rfl rfl b (A' _) ?_)
 intro m c q;have i:Bw w m:=(Below.refl _ _).grown q (A' _) (λk s=>by cases s);have r:=h.af i;obtain⟨u,c⟩:=c.out;have g:Hid (m.ownsRow w.heap.size 140 8 (.slice (some ⟨w.heap.size,0,none⟩) N N) N u):=c;clear c;go_wp2_with ((with_reducible (refine Da ?_));refine Np _ rfl _ _ 76 76 rfl w.heap.size 140 underlying76 vt8 w.heap.size N _ rfl g.out _ rfl l n.out r ?_)
 intro t j o;have d:Hid (t.ownsRow w.heap.size 140 8 (.slice (some ⟨w.heap.size,0,none⟩) N N) N (vtL l)):=j;have p:=i.trans o;clear j g;go_wp2
 go_ret;exact⟨_,rfl,d.out,p⟩
theorem Sv.first(h:Sv w (.slice a n cap) l)(i:Nat)(v:Vt)(e:l[i]?=some v):∃ b off,a=some ⟨b,off,none⟩/\b<w.heap.size/\w.cell? ⟨b,off+8*i,none⟩=some (.int .i64 v.bu):=by
 obtain⟨b,off,c,d,f⟩:=h.spot i v e;exact⟨b,off,c,d,f 0 _ rfl⟩
theorem TS(f g:Nat)(a:Option Addr)(n c:Nat)(l:List Vt)(s:Int)(i:Nat)(v:Vt)(w:World)(t:l.length=n)(j:l[i]?=some v)(h:Sv w (.slice a n c) l)(c1:w.cell? ⟨f,0,none⟩=some (.slice a n c))(p:w.cell? ⟨g,0,none⟩=some (.int .i64 s)) :
  Calls prog 184 #[.int .i64 (i:Int),.pointer (some ⟨f,0,none⟩),.pointer (some ⟨g,0,none⟩)] w λe w'=>e=.returned (.bool (decide (s<=v.bu)))/\Bw w w':=by
 obtain⟨b,d,rfl,r,q⟩:=h.first i v j;have hin:i<n:=by have:=(V'.1 j).1;omega
 have o:=JN b d n c i hin;have k:=Below.refl w.heap.size w;go_enter func184,ntmps184
 go_wp2_with fail
 go_quiet (fail)
 have m:Bw w (w.drewN nq):=Aq k nq;go_wp2
 go_ret;exact⟨Am (by simp),m⟩
theorem Ue(o q:Nat)(a:Option Addr)(n f:Nat)(l:List Vt)(s:Int)(w:World)(B:l.length=n)(L:BR l)(h:Sv w (.slice a n f) l)(M:o<w.heap.size)(N:q<w.heap.size)(c1:w.cell? ⟨o,0,none⟩=some (.slice a n f))(G:w.cell? ⟨q,0,none⟩=some (.int .i64 s)) :
  Calls prog 183 #[.int .i64 (n:Int),.func (.func 184) #[] #[.pointer (some ⟨o,0,none⟩),.pointer (some ⟨q,0,none⟩)]] w λe w'=>∃ p:Nat,e=.returned (.int .i64 (p:Int))/\Plc l s p/\Bw w w':=by
 have t:=h.len;rw[B]at t
 have y:Hid (l.length=n):=B;clear B;go_enter func183,ntmps183
 go_wp2_with fail
 go_loopw [5,6] (λiv C wr=>∃ i j:Nat,i<=j/\j<=n/\iv=.int .i64 (i:Int)/\C=.int .i64 (j:Int)/\(∀ (k:Nat) (v:Vt),k<i->l[k]?=some v->v.bu<s)/\(∀ (k:Nat) (v:Vt),j<=k->l[k]?=some v->s<=v.bu)/\Bw w wr) (λiv C _=>(intOf C-intOf iv).toNat)
 case atStart=>exact⟨0,n,by omega,by omega,rfl,rfl,λk v J=>by omega,λk v J g=>by have:=(V'.1 g).1;have:=y.out;omega,Below.refl _ _⟩
 case round =>
  obtain⟨i,j,H,I,rfl,rfl,u,r,b⟩:=hrel;have d:Hid (∀ (k:Nat) (v:Vt),k<i->l[k]?=some v->v.bu<s):=u;have c:Hid (∀ (k:Nat) (v:Vt),j<=k->l[k]?=some v->s<=v.bu):=r;clear u r;by_cases K:i<j
  .have hlt':(i:Int)<(j:Int):=by omega
   go_wp2_with fail
   obtain⟨m,E⟩:∃ m:Nat,((i:Int)+(j:Int))/2=(m:Int):=⟨(i+j)/2,by omega⟩;rw[E];have O:i<=m:=by omega
   have P:m<j:=by omega
   clear E;obtain⟨v,g⟩:∃ v,l[m]?=some v:=⟨_,E' (by have:=y.out;omega)⟩;refine(TS o q a n f l s m v wr y.out g (h.af b) ((b.cell (p:=⟨o,0,none⟩) M).trans c1) ((b.cell (p:=⟨q,0,none⟩) N).trans G)).mono ?_;rintro e Q ⟨rfl,F⟩;have D:=b.trans (F.mono b.size);obtain⟨P1,A⟩:=Plc.half L g d.out c.out;by_cases x:s<=v.bu
   .rw[M' x];have z:Hid (∀ (k:Nat) (v:Vt),m<=k->l[k]?=some v->s<=v.bu):=A x;clear P1 A g x;go_wp2
    go_roundw
    case rel=>exact⟨i,m,by omega,by omega,rfl,rfl,d.out,z.out,D⟩
    case measure=>simp[intOf];omega
   .rw[D' x];have z:Hid (∀ (k:Nat) (v:Vt),k<m+1->l[k]?=some v->v.bu<s):=P1 (by omega);clear P1 A g x;go_wp2
    go_roundw
    case rel=>exact⟨m+1,j,by omega,by omega,by go_num,rfl,z.out,c.out,D⟩
    case measure=>simp[intOf];omega
  .obtain rfl:i=j:=by omega
   go_wp2
   go_ret;exact⟨i,rfl,⟨by have:=y.out;omega,d.out,c.out⟩,b⟩
theorem Kw(x:Value)(l:List Vt)(s:Int)(w:World)(u:BR l)(h:Sv w x l) :
  Calls prog 165 #[x,.int .i64 s] w λe w'=>∃ p:Nat,e=.returned (.int .i64 (p:Int))/\Plc l s p/\Bw w w':=by
 obtain⟨a,b,rfl⟩:=h.shape;obtain⟨n,f⟩:∃ n,l.length=n:=⟨_,rfl⟩;rw[f]at h ⊢
 have m:Hid (l.length=n):=f;clear f;have j:=heap_alloc2_old w (.cells #[.slice a n b] 76) (.cells #[.int .i64 s] 3);have k:=heap_alloc2_new w (.cells #[.slice a n b] 76) (.cells #[.int .i64 s] 3);have c:Bw w ((w.alloc (.cells #[.slice a n b] 76)).alloc (.cells #[.int .i64 s] 3)):=((Below.refl _ _).alloc (A' _) _).alloc (by simp) _;generalize g:(w.alloc (.cells #[.slice a n b] 76)).alloc (.cells #[.int .i64 s] 3)=W at j k c;have z:W.heap.size=w.heap.size+2:=by rw[<- g];simp
 have c1:W.cell? ⟨w.heap.size,0,none⟩=some (.slice a n b):=cell_of_row _ _ 0 _ _ _ j;have r:W.cell? ⟨w.heap.size+1,0,none⟩=some (.int .i64 s):=cell_of_row _ _ 0 _ _ _ k;have d:=h.af c;go_enter func165,ntmps165
 go_wp2_with fail
 clear g;refine(Ue w.heap.size (w.heap.size+1) a n b l s W m.out u d (by omega) (by omega) c1 r).mono ?_;rintro e v ⟨p,rfl,i,q⟩;have t:=c.trans (q.mono c.size);have o:Hid (Plc l s p):=i;clear i;go_wp2
 go_ret;exact⟨p,rfl,o.out,t⟩
def LZ(l:List Vt)(p:Nat)(s:Int):Bool:=match l[p]? with|some v=>decide (v.bu=s)|none=>false
theorem JD(h:l[p]?=some v):LZ l p s=decide (v.bu=s):=by unfold LZ;rw[h]
theorem Ox(h:l[p]?=none):LZ l p s=false:=by unfold LZ;rw[h]
theorem Oy(h:LZ l p s=true):∃ v,l[p]?=some v/\v.bu=s:=by
 cases hu:l[p]? with
 | none=>rw[Ox hu]at h;cases h
 | some v=>rw[JD hu]at h;exact⟨v,rfl,nG h⟩
theorem Ma(h:LZ l p s=false):∀ v,l[p]?=some v->v.bu≠s:=by
 intro v a;rw[JD a]at h
 exact of_decide_eq_false h
theorem Kl(x:Value)(l:List Vt)(p:Nat)(s:Int)(w:World)(h:Sv w x l) :
  Calls prog 166 #[x,.int .i64 (p:Int),.int .i64 s] w λe w'=>e=.returned (.bool (LZ l p s))/\w'=w:=by
 obtain⟨a,g,rfl⟩:=h.shape;obtain⟨n,c⟩:∃ n,l.length=n:=⟨_,rfl⟩;rw[c]at h ⊢
 by_cases j:p<n
 .obtain⟨v,hv⟩:∃ v,l[p]?=some v:=⟨_,E' (by omega)⟩;obtain⟨b,f,rfl,m,k⟩:=h.first p v hv;have i:=JN b f n g p j;have d:(p:Int)<(n:Int):=by omega
  rw[JD hv];clear c hv h;go_enter func166,ntmps166
  go_wp2
  go_ret;exact⟨Am (by first|rfl|simp),rfl⟩
 .have hv:l[p]?=none:=oS (by omega);have d:¬ (p:Int)<(n:Int):=by omega
  rw[Ox hv];clear c hv h;go_enter func166,ntmps166
  go_wp2
  go_ret;exact⟨rfl,rfl⟩
theorem Sv.ss(h:Sv w (.slice a n cap) l)(d f:Nat)(j:d<=f)(g:f<=l.length):Sv w (sliced a d f cap 8) ((l.take f).drop d):=by
 obtain⟨⟨r,k,e,t,q,o⟩,p⟩:=h;simp only[Value.slice.injEq]at e;obtain⟨rfl,rfl,rfl⟩:=e;have m:((l.take f).drop d).length=f-d:=by rw[nc,X'];omega
 cases a with
 | none =>
  have c0:=q rfl;subst c0;have s:l.length=0:=by omega
  refine⟨⟨_,_,by rw[m];rfl,by omega,λ_=>by omega,.inl (Z' (by omega))⟩,by omega⟩
 | some ad =>
  refine⟨⟨_,_,by rw[m];rfl,by omega,(by intro h;split at h<;>simp at h),?_⟩,by omega⟩;rcases Nat.eq_or_lt_of_le j with he|hlt
  .exact .inl (Z' (by omega))
  .rcases o with rfl|⟨b,off,e2,hbs,hcell⟩
   .simp at g;omega
   .simp only[Y']at e2;subst e2;refine .inr ⟨b,off+d*8,?_,hbs,λi v c=>?_⟩
    .rw[if_neg (by omega)];simp[Addr.add]
    .rw[nY,ol]at c
     split at c
     .have:=hcell (d+i) v c
      rwa [show off+8*(d+i)=off+d*8+8*i by omega]at this
     .cases c
theorem Sv.rN(h:Sv w (.slice a n cap) l)(b:Nat)(c:b<=l.length) :
  ∃ a' c',(∀ W,(Instr.slice 76 (.slice a n cap) none (some (.int .i64 (b:Int))) none).run prog W=.ok (.slice a' b c') W)/\Sv w (.slice a' b c') (l.take b):=by
 have g:=h.ss 0 b (by omega) c;obtain⟨⟨a',d,e,j,k,i⟩,f⟩:=h;simp only[Value.slice.injEq]at e;obtain⟨rfl,rfl,rfl⟩:=e;refine⟨_,_,λW=>?_,by simpa[sliced]using g⟩;rw[run_slice_h (P:=prog) W 76 a _ cap underlying76 .i64 _ (by omega) (by omega)];rw[SI,Ug];simp[Result.andThen,sliced]
theorem Sv.from(h:Sv w (.slice a n cap) l)(b:Nat)(c:b<=l.length) :
  ∃ a' c',(∀ W,(Instr.slice 76 (.slice a n cap) (some (.int .i64 (b:Int))) none none).run prog W=.ok (.slice a' (n-b) c') W)/\Sv w (.slice a' (n-b) c') (l.drop b):=by
 have g:=h.ss b l.length c (A' _);obtain⟨⟨a',d,e,j,k,i⟩,f⟩:=h;simp only[Value.slice.injEq]at e;obtain⟨rfl,rfl,rfl⟩:=e;refine⟨_,_,λW=>?_,by simpa[sliced]using g⟩;rw[run_slice_l (P:=prog) W 76 a _ cap underlying76 .i64 _ (by omega) (by omega)];rw[SI,Ug];simp[Result.andThen,sliced]
theorem F0(w:World){a:Act}(u:o.guard=none)(l c:Operand)(t:TypeId)(f:o.op=Op.makeSlice t l c)(b:Nat)(e:TypeId)(p:P.underlying t=some (.slice e))(d:(P.info? e).map (λi=>(i.zero,i.size,i.bytes))=some (some zVt,8,64))(C:Int)(n:Nat)(x:a.eval l=.int .i64 0)(s:a.eval c=.int .i64 C)(q:C=(n:Int))(A:n<=2199023255500)(k:b<=w.heap.size)(r:∀ w',Hid (w'.ownsRow b e 8 (.slice (some ⟨w.heap.size,0,none⟩) 0 n) ([]:List Vt).length (vtL []))->w.grownBy w' none->wpList P ops Q rest (a.put o.dst (.slice (some ⟨w.heap.size,0,none⟩) 0 n)) w'):wpList P ops Q (o::rest) a w:=by
 obtain⟨y,v,g,h,j⟩:=info_parts d;exact wpList_make_own w u l c t f b e y zVt 8 p v g h _ _ C n x s q (by rw[j];omega) (by unfold maxLen;omega) k (λw' z m=>r w' z m)
theorem Qc(x:Value)(l:List Vt)(v:Vt)(w:World)(hr:BR l)(h:Sv w x l) :
  Calls prog 139 #[x,.agg (vtA v)] w λe w'=>∃ x',e=.returned x'/\w'.ownsRow w.heap.size 140 8 x' (Bp l v).length (vtL (Bp l v))/\Bw w w':=by
 have Z:=h.len;obtain⟨a,cp,rfl⟩:=h.shape;obtain⟨n,hn⟩:∃ n,l.length=n:=⟨_,rfl⟩;rw[hn]at h Z ⊢
 have R:Hid (l.length=n):=hn;clear hn;have P:Bw w (w.alloc (.cells (vtA v) 140)):=(Below.refl _ _).alloc (A' _) _;have B:=heap_alloc_new w (.cells (vtA v) 140);have M:=jS v;have HU:Hid (∀ p,Plc l v.bu p->LZ l p v.bu=true->Bp l v=l.take p++[v]++l.drop (p+1)/\p+1<=l.length):=λp E D=>by
  obtain⟨u,hu,he⟩:=Oy D;exact⟨by rw[E.has hu he];simp,by have:=(V'.1 hu).1;omega⟩
 have HN:Hid (∀ p,Plc l v.bu p->LZ l p v.bu=false->Bp l v=l.take p++[v]++l.drop p/\p<=l.length):=λp E D=>⟨by rw[E.no (Ma D)];simp,E.le⟩;obtain⟨c,⟨m,i⟩,⟨f,d,j,g,o⟩⟩:=v;simp only[vtA,vtC]at P B M ⊢;generalize hW:w.alloc (.cells [.int .i64 c,.int .i64 m,.int .i64 i,.int .i64 f,.int .i64 d,.int .i64 j,.int .i64 g,.int .i64 o].toArray 140)=W at P B;have a3:w.heap.size<W.heap.size:=(Q'.1 B).1;have c0:W.cell? ⟨w.heap.size,0,none⟩=some (.int .i64 c):=cell_of_row _ _ 0 _ _ _ B;go_enter func139,ntmps139
 go_wp2_with fail
 clear hW;refine(Kw _ l c W hr (h.af P)).mono ?_;rintro e w1 ⟨p,rfl,E,b1⟩;have C:=P.trans (b1.mono P.size);have F:w.heap.size<w1.heap.size:=j' a3 b1.size;replace B:=(b1.block _ a3).trans B;have c0:w1.cell? ⟨w.heap.size,0,none⟩=some (.int .i64 c):=cell_of_row _ _ 0 _ _ _ B;have Q:=h.af C;have a5:p<=n:=by have:=E.le;have:=R.out;omega
 have HP:Hid (Plc l c p):=E;clear b1 P E;go_wp2_with fail
 refine(Kl _ l p c w1 Q).mono ?_;rintro e b ⟨rfl,rfl⟩;obtain⟨a1,k1,u1,su⟩:=Q.rN p HP.out.le;have a0:(l.take p).length<=n:=by rw[X'];omega
 have hz:=C.size;generalize D:LZ l p c=bh;cases bh
 .obtain⟨HI0,hk0⟩:=HN.out p HP.out D;have G:Hid (Bp l ⟨c,⟨m,i⟩,⟨f,d,j,g,o⟩⟩=l.take p++([⟨c,⟨m,i⟩,⟨f,d,j,g,o⟩⟩]:List Vt)++l.drop (p)):=HI0;obtain⟨a2,k2,u2,sd⟩:=Q.from (p) hk0;have t:(l.take p).length+(l.drop (p)).length<=n:=by rw[X',nc];have:=R.out;omega
  have T:Hid (∀ w',Bw b w'->Sv w' (.slice a1 p k1) (l.take p)):=λw' L=>su.af L;have S:Hid (∀ w',Bw b w'->Sv w' (.slice a2 (n-(p)) k2) (l.drop (p))):=λw' L=>sd.af L;clear HI0 HU HN D su sd Q h hr;generalize l.take p=LP at G T a0 t;generalize l.drop (p)=LD at G S t;have a4:(p)<=n:=by have:=R.out;omega
  go_wp2_with ((with_reducible (refine Da ?_));at_make;refine F0 _ rfl _ _ 76 rfl b.heap.size 140 underlying76 EY _ (n+1) rfl rfl (by first|rfl|omega) (by omega) (A' _) ?_)
  intro w3 N U;have I:Bw b w3:=(Below.refl _ _).grown U (A' _) (λk s=>by cases s);have z3:=I.size;clear U;go_wp2_with ((with_reducible (refine Da ?_));at_builtin;refine BE _ rfl _ _ 76 rfl b.heap.size 140 zVt underlying76 EY rfl _ _ rfl rfl [] (LP) N.out (T.out w3 I) (by simp;omega) (by omega) ?_)
  intro v4 w4 o4 V;have J:Bw b w4:=I.grown V (by omega) (λk s=>(N.out.lt k s).1);have z4:=J.size;have q:Hid (w4.ownsRow b.heap.size 140 8 v4 (LP).length (vtL (LP))):=by unfold Hid;simpa using o4
  have y:=q.out.lt;have A:=(J.block _ F).trans B;clear o4 V N;go_wp2_with ((with_reducible (refine Da ?_));first|(refine wpList_load_row rfl 140 _ rfl w.heap.size rfl 140 _ (0,0) _ A underlying140 rfl M ?_)|(at_builtin;refine BE _ rfl _ _ 76 rfl b.heap.size 140 zVt underlying76 EY rfl _ _ rfl rfl (LP) ([⟨c,⟨m,i⟩,⟨f,d,j,g,o⟩⟩]:List Vt) (q.out.alloc _) (Sv.one _ ⟨c,⟨m,i⟩,⟨f,d,j,g,o⟩⟩ _ rfl) (by simp;omega) (by simp;omega) ?_))
  intro v5 O o5 X;have K:Bw b O:=(J.alloc (by omega) _).grown X (by simp;omega) (λk s=>(y k s).1);have z5:=K.size;have r:Hid (O.ownsRow b.heap.size 140 8 v5 (LP++([⟨c,⟨m,i⟩,⟨f,d,j,g,o⟩⟩]:List Vt)).length (vtL (LP++([⟨c,⟨m,i⟩,⟨f,d,j,g,o⟩⟩]:List Vt)))):=by unfold Hid;rw[H'];exact o5
  have z:=r.out.lt;clear o5 X q y A;go_wp2_with ((with_reducible (refine Da ?_));at_builtin;refine BE _ rfl _ _ 76 rfl b.heap.size 140 zVt underlying76 EY rfl _ _ rfl rfl (LP++([⟨c,⟨m,i⟩,⟨f,d,j,g,o⟩⟩]:List Vt)) (LD) r.out (S.out O K) (by rw[H'];simp;omega) (by omega) ?_)
  intro v6 w6 o6 Y;have b6:Bw b w6:=K.grown Y (by omega) (λk s=>(z k s).1);have H:Hid (w6.ownsRow b.heap.size 140 8 v6 (LP++([⟨c,⟨m,i⟩,⟨f,d,j,g,o⟩⟩]:List Vt)++LD).length (vtL (LP++([⟨c,⟨m,i⟩,⟨f,d,j,g,o⟩⟩]:List Vt)++LD))):=by unfold Hid;simpa using o6
  have d6:=C.trans (b6.mono C.size);clear o6 Y r z;go_wp2
  go_ret;refine⟨v6,rfl,?_,d6⟩;rw[G.out];exact FN H.out C.size
 .obtain⟨HI0,hk0⟩:=HU.out p HP.out D;have G:Hid (Bp l ⟨c,⟨m,i⟩,⟨f,d,j,g,o⟩⟩=l.take p++([⟨c,⟨m,i⟩,⟨f,d,j,g,o⟩⟩]:List Vt)++l.drop (p+1)):=HI0;obtain⟨a2,k2,u2,sd⟩:=Q.from (p+1) hk0;rw[show((p+1:Nat):Int)=(p:Int)+1 by omega]at u2
  have t:(l.take p).length+(l.drop (p+1)).length<=n:=by rw[X',nc];have:=R.out;omega
  have T:Hid (∀ w',Bw b w'->Sv w' (.slice a1 p k1) (l.take p)):=λw' L=>su.af L;have S:Hid (∀ w',Bw b w'->Sv w' (.slice a2 (n-(p+1)) k2) (l.drop (p+1))):=λw' L=>sd.af L;clear HI0 HU HN D su sd Q h hr;generalize l.take p=LP at G T a0 t;generalize l.drop (p+1)=LD at G S t;have a4:(p+1)<=n:=by have:=R.out;omega
  go_wp2_with ((with_reducible (refine Da ?_));at_make;refine F0 _ rfl _ _ 76 rfl b.heap.size 140 underlying76 EY _ (n+1) rfl rfl (by first|rfl|omega) (by omega) (A' _) ?_)
  intro w3 N U;have I:Bw b w3:=(Below.refl _ _).grown U (A' _) (λk s=>by cases s);have z3:=I.size;clear U;go_wp2_with ((with_reducible (refine Da ?_));at_builtin;refine BE _ rfl _ _ 76 rfl b.heap.size 140 zVt underlying76 EY rfl _ _ rfl rfl [] (LP) N.out (T.out w3 I) (by simp;omega) (by omega) ?_)
  intro v4 w4 o4 V;have J:Bw b w4:=I.grown V (by omega) (λk s=>(N.out.lt k s).1);have z4:=J.size;have q:Hid (w4.ownsRow b.heap.size 140 8 v4 (LP).length (vtL (LP))):=by unfold Hid;simpa using o4
  have y:=q.out.lt;have A:=(J.block _ F).trans B;clear o4 V N;go_wp2_with ((with_reducible (refine Da ?_));first|(refine wpList_load_row rfl 140 _ rfl w.heap.size rfl 140 _ (0,0) _ A underlying140 rfl M ?_)|(at_builtin;refine BE _ rfl _ _ 76 rfl b.heap.size 140 zVt underlying76 EY rfl _ _ rfl rfl (LP) ([⟨c,⟨m,i⟩,⟨f,d,j,g,o⟩⟩]:List Vt) (q.out.alloc _) (Sv.one _ ⟨c,⟨m,i⟩,⟨f,d,j,g,o⟩⟩ _ rfl) (by simp;omega) (by simp;omega) ?_))
  intro v5 O o5 X;have K:Bw b O:=(J.alloc (by omega) _).grown X (by simp;omega) (λk s=>(y k s).1);have z5:=K.size;have r:Hid (O.ownsRow b.heap.size 140 8 v5 (LP++([⟨c,⟨m,i⟩,⟨f,d,j,g,o⟩⟩]:List Vt)).length (vtL (LP++([⟨c,⟨m,i⟩,⟨f,d,j,g,o⟩⟩]:List Vt)))):=by unfold Hid;rw[H'];exact o5
  have z:=r.out.lt;clear o5 X q y A;go_wp2_with ((with_reducible (refine Da ?_));at_builtin;refine BE _ rfl _ _ 76 rfl b.heap.size 140 zVt underlying76 EY rfl _ _ rfl rfl (LP++([⟨c,⟨m,i⟩,⟨f,d,j,g,o⟩⟩]:List Vt)) (LD) r.out (S.out O K) (by rw[H'];simp;omega) (by omega) ?_)
  intro v6 w6 o6 Y;have b6:Bw b w6:=K.grown Y (by omega) (λk s=>(z k s).1);have H:Hid (w6.ownsRow b.heap.size 140 8 v6 (LP++([⟨c,⟨m,i⟩,⟨f,d,j,g,o⟩⟩]:List Vt)++LD).length (vtL (LP++([⟨c,⟨m,i⟩,⟨f,d,j,g,o⟩⟩]:List Vt)++LD))):=by unfold Hid;simpa using o6
  have d6:=C.trans (b6.mono C.size);clear o6 Y r z;go_wp2
  go_ret;refine⟨v6,rfl,?_,d6⟩;rw[G.out];exact FN H.out C.size
def Fa.fo(B:Nat)(e:TypeId)(sz:Nat)(x:Value)(n:Nat)(vs:List Value):Fa:=⟨none,λg w=>w.ownsRow B e sz x n vs/\∀ k,x.ownBlock=some k->k<w.heap.size/\g.t k=.z,λhz _ c h=>⟨TA h.1 λk hk=>c.zc hz (h.2 k hk).1 (h.2 k hk).2,λk hk=>⟨j' (h.2 k hk).1 c.size,(c.tag (h.2 k hk).1 λe=>by rw[(h.2 k hk).2]at e;cases e).trans (h.2 k hk).2⟩⟩⟩
theorem YT{g:Gh}{a:Nat}(h:w.ownsRow B e sz y n xs)(d:a<=B)(G:∀ b,B<=b->g.t b=.z):w.ownsRow a e sz y n xs/\∀ k,y.ownBlock=some k->k<w.heap.size/\g.t k=.z:=by
 refine⟨FN h d,λk c=>?_⟩;rcases h.2 with⟨rfl,_⟩|⟨b,cap,cur,rfl,hb,hh,_⟩
 .cases c
 .cases c;exact⟨(Q'.1 hh).1,G _ hb⟩
theorem az(h:w.ownsRow B e sz y n xs):∃ z:S3,y=z.v:=by
 rcases h.2 with⟨rfl,_⟩|⟨b,cap,cur,rfl,_⟩
 .exact⟨s30,rfl⟩
 .exact⟨⟨some ⟨b,0,none⟩,n,cap⟩,rfl⟩
theorem UH{y:S3}(h:Sv w y.v l) :
  Calls prog 134 #[y.v] w λe w'=>∃ z:S3,e=.returned z.v/\w'.ownsRow w.heap.size 140 8 z.v l.length (vtL l)/\Bw w w' :=
 (S5 y.v l w h).mono λe w' ⟨x,b,a,c⟩=>by obtain⟨z,rfl⟩:=az a;exact⟨z,b,a,c⟩
theorem gv{y:S3}(g:BR l)(h:Sv w y.v l) :
  Calls prog 139 #[y.v,.agg #[iv v.bu,iv v.b.r,iv v.b.n,iv v.w.k,iv v.w.c,iv v.w.s,iv v.w.n,iv v.w.v]] w λe w'=>∃ z:S3,e=.returned z.v/\w'.ownsRow w.heap.size 140 8 z.v (Bp l v).length (vtL (Bp l v))/\Bw w w' :=
 (Qc y.v l v w g h).mono λe w' ⟨x,d,a,f⟩=>by obtain⟨z,rfl⟩:=az a;exact⟨z,d,a,f⟩
end
section
variable{p:Bal}{l:List Vt}{w w':World}
theorem PA{b:Bal}{E:Int}(a:Cl ⟨p,l⟩ b=E)(c:E≠0)(f:Bw w w'):∃ y z,(Ending.returned (.tuple #[.agg #[iv 0,iv 0,sn],sn,iv E]):Ending)=.returned (.tuple #[.agg (acA (Fs ⟨p,l⟩ b) y),z,.int .i64 (Cl ⟨p,l⟩ b)])/\w'.ownsRow w.heap.size 140 8 y (DN ⟨p,l⟩ b).length (vtL (DN ⟨p,l⟩ b))/\w'.ownsRow w.heap.size 140 8 z (DN ⟨p,l⟩ b).length (vtL (DN ⟨p,l⟩ b))/\Bw w w':=by
 have d:Fs ⟨p,l⟩ b=⟨0,0⟩:=if_neg (by rw[a];exact c);have e:DN ⟨p,l⟩ b=[]:=if_neg (by rw[a];exact c);rw[d,e,a];exact⟨sn,sn,rfl,World.ownsRow_nil _ _ _ _,World.ownsRow_nil _ _ _ _,f⟩
theorem ff{b:Bal}{y z:S3}(e:Ag ⟨p,l⟩)(f:Ab b)(h:¬ b.lt p)(j:w'.ownsRow w.heap.size 140 8 y.v l.length (vtL l))(k:w'.ownsRow w.heap.size 140 8 z.v l.length (vtL l))(i:Bw w w'):∃ y' z',(Ending.returned (.tuple #[.agg #[iv b.r,iv b.n,y.v],z.v,iv 0]):Ending)=.returned (.tuple #[.agg (acA (Fs ⟨p,l⟩ b) y'),z',.int .i64 (Cl ⟨p,l⟩ b)])/\w'.ownsRow w.heap.size 140 8 y' (DN ⟨p,l⟩ b).length (vtL (DN ⟨p,l⟩ b))/\w'.ownsRow w.heap.size 140 8 z' (DN ⟨p,l⟩ b).length (vtL (DN ⟨p,l⟩ b))/\Bw w w':=by
 have a:Cl ⟨p,l⟩ b=0:=(if_neg (λg=>g e)).trans ((if_neg (λg=>g f)).trans (if_neg h));have c:Fs ⟨p,l⟩ b=b:=if_pos a;have d:DN ⟨p,l⟩ b=l:=if_pos a;rw[c,d,a];exact⟨y.v,z.v,rfl,j,k,i⟩
end
theorem Dk(p:Bal)(x:Value)(l:List Vt)(b:Bal)(w:World)(h:Sv w x l)(J:NTab w) :
  Calls prog 100 #[.agg (acA p x),.agg (baA b)] w λe w'=>∃ y z,e=.returned (.tuple #[.agg (acA (Fs ⟨p,l⟩ b) y),z,.int .i64 (Cl ⟨p,l⟩ b)])/\w'.ownsRow w.heap.size 140 8 y (DN ⟨p,l⟩ b).length (vtL (DN ⟨p,l⟩ b))/\w'.ownsRow w.heap.size 140 8 z (DN ⟨p,l⟩ b).length (vtL (DN ⟨p,l⟩ b))/\Bw w w':=by
 obtain⟨y,rfl⟩:=h.s3;show Calls prog 100 #[.agg #[iv p.r,iv p.n,S3.v y],.agg #[iv b.r,iv b.n]] w _;refine tIn [] func100 trivial (tR 12 [0,0,0,0,1,0,0] λc _ _=>tC1 1 (λF C=>J6 p y.v l _ (h.af (CgQ.af C)) (J.af (CgQ.af C))) λ_=>tR 7 [] λK _ _=>?_);by_cases d:Ag ⟨p,l⟩
 .have hE:F5 ⟨p,l⟩=0:=if_pos d;refine tI (((F5 ⟨p,l⟩) != 0)) false (by rw[hE];decide) (tR 5 [1] λL _ _=>?_);by_cases f:Ab b
  .refine tC1 1 (λF C=>IT (b:=b) (r:=true) (M' f)) λ_=>tR 10 [1,0] λM _ _=>?_;by_cases k:b.lt p
   .refine tC1 3 (λF C=>En (a:=b) (b:=p) (r:=true) (M' k)) λ_=>tR 9 [2,0] λN _ _=>tX λF C=>qE3 4 5 6 78 2 (c 2) #[iv 0,iv 0,sn] sn (iv 7) λ_=>PA ((if_neg (λg=>g d)).trans ((if_neg (λg=>g f)).trans (if_pos k))) (by decide) (CgQ.af C)
   .refine tC1 3 (λF C=>En (a:=b) (b:=p) (r:=false) (D' k)) λ_=>tR 10 [8,0,1,2,4,0,10,12,0] λD _ _=>tF λ_ m=>?_;have i:=m.size;refine tC 3 (λF C=>UH (h.af (CgQ.af C))) λo=>?_;rintro _ _ ⟨A,rfl,t,q⟩;refine⟨_,Fa.fo w.heap.size 140 8 A.v l.length (vtL l)::_,rfl,q,λF=>⟨YT t i o,F⟩,?_⟩;refine tR 1 [8] λE _ _=>tF λ_ m=>?_;have j:=m.size;refine tC 7 (λF C=>UH (h.af (CgQ.af C))) λo=>?_;rintro _ _ ⟨B,rfl,u,s⟩;refine⟨_,Fa.fo w.heap.size 140 8 B.v l.length (vtL l)::_,rfl,s,λF=>⟨YT u j o,F⟩,?_⟩;refine tR 4 [17,2,0,18,20] λG _ _=>tX λF C=>qE3 4 5 6 78 2 (c 2) #[iv b.r,iv b.n,S3.v A] (S3.v B) (iv 0) λ_=>ff d f k F.2.1.1 F.1.1 (CgQ.af C)
  .refine tC1 1 (λF C=>IT (b:=b) (r:=false) (D' f)) λ_=>tR 10 [2,0] λH _ _=>tX λF C=>qE3 4 5 6 78 2 (c 2) #[iv 0,iv 0,sn] sn (iv 2) λ_=>PA ((if_neg (λg=>g d)).trans (if_pos f)) (by decide) (CgQ.af C)
 .have hE:F5 ⟨p,l⟩=5:=if_neg d;refine tI (((F5 ⟨p,l⟩) != 0)) true (by rw[hE];decide) ?_;refine tR 8 [2,0] λI _ _=>tX λF C=>qE3 4 5 6 78 2 (c 2) #[iv 0,iv 0,sn] sn (iv (F5 ⟨p,l⟩)) λ_=>by rw[hE];exact PA (if_pos d) (by decide) (CgQ.af C)
theorem CV(a:Acc)(b:Bal):(DN a b).length<=a.vs.length:=by unfold DN;split<;>simp
theorem Rt(p:Bal)(x:Value)(l:List Vt)(b:Bal)(w:World)(h:Sv w x l)(d:NTab w) :
  Calls prog 100 #[.agg (acA p x),.agg (baA b)] w λe w'=>∃ y z,e=.returned (.tuple #[.agg (acA (Fs ⟨p,l⟩ b) y),z,.int .i64 (Cl ⟨p,l⟩ b)])/\Sv w' y (DN ⟨p,l⟩ b)/\Sv w' z (DN ⟨p,l⟩ b)/\Bw w w' :=
 (Dk p x l b w h d).mono λe w' ⟨y,z,c,f,g,a⟩=>⟨y,z,c,Sv.nr f (mV (CV ⟨p,l⟩ b) h.len),Sv.nr g (mV (CV ⟨p,l⟩ b) h.len),a⟩
section
variable{p:Bal}{l:List Vt}{w w':World}{v:Vt}
theorem iU{p:Bal}{l:List Vt}{v:Vt}(a:Ag ⟨p,l⟩)(b:Ah v):(Bp l v).length<=40:=by
 rw[<- dX 40 a.2.2 (λu c=>by have:=(a.2.1 u c).1.1;omega) (by have:=b.1;omega)];exact YZ _ a.2.2 40
theorem Pa{E:Int}(a:AX ⟨p,l⟩ v=E)(b:E≠0)(e:Bw w w'):∃ y,(Ending.returned (.tuple #[.agg #[iv 0,iv 0,sn],iv E]):Ending)=.returned (.tuple #[.agg (acA (BN ⟨p,l⟩ v) y),.int .i64 (AX ⟨p,l⟩ v)])/\w'.ownsRow w.heap.size 140 8 y (Bu ⟨p,l⟩ v).length (vtL (Bu ⟨p,l⟩ v))/\(Bu ⟨p,l⟩ v).length<=40/\Bw w w':=by
 have c:BN ⟨p,l⟩ v=⟨0,0⟩:=if_neg (by rw[a];exact b);have d:Bu ⟨p,l⟩ v=[]:=if_neg (by rw[a];exact b);rw[c,d,a];exact⟨sn,rfl,World.ownsRow_nil _ _ _ _,by simp,e⟩
theorem cU{y:S3}(c:Ag ⟨p,l⟩)(d:Ah v)(h:¬ v.b.lt p)(j:w'.ownsRow w.heap.size 140 8 y.v (Bp l v).length (vtL (Bp l v)))(i:Bw w w'):∃ y',(Ending.returned (.tuple #[.agg #[iv v.b.r,iv v.b.n,y.v],iv 0]):Ending)=.returned (.tuple #[.agg (acA (BN ⟨p,l⟩ v) y'),.int .i64 (AX ⟨p,l⟩ v)])/\w'.ownsRow w.heap.size 140 8 y' (Bu ⟨p,l⟩ v).length (vtL (Bu ⟨p,l⟩ v))/\(Bu ⟨p,l⟩ v).length<=40/\Bw w w':=by
 have a:AX ⟨p,l⟩ v=0:=(if_neg (λg=>g c)).trans ((if_neg (λg=>g d)).trans (if_neg h));have e:BN ⟨p,l⟩ v=v.b:=if_pos a;have f:Bu ⟨p,l⟩ v=Bp l v:=if_pos a;rw[e,f,a];exact⟨y.v,rfl,j,iU c d,i⟩
end
section
theorem Cv(p:Bal)(x:Value)(l:List Vt)(v:Vt)(w:World)(h:Sv w x l)(q:NTab w) :
  Calls prog 102 #[.agg (acA p x),.agg (vtA v)] w λe w'=>∃ y,e=.returned (.tuple #[.agg (acA (BN ⟨p,l⟩ v) y),.int .i64 (AX ⟨p,l⟩ v)])/\w'.ownsRow w.heap.size 140 8 y (Bu ⟨p,l⟩ v).length (vtL (Bu ⟨p,l⟩ v))/\(Bu ⟨p,l⟩ v).length<=40/\Bw w w':=by
 obtain⟨y,rfl⟩:=h.s3;show Calls prog 102 #[.agg #[iv p.r,iv p.n,S3.v y],.agg #[iv v.bu,iv v.b.r,iv v.b.n,iv v.w.k,iv v.w.c,iv v.w.s,iv v.w.n,iv v.w.v]] w _;refine tIn [] func102 trivial (tR 11 [0,0,0,0,1,0,0] λd _ _=>tC1 1 (λF C=>J6 p y.v l _ (h.af (CgQ.af C)) (q.af (CgQ.af C))) λ_=>tR 7 [] λH _ _=>?_);by_cases f:Ag ⟨p,l⟩
 .have hE:F5 ⟨p,l⟩=0:=if_pos f;refine tI (((F5 ⟨p,l⟩) != 0)) false (by rw[hE];decide) (tR 5 [1] λI _ _=>?_);by_cases i:Ah v
  .refine tC1 1 (λF C=>Hf (v:=v) (q.af (CgQ.af C)) (r:=true) (M' i)) λ_=>tR 11 [1,0] λJ _ _=>?_;by_cases m:v.b.lt p
   .refine tC1 4 (λF C=>En (a:=v.b) (b:=p) (r:=true) (M' m)) λ_=>tR 8 [2,0] λK _ _=>tX λF C=>qE2 4 5 78 2 (d 2) #[iv 0,iv 0,sn] (iv 7) λ_=>Pa ((if_neg (λg=>g f)).trans ((if_neg (λg=>g i)).trans (if_pos m))) (by decide) (CgQ.af C)
   .refine tC1 4 (λF C=>En (a:=v.b) (b:=p) (r:=false) (D' m)) λ_=>tR 10 [7,0,2,1,4,6,0,8,1] λz _ _=>tF λ_ E=>?_;have j:=E.size;refine tC 5 (λF C=>gv (v:=v) f.2.2 (h.af (CgQ.af C))) λG=>?_;rintro _ _ ⟨u,rfl,t,o⟩;refine⟨_,Fa.fo w.heap.size 140 8 u.v (Bp l v).length (vtL (Bp l v))::_,rfl,o,λF=>⟨YT t j G,F⟩,?_⟩;refine tR 4 [12,15,2,0,16] λA _ _=>tX λF C=>qE2 4 5 78 2 (d 2) #[iv v.b.r,iv v.b.n,S3.v u] (iv 0) λ_=>cU f i m F.1.1 (CgQ.af C)
  .refine tC1 1 (λF C=>Hf (v:=v) (q.af (CgQ.af C)) (r:=false) (D' i)) λ_=>tR 9 [2,0] λB _ _=>tX λF C=>qE2 4 5 78 2 (d 2) #[iv 0,iv 0,sn] (iv 2) λ_=>Pa ((if_neg (λg=>g f)).trans (if_pos i)) (by decide) (CgQ.af C)
 .have hE:F5 ⟨p,l⟩=5:=if_neg f;refine tI (((F5 ⟨p,l⟩) != 0)) true (by rw[hE];decide) ?_;refine tR 7 [2,0] λD _ _=>tX λF C=>qE2 4 5 78 2 (d 2) #[iv 0,iv 0,sn] (iv (F5 ⟨p,l⟩)) λ_=>by rw[hE];exact Pa (if_pos f) (by decide) (CgQ.af C)
theorem Sb(p:Bal)(x:Value)(l:List Vt)(v:Vt)(w:World)(h:Sv w x l)(c:NTab w) :
  Calls prog 102 #[.agg (acA p x),.agg (vtA v)] w λe w'=>∃ y,e=.returned (.tuple #[.agg (acA (BN ⟨p,l⟩ v) y),.int .i64 (AX ⟨p,l⟩ v)])/\Sv w' y (Bu ⟨p,l⟩ v)/\Bw w w' :=
 (Cv p x l v w h c).mono λe w' ⟨y,b,d,f,a⟩=>⟨y,b,Sv.nr d (by omega),a⟩
structure Base(w0:World)(g:Gh)(w:World):Prop where
 b:Bw w0 w
 z:∀ k,k<w0.heap.size->g.t k=.z
variable{B:Nat}{a:Acc}{g:Gh}{w w' w0:World}{y:Value}
theorem Base.ch{T:List Tg}{d:Gh}(h:Base w0 g w)(c:Cg B T g w d w')(f:Tg.z∉T:=by simp):Base w0 d w' :=
 have e:∀ k,k<w0.heap.size->k<w.heap.size:=λk a=>j' a h.b.size
 ⟨⟨c.os.trans h.b.os,c.tape.trans h.b.tape,c.output.trans h.b.output,mV h.b.size c.size,λk a=>(c.zc f (e k a) (h.z k a)).trans (h.b.block k a)⟩,λk a=>(c.tag (e k a) (by rw[h.z k a];intro h;cases h)).trans (h.z k a)⟩
structure Tabs(w:World):Prop where
 t:AJ w
 n:NTab w
 q:CW w
theorem Base.tt(h:Base w0 g w)(t:Tabs w0):AJ w:=t.t.af h.b
theorem Base.tn(h:Base w0 g w)(t:Tabs w0):NTab w:=t.n.af h.b
theorem Base.tq(h:Base w0 g w)(t:Tabs w0):CW w:=t.q.af t.q.pos h.b
theorem Ea{l:List Vt}(h:w'.ownsRow B 140 8 y l.length (vtL l))(e:∀ b,B<=b->g.t b=.z)(f:l.length<=2199023255488):∃ y3:S3,y=y3.v/\y3.n=l.length/\FSv g w' y3 l:=by
 have d:=Sv.nr h f;rcases h.2 with⟨rfl,h0⟩|⟨b,cap,cur,rfl,hb,_⟩
 .exact⟨s30,rfl,h0.symm,d,λi=>absurd (Z' h0) i⟩
 .exact⟨⟨some ⟨b,0,none⟩,l.length,cap⟩,rfl,rfl,d,λ_ a c=>by simp only[Y']at c;subst c;exact e b hb⟩
theorem eX{l:List Int}(h:w'.ownsRow B 5 1 y l.length (l.map (Value.int .u8)))(k:∀ b,B<=b->g.t b=.z)(m:l.length<=140737488351232)(j:∀ x∈l,0<=x/\x<256):∃ y3:S3,y=y3.v/\y3.n=l.length/\FSl g w' y3 l:=by
 rcases h.2 with⟨rfl,h0⟩|⟨b,cap,cur,rfl,hbb,hh,hc,_,hcs,ht⟩
 .have d:l=[]:=Z' h0;subst d;exact⟨s30,rfl,rfl,⟨⟨none,0,rfl,A' _,λ_=>rfl,.inl rfl⟩,by simp,by simp⟩,λd=>absurd rfl d⟩
 .refine⟨⟨some ⟨b,0,none⟩,l.length,cap⟩,rfl,rfl,⟨⟨_,_,rfl,hc,λh=>(by cases h),.inr ⟨b,0,rfl,rl hh,λi f=>?_⟩⟩,m,j⟩,λ_ a e=>by simp only[Y']at e;subst e;exact k b hbb⟩;have c:(l.map (Value.int .u8))[i]?=some (.int .u8 (l.getD i 0)):=by rw[nR,E' f,nT,E' f];rfl
  rw[<- ht,ol]at c
  split at c
  .rw[cell_of_row _ _ _ _ _ _ hh,nS];simpa using c
  .cases c
theorem Kb{d:List Int}{s:Int}{may:Prop}[Decidable may]{b:List Int}(h:CJ d s may b=0):AO d s/\d.length+(b.length+5)<=100000/\may:=by
 unfold CJ at h;by_cases c:GF d s (b.length+5)≠0
 .rw[if_pos c]at h;exact absurd h c
 .rw[if_neg c]at h
  have e:may:=nP λe=>by rw[if_neg e]at h;cases h
  have a:GF d s (b.length+5)=0:=by simpa using c
  unfold GF at a;by_cases f:AO d s
  .rw[if_neg (λg=>g f)]at a
   refine⟨f,?_,e⟩;rcases nW 100000 (d.length+(b.length+5))with h2|h2
   .rw[if_pos h2]at a;cases a
   .exact h2
  .rw[if_pos f]at a;cases a
theorem jt{b:Bal}(h:Cl a b=0):Fs a b=b/\DN a b=a.vs:=⟨if_pos h,if_pos h⟩
theorem DB{v:Vt}(h:AX a v=0):BN a v=v.b/\Bu a v=Bp a.vs v:=⟨if_pos h,if_pos h⟩
end
end
section
open Go.ChangeShapes Go.WideShapes Go.ChangeAt Go.RowKit
theorem mM{W:World}(h:laidMetH prog Rows.topCrashRow.laid W):Tabs W/\LWTab W/\LBTab W:=by
 have u:laidMet prog Rows.topCrashRow.laid W:=h;obtain⟨B,⟨w,F,r,d,z,C,k,n,a,g,⟨x,G,s,e,p1,D,l,o,b,i,⟨y,H,t,f,A,E,m,p,c,j,v,_⟩,_⟩,_⟩,_⟩:=u;have q:=fT v;obtain rfl:=nQ (YV.symm.trans k);obtain rfl:=nQ (SV.symm.trans n);obtain rfl:=nQ (kG.symm.trans l);obtain rfl:=nQ (YW.symm.trans o);obtain rfl:=nQ (gE.symm.trans m);obtain rfl:=nQ (We.symm.trans p);exact⟨⟨aZ b i,eJ c j,aO a g⟩,q.1,q.2⟩
def Jx(os:Os)(W:World):Prop :=
 W={ World.holding prog os ⟨#[],#[],[]⟩with heap:=(((((World.holding prog os ⟨#[],#[],[]⟩).heap.modify 4 (ZB WW)).modify 3 (ZB (Ti.map (Value.int .u32)).toArray)).modify 2 (ZB (O9.map (Value.int .i64)).toArray)).modify 1 (Zw Qo)).modify 0 (Zw Sn) }
theorem dH(a:Os):∃ W,Jx a W:=⟨_,rfl⟩
end
section
open Go.RowKit
section
def cmG(c:Cmd):Value:=.agg #[iv c.k,iv c.c,iv c.s,iv c.n,iv c.v]
theorem Ve(x:Cmd × Bal × Nat):(mkA x).key=cmG x.1:=rfl
theorem YM(u v:Cmd)(w:World):(Op.equal 49 (cmG u) (cmG v)).run prog w=.ok (decide (u=v)) w:=by
 have a:=UM u.k u.c u.s u.n u.v v.k v.c v.s v.n v.v w;rw[Pk]at a
 rw[run_eql_struct]at a
 show(Op.equalIn 10000 _ _ _).run _ _=_;simp only[cmG];cases hr:(Op.equalIn 10000 49 (.agg #[iv u.k,iv u.c,iv u.s,iv u.n,iv u.v]) (.agg #[iv v.k,iv v.c,iv v.s,iv v.n,iv v.v])).run prog w with
 | ok b w'=>simp only[hr]at a;simp[Result.andThen]at a;rw[a.1,a.2]
 | _=>simp only[hr]at a;simp[Result.andThen]at a
abbrev Ask:=Cmd × Bal × Nat
def LT(v:Cmd):List Ask->Nat->Option (Nat × Value)
 | [],_=>none
 | x::c,i=>if v=x.1 then some (i,(mkA x).val)else LT v c (i+1)
theorem Od(v:Cmd)(w:World):∀ (c:List Ask) (i:Nat),(Instr.findAsking 49 (cmG v) (c.map mkA) i).run prog w=.ok (LT v c i) w
 | [],i=>by simp[Instr.findAsking,LT]
 | x::c,i=>by
  have h:=YM v x.1 w;rw[nK,Instr.findAsking,Sem.run_bind];rw[Ve,h,Result.andThen_ok,LT];by_cases e:v=x.1
  .rw[M' e,if_pos e];rfl
  .rw[D' e,if_neg e];simpa using Od v w c (i+1)
theorem Hc(v:Cmd)(w:World)(c:List Ask):(Instr.findKey 49 (cmG v) (c.map mkA)).run prog w=.ok (LT v c 0) w:=by
 rw[Instr.findKey,Sem.run_bind,run_underlying underlying49 w,Result.andThen_ok];cases c with
 | nil=>simp[Instr.findNow,LT]
 | cons x c =>
  show Sem.run _ (match(none:Option (Option (Nat × Value)))with|some r=>pure r|none=>Instr.findAsking 49 (cmG v) ((x::c).map mkA)) w=_;exact Od v w (x::c) 0
theorem Fh(a:Bool)(v:Cmd)(w:World):(Instr.checkKey a 10000 49 (cmG v)).run prog w=.ok () w:=by
 obtain⟨k,c,q,m,x⟩:=v;kernel_rfl
theorem fF(v:Cmd)(n:Nat):Instr.sameBits (n+1) (cmG v) (cmG v)=true:=by simp[Instr.sameBits,cmG]
theorem bH(v:Cmd)(w:World):(Instr.keyThatStays (cmG v) (cmG v)).run prog w=.ok (cmG v) w:=by
 rw[Instr.keyThatStays,if_pos (fF v 9999)];rfl
def Gg(c:List Ask)(v:Cmd):Option Bal:=(c.find? λx=>decide (v=x.1)).map (·.2.1)
theorem Lk(v:Cmd):∀ (c:List Ask) (i:Nat),(LT v c i=none/\Gg c v=none/\∀ x∈c,v≠x.1)\/∃ a x b,c=a++x::b/\x.1=v/\(∀ y∈a,v≠y.1)/\LT v c i=some (i+a.length,(mkA x).val)/\Gg c v=some x.2.1
 | [],i=>.inl ⟨rfl,rfl,λx hx=>by cases hx⟩
 | x::c,i=>by
  by_cases e:v=x.1
  .refine .inr ⟨[],x,c,rfl,e.symm,λy hy=>(P' hy).elim,?_,?_⟩
   .rw[LT,if_pos e];rfl
   .simp[Gg,e]
  .rcases Lk v c (i+1)with⟨h1,h2,h3⟩|⟨a,y,b,rfl,hy,h3,h4,h5⟩
   .refine .inl ⟨by rw[LT,if_neg e,h1],?_,λy hy=>?_⟩
    .rw[<- h2];simp[Gg,e]
    .rcases nf.1 hy with rfl|hy
     .exact e
     .exact h3 y hy
   .refine .inr ⟨x::a,y,b,rfl,hy,λz hz=>?_,?_,?_⟩
    .rcases nf.1 hz with rfl|hz
     .exact e
     .exact h3 z hz
    .rw[LT,if_neg e,h4];simp;omega
    .rw[<- h5];simp[Gg,e]
def KG(b:Bal):Value:=.agg #[iv b.r,iv b.n]
variable{b:Nat}{f:Cmd->Option Bal}{g:Gh}{w:World}{τ:Tg}
theorem gU(h:AskAt g w τ b f)(v:Cmd)(ok:Bool):(Instr.lookup 90 (.map (some b)) (cmG v) ok).run prog w=.ok (if ok then .tuple #[KG ((f v).getD Bb),.bool (f v).isSome]else KG ((f v).getD Bb)) w:=by
 obtain⟨_,_,c,k,j,_,_,_,l⟩:=h;have e:f v=Gg c v:=l v;have i:(getObj b).run prog w=.ok (.map (c.map mkA).toArray k) w:=by simp[getObj,Sem.run,j]
 rcases Lk v c 0 with⟨h1,h2,_⟩|⟨a,x,d,_,_,_,h1,h2⟩
 .rw[h2]at e
  cases ok<;>simp[Instr.lookup,run_underlying underlying90,i,Fh,Hc,h1,e,KG,Bb]
 .rw[h2]at e
  cases ok<;>simp[Instr.lookup,run_underlying underlying90,i,Fh,Hc,h1,e,mkA,KG]
theorem Cg.block{B:Nat}{T:List Tg}{l:Array MapEntry}{k:Nat}(f:w.heap[b]?=some (.map l k))(p:g.t b=τ)(n:g.k b=0)(d:τ∈T)(o:Obj):Cg B T g w g (ChangeMaps.setBlock w b o) :=
 have c:∀ a,g.t a∉T->a≠b:=λa h e=>h (by rw[e,p];exact d)
 ⟨rfl,rfl,rfl,by simp[ChangeMaps.setBlock],λ_ _=>.inl rfl,λ_ _=>A' _,λ_ _ _ _=>rfl,λa _ h _=>ChangeMaps.heap_setBlock_other f o (c a h),
  λa _ j m=>World.cell?_of_block (w:=w) (ChangeMaps.heap_setBlock_other f o (λe=>by have i:a=b:=e;rw[i,n]at m;omega))⟩
theorem Wc(c:List Ask)(v u:Cmd)(x:Bal)(k:Nat)(h:∀ y∈c,v≠y.1):Gg (c++[(v,x,k)]) u=if u=v then some x else Gg c u:=by
 unfold Gg;rw[oO];by_cases e:u=v
 .subst e;have a:c.find? (λy=>decide (u=y.1))=none:=by
   rw[oD];intro y b;simp[h y b]
  simp[a]
 .rw[if_neg e];simp[e]
theorem YP(a d:List Ask)(v u:Cmd)(x y:Bal)(k:Nat)(h:∀ y∈a,v≠y.1):Gg (a++(v,y,k)::d) u=if u=v then some y else Gg (a++(v,x,k)::d) u:=by
 unfold Gg;rw[oO,oO,pO,pO];by_cases e:u=v
 .subst e;have b:a.find? (λy=>decide (u=y.1))=none:=by
   rw[oD];intro y c;simp[h y c]
  simp[b]
 .rw[if_neg e];simp[e]
theorem YQ(a d:List Ask)(v u:Cmd)(x:Bal)(k:Nat)(h:∀ y∈a,v≠y.1)(f:∀ y∈d,v≠y.1):Gg (a++d) u=if u=v then none else Gg (a++(v,x,k)::d) u:=by
 unfold Gg;rw[oO,oO,pO];by_cases e:u=v
 .subst e;have g:a.find? (λy=>decide (u=y.1))=none:=by
   rw[oD];intro y c;simp[h y c]
  have b:d.find? (λy=>decide (u=y.1))=none:=by
   rw[oD];intro y c;simp[f y c]
  simp[g,b]
 .rw[if_neg e];simp[e]
theorem dc(h:AskAt g w τ b f)(v:Cmd)(x:Bal):∃ w',(Instr.mapUpdate 90 (.map (some b)) (cmG v) (KG x)).run prog w=.ok () w'/\AskAt g w' τ b (Ca f v (some x))/\(∀ B T,τ∈T->Cg B T g w g w')/\w'.heap.size=w.heap.size:=by
 obtain⟨s,j,c,k,l,m,n,o,E⟩:=h;have F:(getObj b).run prog w=.ok (.map (c.map mkA).toArray k) w:=by simp[getObj,Sem.run,l]
 rcases Lk v c 0 with⟨h1,h2,h3⟩|⟨a,y,d,rfl,hy,h3,h1,h2⟩
 .have C:=MapKept.run_setObj_map (P:=prog) (w:=w) (.map ((c++[(v,x,k)]).map mkA).toArray (k+1)) l;refine⟨_,?_,⟨s,j,c++[(v,x,k)],k+1,ChangeMaps.heap_setBlock_same l (.map ((c++[(v,x,k)]).map mkA).toArray (k+1)),?_,?_,?_,?_⟩,λB T t=>Cg.block l s j t _,by simp[ChangeMaps.setBlock]⟩
  .have z:((c.map mkA).toArray.push { key:=cmG v,val:=KG x,born:=k })=((c++[(v,x,k)]).map mkA).toArray:=by simp[mkA,cmG,KG,cmV]
   rw[Instr.mapUpdate];simp only[Sem.run_bind,run_underlying underlying90,Result.andThen_ok,F,Fh,Hc,h1,z,C];rfl
  .intro y hy;rcases U'.1 hy with hy|hy
   .have:=m y hy;omega
   .obtain rfl:y=(v,x,k):=by simpa using hy
    show k<k+1;omega
  .rw[nE,pq];refine⟨n,by simp,?_⟩;intro p A q r;obtain⟨y,hy,rfl⟩:=ny.1 A;obtain rfl:q=k:=by simpa using r
   have:=m y hy;omega
  .rw[nE,pq];refine⟨o,by simp,?_⟩;intro p A q r;obtain⟨y,hy,rfl⟩:=ny.1 A;obtain rfl:q=v:=by simpa using r
   exact λe=>h3 y hy e.symm
  .intro u;rw[show(List.find? (λx=>decide (u=x.1)) (c++[(v,x,k)])).map (·.2.1)=Gg (c++[(v,x,k)]) u from rfl,Wc c v u x k h3];unfold Ca;split
   .rfl
   .exact E u
 .obtain⟨yv,yb,yk⟩:=y;simp only at hy;subst hy;have C:=MapKept.run_setObj_map (P:=prog) (w:=w) (.map ((a++(yv,x,yk)::d).map mkA).toArray k) l;refine⟨_,?_,⟨s,j,a++(yv,x,yk)::d,k,ChangeMaps.heap_setBlock_same l (.map ((a++(yv,x,yk)::d).map mkA).toArray k),?_,?_,?_,?_⟩,λB T t=>Cg.block l s j t _,by simp[ChangeMaps.setBlock]⟩
  .have hx:((a++(yv,yb,yk)::d).map mkA).toArray[a.length]?=some (mkA (yv,yb,yk)):=by simp
   have z:(((a++(yv,yb,yk)::d).map mkA).toArray.modify a.length λe=>{ e with key:=cmG yv,val:=KG x })=((a++(yv,x,yk)::d).map mkA).toArray:=by
    apply pJ;intro i;rw[qD];split
    .rename_i hi
     subst hi;simp[mkA,cmG,KG,cmV]
    .rename_i hi
     simp only[oc,nE,nK];rcases nW i a.length with g|g
     .rw[nm (by simpa using g),nm (by simpa using g)]
     .rw[nt (by simpa using g),nt (by simpa using g)];obtain⟨q,r⟩:∃ q,i-(a.map mkA).length=q+1:=⟨i-a.length-1,by simp;omega⟩;rw[r];rfl
   have D:=bH yv w;rw[Instr.mapUpdate];simp only[Sem.run_bind,run_underlying underlying90,Result.andThen_ok,F,Fh,Hc,h1,nS,hx,nZ,ry];rw[Ve,D,Result.andThen_ok,z,C];rfl
  .intro y hy;rcases U'.1 hy with hy|hy
   .exact m y (mY _ hy)
   .rcases nf.1 hy with rfl|hy
    .exact m (yv,yb,yk) (by simp)
    .exact m y (mW _ (I' _ hy))
  .simpa using n
  .simpa using o
  .intro u;rw[show(List.find? (λx=>decide (u=x.1)) (a++(yv,x,yk)::d)).map (·.2.1)=Gg (a++(yv,x,yk)::d) u from rfl,YP a d yv u yb x yk h3];unfold Ca;split
   .rfl
   .exact E u
theorem db(h:AskAt g w τ b f)(v:Cmd)(A:TypeId):∃ w',(Builtin.delete_ #[90,49] A #[.map (some b),cmG v]).run prog w=.ok (.tuple #[]) w'/\AskAt g w' τ b (Ca f v none)/\(∀ B T,τ∈T->Cg B T g w g w')/\w'.heap.size=w.heap.size:=by
 obtain⟨n,j,c,k,l,p,m,i,s⟩:=h;have t:(getObj b).run prog w=.ok (.map (c.map mkA).toArray k) w:=by simp[getObj,Sem.run,l]
 rcases Lk v c 0 with⟨h1,h2,h3⟩|⟨a,y,d,rfl,hy,h3,h1,h2⟩
 .have q:=MapKept.run_setObj_map (P:=prog) (w:=w) (.map (c.map mkA).toArray k) l;refine⟨_,?_,⟨n,j,c,k,ChangeMaps.heap_setBlock_same l (.map (c.map mkA).toArray k),p,m,i,?_⟩,λB T o=>Cg.block l n j o _,by simp[ChangeMaps.setBlock]⟩
  .simp[Builtin.delete_,run_underlying underlying90,t,Fh,Hc,h1,q];rfl
  .intro u;unfold Ca;split
   .rename_i e;rw[e];exact h2.symm
   .exact s u
 .obtain⟨yv,yb,yk⟩:=y;simp only at hy;subst hy;have q:=MapKept.run_setObj_map (P:=prog) (w:=w) (.map ((a++d).map mkA).toArray k) l;have z:∀ y∈d,yv≠y.1:=by
   intro y hy e;rw[nE,nK,pq]at i
   exact(pu.1 i.2.1).1 (ny.2 ⟨y,hy,e.symm⟩)
  refine⟨_,?_,⟨n,j,a++d,k,ChangeMaps.heap_setBlock_same l (.map ((a++d).map mkA).toArray k),?_,?_,?_,?_⟩,λB T o=>Cg.block l n j o _,by simp[ChangeMaps.setBlock]⟩
  .have he:(((a++(yv,yb,yk)::d).map mkA).toArray.eraseIdxIfInBounds a.length)=((a++d).map mkA).toArray:=by
    rw[Array.eraseIdxIfInBounds,dif_pos (by simp)];simp[List.eraseIdx_append_of_length_le]
   have r:=Hc yv w (a++(yv,yb,yk)::d);rw[h1,nS]at r
   simp only[Builtin.delete_,oc,oC,qf,Sem.run_bind,run_underlying underlying90,Result.andThen_ok,t,Fh,r,he,q];rfl
  .intro y hy;rcases U'.1 hy with hy|hy
   .exact p y (mY _ hy)
   .exact p y (mW _ (I' _ hy))
  .rw[nE,nK]at m
   rw[nE];exact m.sublist (List.Sublist.append_left (List.sublist_cons_self _ _) _)
  .rw[nE,nK]at i
   rw[nE];exact i.sublist (List.Sublist.append_left (List.sublist_cons_self _ _) _)
  .intro u;rw[show(List.find? (λx=>decide (u=x.1)) (a++d)).map (·.2.1)=Gg (a++d) u from rfl,YQ a d yv u yb yk h3 z];unfold Ca;split
   .rfl
   .exact s u
end
section
variable{fn:Func}{R:Ending->World->Prop}{B:Nat}{T:List Tg}{g:Gh}{w:World}
section
variable{b:Nat}{f:Cmd->Option Bal}{g:Gh}{s:Xs}{w:World}{τ:Tg}
theorem aQ(h:AskAt g w τ b f)(v:Cmd):(Instr.lookup 90 (.map (some b)) (cmG v) true).run prog w=.ok (.tuple #[KG ((f v).getD Bb),.bool (f v).isSome]) w:=gU h v true
theorem jz(h:AskAt g w τ b f)(v:Cmd):(Instr.lookup 90 (.map (some b)) (cmG v) false).run prog w=.ok (KG ((f v).getD Bb)) w:=gU h v false
theorem UQ(c:Nat)(v:Cmd)(x:Bal)(h:AskAt g w τ b f)(a:D7 s c=some (Instr.mapUpdate 90 (.map (some b)) (cmG v) (KG x)>>=λ_=>pure .skip))(d:(nxt s c undef s.L).o.map Ob.l'=(nxt s c undef s.L).o.map Ob.r')(p:s.L.all (λy=>[τ].all λt=>y.t.ne t)=true)(q:∀ w',AskAt g w' τ b (Ca f v (some x))->(∀ B T,τ∈T->Cg B T g w g w')->GG prog fn R B T (nxt s c undef s.L).s g w'):GG prog fn R B T s g w:=by
 refine LY c s.L d (Cp a) λk u i o e=>?_;obtain⟨w',r,m,j,n⟩:=dc h v x;refine⟨undef,w',g,.inr ⟨?_,rfl⟩,k.ch (j _ [τ] (G'.2 rfl)) (λb l=>k.new b (by rw[n]at l;exact l)) p,q w' m j⟩;rw[DE a e,Sem.run_bind,r,Result.andThen_ok];rfl
theorem dP(c:Nat)(v:Cmd)(m:TypeId)(h:AskAt g w τ b f)(a:D7 s c=some (Builtin.delete_ #[90,49] m #[.map (some b),cmG v]>>=λv=>pure (.value v)))(d:(nxt s c undef s.L).o.map Ob.l'=(nxt s c undef s.L).o.map Ob.r')(q:s.L.all (λy=>[τ].all λt=>y.t.ne t)=true)(r:∀ w',AskAt g w' τ b (Ca f v none)->(∀ B T,τ∈T->Cg B T g w g w')->GG prog fn R B T (nxt s c (.tuple #[]) s.L).s g w'):GG prog fn R B T s g w:=by
 refine LY c s.L d (Cp a) λk x i o e=>?_;obtain⟨w',u,n,j,p⟩:=db h v m;refine⟨.tuple #[],w',g,.inl ?_,k.ch (j _ [τ] (G'.2 rfl)) (λb l=>k.new b (by rw[p]at l;exact l)) q,r w' n j⟩;rw[DE a e,Sem.run_bind,u,Result.andThen_ok];rfl
end
end
section
def TO:List Tg:=[.n 50 0,.n 51 0,.n 52 0]
variable{b1 b2 b3 i j k lb nb ob:Nat}{c:Cmd}{g:Gh}{l:Let}{ls:List Let}{p:Nod}{ts:List Tol}{v:Vt}{w:World}{x:S3}
theorem bk{x:NX}{lt s:S3}(B:NodeAt g w i nb ob x p)(q:OutAt g w ob lt s ls ts)(C:Jw g w)(P:ls.length<100000000)(l:Let)(k m:S3)(D:FSv g w k l.mv)(E:Rc g w m l.fv)(to:Nat) :
  Calls prog 84 #[pt nb 0,iv (to:Int),.agg (FF l k m)] w λe w'=>∃ g' lt',e=.returned (.tuple #[])/\OutAt g' w' ob lt' s (ls++[{ l with src:=i,dst:=to }]) ts/\Cg w.heap.size TO g w g' w'/\Jw g' w':=by
 obtain⟨A,t,h⟩:=q.bt;have j:lt.n=ls.length:=by have:=t.len;have:=h.len;simp at *;omega
 refine gI (fn:=f84) TO g func84 C (qN B (qO q (qR [] 29 [0,0,0,2,0,2,0,15,0,2,4,6,0,8,10,12,14,0,16,18,20,1,23,0,0] λc M R c1=>KL 12 (x:=lt) 65 65 143 1 8 (.pointer none) ⟨(c 1),0,none⟩ 1 1 [pt (c 0) 0] (t.ch c1) (by kernel_rfl) (by kernel_rfl) (by kernel_rfl) underlying65 (by kernel_rfl) (by kernel_rfl) (by decide) (by decide) rfl (by simp[Value.oneCell']) (λK=>Cz K 3 (c 1) [pt (c 0) 0] 143 .z true (by kernel_rfl)) (by rw[j];unfold maxLen;omega) (by rw[j];omega) ?_)));intro u N S y Q o L;have d:=o w.heap.size [.n 51 0] (G'.2 rfl);refine qR [.n 50 0] 4 [26,28,31,1,1] λs3 O T a=>qE (.tuple #[]) λK=>?_;obtain⟨F,G,H⟩:=K.sC 1 ob (.cells #[S3.v u,S3.v s] 67) 50 0 (by kernel_rfl);obtain⟨I,J⟩:=K.sB 2 (c 0) (.cells (FF { l with src:=i,dst:=to } k m) 142) false (by kernel_rfl);have b:∀ r,Tg.z∉[Tg.n r 0]:=λr=>by simp
 refine⟨_,u,rfl,⟨F,G,H,⟨A++[(c 0)],?_,?_⟩,(((q.ew.ch c1).ch d).ch a)⟩,(((c1.nil TO).trans (d.mono (by simp[TO]))).trans (a.mono (by simp[TO]))),K.new⟩
 .rw[nE];exact y.ch a
 .refine(((h.ch c1).ch d (b _)).ch a (b _)).snoc ⟨k,m,⟨I,J⟩,(((D.ch c1).ch d (b _)).ch a (b _)),(((E.ch c1).ch d (b _)).ch a (b _))⟩
theorem AQ(h:NS i nb ob g w p ls ts)(I:p.bw.length<100000000)(e:Fn)(d:Array Value)(q:Pend)(A:Lw g w nb (.func e #[] d) q) :
  Calls prog 57 #[pt nb 0,.func e #[] d] w (NP i nb ob g w (.tuple #[]) (p.wait q) ls ts):=by
 obtain⟨x,lt,B,b,r,y⟩:=h;obtain⟨C,s,j⟩:=b.bw;have t:x.synced.n=p.bw.length:=by have:=s.len;have:=j.len;simp at *;omega
 refine gI (fn:=f57) (TN i) g func57 y (qN b (qO r (qR [] 9 [0,0,0] λu F L c1=>KL 8 (x:=x.synced) 79 79 1 1 8 (.nilFunc) ⟨(u 0),0,none⟩ 1 1 [.func e #[] d] (s.ch c1) (by kernel_rfl) (by kernel_rfl) (by kernel_rfl) underlying79 (by kernel_rfl) (by kernel_rfl) (by decide) (by decide) rfl (by simp[Value.oneCell']) (λK=>Cz K 2 (u 0) [.func e #[] d] 1 .z true (by kernel_rfl)) (by rw[t];unfold maxLen;omega) (by rw[t];omega) ?_)));intro D G M v J l E;have o:=l w.heap.size [.n 1 i] (G'.2 rfl);refine qR [.n 0 i] 5 [0,1] λs3 H N k=>qE (.tuple #[]) λK=>?_;have a:=((c1.nil ([.n 1 i,.n 0 i]:List Tg)).m o).m k;have c:Tg.z∉([.n 1 i,.n 0 i]:List Tg):=by simp
 exact⟨_,rfl,⟨{ x with synced:=D },lt,B,K.nd 0 (b.tape.ch a c) (b.mv.ch a c) (BG b.an a c) ⟨C++[.func e #[] d],v.ch k,(j.ch a c).snoc (A.ch a c)⟩ (b.fa.ch a) (b.ae.ch a) (b.br.ch a) (b.cl.ch a) b.sJ,r.ch a c (by simp<;>omega),K.new⟩,(((c1.nil (TN i)).trans (o.mono (by simp[TN]))).trans (k.mono (by simp[TN])))⟩
theorem RO(h:NS i nb ob g w p ls ts)(G:ts.length<100000000)(c:Cmd)(b a:Int) :
  Calls prog 54 #[pt nb 0,.agg (cmC c),.agg #[iv b,iv a]] w (NP i nb ob g w (.tuple #[]) p ls (ts++[⟨i,c.c,c.s,b,a⟩])):=by
 obtain⟨x,lt,t,o,d,A⟩:=h;have q:t.n=ts.length:=by have y:=d.ew.len;rw[GN]at y;omega
 refine gI (fn:=f54) (TN i) g func54 A (qN o (qO d (qR [] 28 [0,0,0,0,25,0,2,4,6,0,8,10,12,14,0,16,18,20,1,22,24,26,28,0,30,32,2,34,36,2,38,3,40,43,0,0] λr D I c1=>KL 22 (x:=t) 28 28 103 5 40 (.agg #[iv 0,iv 0,iv 0,iv 0,iv 0]) ⟨(r 2),0,none⟩ 1 1 [iv (i:Int),iv c.c,iv c.s,iv b,iv a] (d.ew.ch c1) (by kernel_rfl) (by kernel_rfl) (by kernel_rfl) underlying28 (by kernel_rfl) (by kernel_rfl) (by decide) (by decide) rfl (by simp[Value.oneCell']) (λK=>Cz K 4 (r 2) [iv (i:Int),iv c.c,iv c.s,iv b,iv a] 103 .z true (by kernel_rfl)) (by rw[q];unfold maxLen;omega) (by rw[q];omega) ?_)));intro B E J v H j C;have l:=j w.heap.size [.n 52 0] (G'.2 rfl);refine qR [.n 50 0] 4 [46,48,51,1,1] λs3 F L e=>qE (.tuple #[]) λK=>?_;have k:=((c1.nil ([.n 52 0,.n 50 0]:List Tg)).m l).m e;have u:Tg.z∉([.n 52 0,.n 50 0]:List Tg):=by simp
 exact⟨_,rfl,⟨x,lt,B,K.tM 0 o k,K.od 1 (DZ d.bt k u (by simp)) (by rw[List.flatMap_append];exact v.ch e),K.new⟩,(((c1.nil (TN i)).trans (l.mono (by simp[TN]))).trans (e.mono (by simp[TN])))⟩
theorem KY(h:NS i nb ob g w p ls ts)(b:Nat)(l:Let)(m:CP g w b l) :
  Calls prog 46 #[pt nb 0,pt b 0] w (NP i nb ob g w (.tuple #[]) { p with dT:=max p.dT l.gC.r } ls ts):=by
 obtain⟨x,lt,s,e,j,k⟩:=h;refine gI (fn:=f46) (TN i) g func46 k (qN e (qO j ?_));obtain⟨A,D,a,o,q⟩:=m;refine Cr ⟨b,_,.z,false⟩ (λ_=>⟨a.r,a.z,λh=>(by cases h),λh=>absurd rfl h⟩) (by kernel_rfl) ?_;refine qR [] 12 [15,0,2,4,6,8,10,0,12,14,16,18,20,2] λv t B c1=>qT 11 (iv (max p.dT l.gC.r)) (λ_=>(lD #[3,3] 3 p.dT l.gC.r)) (qR [.n 0 i] 5 [24,26,28,31,0,1] λy u C d=>qE (.tuple #[]) λK=>?_);have c:=(c1.nil ([.n 0 i]:List Tg)).trans (d);exact⟨_,rfl,⟨x,lt,s,K.tM 0 e c,j.ch c (hn:=by simp<;>omega),K.new⟩,((c1.nil (TN i)).trans (d.mono (by simp[TN])))⟩
theorem FT(h:NS i nb ob g w p ls ts)(o:ls.length<100000000)(l:Let)(b c:S3)(s:FSv g w b l.mv)(t:Rc g w c l.fv)(to:Nat) :
  Calls prog 84 #[pt nb 0,iv (to:Int),.agg (FF l b c)] w (NP i nb ob g w (.tuple #[]) p (ls++[{ l with src:=i,dst:=to }]) ts):=by
 obtain⟨x,lt,u,f,n,q⟩:=h;refine(bk f n q o l b c s t to).mono ?_;rintro e y ⟨j,a,rfl,k,d,m⟩;exact⟨j,rfl,⟨x,a,u,f.ch d (by simp[TO]) (λr v=>by simp[TO];omega),k,m⟩,d.mono (by simp[TO,TN])⟩
def BZ(i:Nat)(l:Let)(k:Nat):List Let:=((List.range k).filter λj=>decide (j≠i)).map λto=>{ l with src:=i,dst:=to }
theorem bz(h:k≠i):BZ i l (k+1)=BZ i l k++[{ l with src:=i,dst:=k }]:=by unfold BZ;rw[o0,oV,nE];simp[h]
theorem bq(h:k=i):BZ i l (k+1)=BZ i l k:=by unfold BZ;rw[o0,oV,nE];simp[h]
theorem bv(i:Nat)(l:Let)(k:Nat):(BZ i l k).length<=k:=by unfold BZ;rw[nw];exact mV (pP _ _) (by simp)
theorem E2(h:NS i nb ob g w p ls ts)(hb:ls.length<90000000)(l:Let)(D E:S3)(hv:FSv g w D l.mv)(hw:Rc g w E l.fv) :
  Calls prog 60 #[pt nb 0,.agg (FF l D E)] w (NP i nb ob g w (.tuple #[]) p (ls++BZ i l 5) ts):=by
 obtain⟨x,lt,tl,U,V,hg⟩:=h;refine gI (fn:=f60) (TN i) g func60 hg (qN U (qO V (qR [] 9 [0,0] λG g1 w1 c1=>Ce 19 [(0,pt nb 0),(3,pt (G 0) 0),(5,iv 0)] [false,false,true] [⟨(G 0),.cells #[iv (l.kind:Int),iv (l.src:Int),iv (l.dst:Int),iv l.gC.r,iv l.gC.n,iv l.cn.bu,iv l.cn.b.r,iv l.cn.b.n,iv l.cn.w.k,iv l.cn.w.c,iv l.cn.w.s,iv l.cn.w.n,iv l.cn.w.v,S3.v D,iv (l.bu:Int),S3.v E] 142,.z,false⟩] (λk S W e L=>∃ j:Nat,k=5-j/\j<=5/\e=[(0,pt nb 0),(3,pt (G 0) 0),(5,iv (j:Int))]/\L=[⟨(G 0),.cells #[iv (l.kind:Int),iv (l.src:Int),iv (l.dst:Int),iv l.gC.r,iv l.gC.n,iv l.cn.bu,iv l.cn.b.r,iv l.cn.b.n,iv l.cn.w.k,iv l.cn.w.c,iv l.cn.w.s,iv l.cn.w.n,iv l.cn.w.v,S3.v D,iv (l.bu:Int),S3.v E] 142,.z,false⟩]/\NS i nb ob S W p (ls++BZ i l j) ts/\Cg w.heap.size (TN i) g w S W) (by kernel_rfl) (by kernel_rfl) (by kernel_rfl) (by kernel_rfl) 5 (λK=>?_) ?_)))
 .have C2:=c1;refine⟨0,rfl,by omega,rfl,rfl,?_,c1.nil _⟩;rw[show BZ i l 0=[]from rfl,nA];exact(nsC U V C2 K)
 .rintro k gr wr _ zr _ ⟨j,rfl,hj,rfl,rfl,hM,hC⟩ J hJ;have hs:=bv i l j;obtain⟨xr,a3,a8,a,d,a1⟩:=hM;refine qN a (qO d (qR [] 5 [] λs3 g3 w3 m=>?_));by_cases h1:j<5
  .refine qI (decide ((j:Int)<5)) true (M' (by omega)) (qR [] 17 [1] λs4 g4 w4 y=>?_);by_cases T:(j:Int)≠(i:Int)
   .refine qI (((j:Int) != (i:Int))) true (by simpa using T) (qR [] 4 [0] λs5 g5 w5 M=>?_);have P:=(((hC.n m).n y).n M);refine Af λK=>?_;have X:NS i nb ob g5 w5 p (ls++BZ i l j) ts:=(nsC a d ((m.n y).n M) K);refine qG 3 (TN i) [true,false,false] (FT X (by simp;omega) l D E (hv.ch P (BB i)) (hw.ch P (BB i)) j) ?_;rintro e' w6 ⟨g6,rfl,I,F⟩;refine⟨_,g6,rfl,F,I.new,?_⟩;replace F:=F.ret (B:=w.heap.size);rw[mU,<- bz (by omega)]at I
    obtain⟨x6,a2,a7,A,C,a0⟩:=I;refine qN A (qO C (qR [] 3 [] λs8 g8 w8 Q=>qV 0 (iv ((j:Int)+1)) (AU 5 (j:Int) underlying3 (by omega)) (qR [] 2 [] λs9 g9 w9 R=>qB [true,false,false] λz H K=>hJ (5-(j+1)) _ _ _ z _ (by omega) ⟨j+1,rfl,by omega,rfl,rfl,?_,((((((hC.n m).n y).n M).trans F).n Q).n R)⟩ K)));have o:NS i nb ob g9 w9 p (ls++BZ i l (j+1)) ts:=(nsC A C (Q.n R) H);exact o
   .refine qI (((j:Int) != (i:Int))) false (by simpa using T) (qR [] 3 [] λa4 Y a9 q=>qV 0 (iv ((j:Int)+1)) (AU 5 (j:Int) underlying3 (by omega)) (qR [] 2 [] λa5 N O t=>qB [true,false,false] λz H K=>hJ (5-(j+1)) _ _ _ z _ (by omega) ⟨j+1,rfl,by omega,rfl,rfl,?_,((((hC.n m).n y).n q).n t)⟩ K));have o:NS i nb ob N O p (ls++BZ i l j) ts:=(nsC a d (((m.n y).n q).n t) H);exact(by simpa[bq (show j=i by omega)]using o)
  .refine qI (decide ((j:Int)<5)) false (D' (by omega)) (qR [] 1 [] λa6 Z b0 u=>?_);obtain rfl:j=5:=by omega
   exact qF a d (m.n u) ((hC.n m).n u)
theorem O3(h:NS i nb ob g w p ls ts) :
  Calls prog 86 #[pt nb 0] w λe w'=>e=.returned (.bool p.leads)/\Bw w w':=by
 obtain⟨x,lt,v,j,k,l⟩:=h;refine gI (fn:=f86) (TN i) g func86 l (qN j (qO k (qR [] 13 [24,0,2,4,6,8,10,0,12] λr m z c1=>?_)));by_cases a:p.bn.gC=Bb
 .refine qT 7 (.bool false) (λ_=>(Ja (x:=(.tmp 8)) (y:=(.tmp 9)) p.bn.gC Bb a)) (qR [] 17 [16,18,20,22,24,26,28,30,32,34,36,38,40,42,44,46] λs n A b=>qE (.bool false) λK=>⟨(by rw[show p.leads=false from D' (λh=>h.1 a)]),Cg.af (c1.trans b) (λ_ _=>P')⟩)
 .refine qT 7 (.bool true) (λ_=>(Jd (x:=(.tmp 8)) (y:=(.tmp 9)) p.bn.gC Bb a)) (qR [] 13 [16,18,20,22,24,26,28,0,30,32,34,36,38,40,0] λt o B c=>qT 21 (.bool (decide (p.bn.gC=p.vo.p))) (λ_=>(mA (x:=(.tmp 17)) (y:=(.tmp 23)) p.bn.gC p.vo.p)) (qR [] 3 [44,46] λu q C d=>qE (.bool (decide (p.bn.gC=p.vo.p))) λK=>⟨(by rw[show p.leads=decide (p.bn.gC=p.vo.p)from og.2 ⟨λh=>h.2,λh=>⟨a,h⟩⟩]),Cg.af ((c1.trans c).trans d) (λ_ _=>P')⟩))
theorem MD(h:NS i nb ob g w p ls ts)(u:p.bw.length<100000000)(to:Nat)(e:Int) :
  Calls prog 82 #[pt nb 0,iv (to:Int),iv e] w (NP i nb ob g w (.tuple #[]) (p.eo to e) ls ts):=by
 obtain⟨x,lt,M,c,j,v⟩:=h;refine gI (fn:=f82) (TN i) g func82 v (qN c (qO j (qR [] 11 [0,0,0,0] λb H N c1=>?_)));by_cases a:e=7
 .refine qI (e != 7) false (by simpa using a) (qR [] 15 [2,0,0,0,4,0,2] λo t A l=>Af λK=>?_);obtain⟨B,C⟩:=K.sB 2 (b 0) (.cells #[pt nb 0] 70) false (by kernel_rfl);obtain⟨D,E⟩:=K.sB 3 (b 1) (.cells #[iv (to:Int)] 3) false (by kernel_rfl);obtain⟨F,G⟩:=K.sB 4 (o 0) (.cells #[iv p.vo.p.r,iv p.vo.p.n] 75) true (by kernel_rfl);have q:NS i nb ob t A p ls ts:=(nsC c j (c1.n l) K);refine qS0 2 [false,false,true,true,true] (AQ q u _ _ (.eo to p.vo.p) ⟨(b 0),(b 1),(o 0),rfl,⟨B,C⟩,⟨D,E⟩,⟨F,G⟩⟩) λI O Q y z d k s=>qR [] 1 [] λL J P m=>qE (.tuple #[]) λK=>?_;rw[show p.eo to e=p.wait (.eo to p.vo.p)from if_pos a];exact⟨_,rfl,(nsC d k m K),((((c1.nil (TN i)).n l).trans (s)).n m)⟩
 .refine qI (e != 7) true (by simpa using a) (qE (.tuple #[]) λK=>?_);rw[show p.eo to e=p from if_neg a];exact⟨_,rfl,(nsC c j c1 K),(c1.nil (TN i))⟩
def gh0:Gh:=⟨λ_=>.z,λ_=>0⟩
def QO(l:List Cmd)(c:Cmd):Int:=if c∈l then(l.idxOf c:Int)else -1
theorem QP:∀ {l:List Cmd} {j:Nat},l[j]?=some c->l.idxOf c<=j
 | [],j,h=>by cases h
 | d::l,0,h=>by simp only[oC,Y']at h;subst h;simp
 | d::l,j+1,h=>by
  have:=QP (l:=l) (j:=j) (by simpa using h);rw[List.idxOf_cons];cases d==c<;>simp<;>omega
theorem eg(l:List Cmd)(c:Cmd):decide (0<=QO l c)=decide (c∈l):=by
 unfold QO;by_cases a:c∈l
 .rw[if_pos a,M' a];exact M' (by omega)
 .rw[if_neg a,D' a];rfl
theorem Zi{l:List Cmd}(h:l[j]?=some c)(e:∀ i,i<j->l[i]?≠some c):QO l c=(j:Int):=by
 have b:c∈l:=nH h;have f:j<l.length:=(V'.1 h).1;unfold QO;rw[if_pos b]
 congr 1
 have a:l.idxOf c<l.length:=List.idxOf_lt_length_iff.2 b;have d:l[l.idxOf c]?=some c:=by rw[E' a,List.getElem_idxOf a]
 rcases qp (l.idxOf c) j with h3|h3|h3
 .exact absurd d (e _ h3)
 .exact h3
 .have:=QP h;omega
theorem Oz{l:List Cmd}(h:RdC w x l)(Y:l.length<100000000)(c:Cmd) :
  Calls prog 97 #[x.v,.agg #[iv c.k,iv c.c,iv c.s,iv c.n,iv c.v]] w λe w'=>e=.returned (iv (QO l c))/\Bw w w':=by
 have Z:=h.len;refine gI (fn:=f97) [] gh0 func97 (λ_ _=>⟨rfl,rfl⟩) (qR [] 13 [0,0] λo R w1 c1=>Ce 19 [(0,S3.v x),(3,pt (o 0) 0),(7,iv (x.n:Int)),(8,iv 0)] [true] [⟨(o 0),.cells #[iv c.k,iv c.c,iv c.s,iv c.n,iv c.v] 49,.z,false⟩] (λk F w' e L=>∃ j:Nat,k=l.length-j/\j<=l.length/\e=[(0,S3.v x),(3,pt (o 0) 0),(7,iv (x.n:Int)),(8,iv (j:Int))]/\L=[⟨(o 0),.cells #[iv c.k,iv c.c,iv c.s,iv c.n,iv c.v] 49,.z,false⟩]/\(∀ i,i<j->l[i]?≠some c)/\Cg w.heap.size [] gh0 w F w') (by kernel_rfl) (by kernel_rfl) (by kernel_rfl) (by kernel_rfl) l.length (λK=>?_) ?_)
 .exact⟨0,rfl,by omega,rfl,rfl,λi d=>absurd d (by omega),c1⟩
 .rintro k gr wr _ zr _ ⟨j,rfl,hj,rfl,rfl,hI,hC⟩ J hJ;refine qR [] 5 [] λs2 S w2 g=>?_;by_cases B:j<l.length
  .refine qI ((decide ((j:Int)<(x.n:Int)))) true (M' (by omega)) ?_;obtain⟨a,b⟩:∃ a,l[j]?=some a:=⟨_,E' B⟩;rcases h.ex with h2|⟨bx,ox,hxa,hbx,hcell⟩
   .exact absurd B (by rw[h2];simp)
   refine qR [] 13 [6,0,0,2,4] λs3 T w3 r=>qT 3 (pt bx (ox+5*j)) (λ_=>(MA hxa j (by omega))) ?_;have I:=Cg.af (hC.trans (g.trans r)) (λ_ _=>P');refine qV 4 (.agg #[iv a.k,iv a.c,iv a.s,iv a.n,iv a.v]) (PF a λi u N=>(I.cell (p:=⟨bx,ox+5*j+i,none⟩) hbx).trans (by rw[oe];exact hcell _ u (Pi b N))) (qT 5 (.bool (decide (c=a))) (λ_=>(mB (x:=(.tmp 11)) (y:=(.tmp 15)) c a)) (qR [] 1 [] λs6 U w6 A=>?_));by_cases m:c=a
   .refine qI (decide (c=a)) true (M' m) (qR [] 5 [] λs7 V w7 C=>qE (iv (j:Int)) λK=>⟨by rw[Zi (by rw[m];exact b) hI],Cg.af (hC.trans (((g.trans r).trans A).trans C)) (λ_ _=>P')⟩)
   .refine qI (decide (c=a)) false (D' m) (qR [] 3 [] λs8 W w8 D=>qV 0 (iv ((j:Int)+1)) (AU 8 (j:Int) underlying3 (by omega)) (qR [] 2 [] λs9 X w9 E=>qB [true] λz Q K=>hJ (l.length-(j+1)) _ _ _ z _ (by omega) ⟨j+1,rfl,by omega,rfl,rfl,λi d=>?_,hC.trans ((((g.trans r).trans A).trans D).trans E)⟩ K));rcases nW i j with h4|h4
    .exact hI i h4
    .rw[show i=j by omega,b];intro H;exact m (by simpa using H.symm)
  .refine qI ((decide ((j:Int)<(x.n:Int)))) false (D' (by omega)) (qR [] 5 [] λO G P q=>?_);have t:c∉l:=λM=>by obtain⟨i,d⟩:=oA.1 M;exact hI i (by have:=(V'.1 d).1;omega) d
   exact qE (iv (-1)) λK=>⟨by unfold QO;rw[if_neg t],Cg.af (hC.trans (g.trans q)) (λ_ _=>P')⟩
theorem F8{l:List Cmd}(h:RdC w x l)(m:l.length<100000000)(c:Cmd) :
  Calls prog 52 #[x.v,.agg #[iv c.k,iv c.c,iv c.s,iv c.n,iv c.v]] w λe w'=>e=.returned (.bool (decide (c∈l)))/\Bw w w':=by
 refine gI (fn:=f52) [] gh0 func52 (λ_ _=>⟨rfl,rfl⟩) (qR [] 9 [0,0,0] λq j r c1=>?_);have a:=Cg.af c1 (λ_ _=>P');refine qC 2 (Oz (h.af a) m c) ?_;rintro o t ⟨rfl,b⟩;refine⟨_,rfl,b,?_⟩;have d:=Cg.ed (B:=w.heap.size) (T:=[]) (g:=j) b;refine qR [] 3 [] λs3 p u i=>qE (.bool (decide (0<=QO l c))) λK=>⟨by rw[eg],Cg.af ((c1.trans d).trans i) (λ_ _=>P')⟩
theorem UY(h:NS i nb ob g w p ls ts)(k:p.done<=p.ae.length) :
  Calls prog 35 #[pt nb 0] w λe w'=>∃ y:S3,e=.returned y.v/\RdC w' y (p.ae.take p.done)/\Bw w w':=by
 obtain⟨x,lt,s,a,j,l⟩:=h;have o:=a.ae.num;have c:=a.ae.rd;refine gI (fn:=f35) (TN i) g func35 l (qN a (qO j (qR [] 16 [12,0,2,4,6,8,0,10,12,14,16,18,0] λq m t c1=>qT 10 (S3.v (x.ae.cut 0 p.done)) (λ_=>(lN x.ae p.done (by have:=c.cap;omega))) (qR [] 2 [22] λr n u d=>?_))));have b:=Cg.af (c1.trans d) (λ_ _=>P');exact qE (S3.v (x.ae.cut 0 p.done)) λK=>⟨_,rfl,(c.af b).take k,b⟩
theorem Jo(h:NS i nb ob g w p ls ts)(q:ls.length<100000000)(to bu:Nat)(s:bu<=p.ae.length) :
  Calls prog 94 #[pt nb 0,iv (to:Int),iv (bu:Int)] w (NP i nb ob g w (.tuple #[]) p (ls++[{ BJ 5 with src:=i,dst:=to,bu:=bu,fv:=p.ae.drop bu }]) ts):=by
 obtain⟨x,lt,G,a,k,r⟩:=h;have C:=a.ae.num;refine gI (fn:=f94) (TN i) g func94 r (qN a (qO k (qR [] 10 [0] λD z H c1=>qV 9 (S3.v (x.ae.cut bu x.ae.n)) (j2 x.ae bu (by omega)) (qR [] 1 [] λE o y e=>Af λK=>?_))));have d:=c1.n e;have l:NS i nb ob o y p ls ts:=(nsC a k d K);refine qS0 11 [false,false] (FT l q { BJ 5 with bu:=bu,fv:=p.ae.drop bu } s30 (x.ae.cut bu x.ae.n) ⟨Sv.nil _,λh=>absurd rfl h⟩ ((a.ae.rc.drop s).ch d) to) λA I L t u b c m=>qR [] 1 [] λF B J j=>qF b c j ((((c1.nil (TN i)).n e).trans (m)).n j)
theorem O4(h:NS i nb ob g w p ls ts)(a:Nat)(b:List Cmd)(e:S3)(r:Rc g w e b)(Z:a<=p.ae.length)(W:p.ae.length<100000000)(I:b.length<100000000) :
  Calls prog 85 #[pt nb 0,iv (a:Int),e.v] w (NP i nb ob g w (.tuple #[]) (p.ln a b) ls ts):=by
 obtain⟨x,lt,M,d,A,J⟩:=h;have L:=d.ae.num;have Y:=r.len;have B:=r.cap;refine gI (fn:=f85) (TN i) g func85 J (qN d (qO A (qR [] 9 [0] λs1 P w1 c1=>qV 7 (iv ((x.ae.n-a:Nat):Int)) (lP (x:=(.tmp 12)) (y:=(.tmp 13)) x.ae.n a underlying3 (by omega) (by omega)) (qR [] 9 [] λs2 Q w2 o=>?_))));by_cases V:x.ae.n-a<e.n
 .refine qI ((decide (((x.ae.n-a:Nat):Int)<(e.n:Int)))) true (M' (by omega)) ?_;obtain⟨k,X⟩:∃ k,k=x.ae.n-a:=⟨_,rfl⟩;have C:k<b.length:=by omega
  obtain⟨E,ow,q⟩:=r.addr C;refine qR [] 9 [13,0,2,4,6,8,10,0,12,14] λs3 R w3 s=>qT 8 (.slice (some ⟨E,ow+5*(x.ae.n-a),none⟩) (e.n-(x.ae.n-a)) (e.c-(x.ae.n-a))) (λ_=>(lK q (x.ae.n-a) (by omega) B)) ?_;have D:=(c1.n o).n s;refine KL 9 (x:=x.ae) 38 38 49 5 40 (.agg #[iv 0,iv 0,iv 0,iv 0,iv 0]) ⟨E,ow+5*(x.ae.n-a),none⟩ (e.n-(x.ae.n-a)) (e.c-(x.ae.n-a)) (cmL (b.drop (x.ae.n-a))) (d.ae.ch D) (by kernel_rfl) (by kernel_rfl) (by kernel_rfl) underlying38 (by kernel_rfl) (by kernel_rfl) (by decide) (by omega) (by rw[BO,nc];omega) (Pj _) (λK=>kW q (r.ch D) _ (by omega)) (by unfold maxLen;omega) (by omega) ?_;intro N S w6 H n6 u O;have F:=u w.heap.size [.n 3 i] (G'.2 rfl);refine qR [.n 0 i] 5 [20,22,24,27,0,1] λs7 T w7 t=>qE (.tuple #[]) λK=>?_;have j:=((((c1.nil ([.n 3 i,.n 0 i]:List Tg)).n o).n s).m F).m t;have l:Tg.z∉([.n 3 i,.n 0 i]:List Tg):=by simp
  exact⟨_,rfl,⟨{ x with ae:=N },lt,M,K.nd 0 (d.tape.ch j l) (d.mv.ch j l) (BG d.an j l) (Ci d.bw j l (by simp)) (d.fa.ch j) (by rw[show(p.ln a b).ae=p.ae++b.drop (x.ae.n-a)from by unfold Nod.ln;rw[L],Cw];exact H.ch t) (d.br.ch j) (d.cl.ch j) d.sJ,A.ch j l (by simp<;>omega),K.new⟩,(((((c1.nil (TN i)).n o).n s).trans (F.mono (by simp[TN]))).trans (t.mono (by simp[TN])))⟩
 .refine qI ((decide (((x.ae.n-a:Nat):Int)<(e.n:Int)))) false (D' (by omega)) (qR [] 1 [] λs9 U w9 G=>qE (.tuple #[]) λK=>?_);rw[show p.ln a b=p from by unfold Nod.ln;rw[nN (by omega),nA]];exact⟨_,rfl,(nsC d A ((c1.n o).n G) K),(((c1.nil (TN i)).n o).n G)⟩
theorem RB(h:NS i nb ob g w p ls ts)(m:ls.length<90000000){b2 b3:Nat}(d:Box g w b1 #[pt nb 0] 70) :
  Calls prog 71 #[pt b1 0] w (NP i nb ob g w (.tuple #[]) p (ls++BZ i (BJ 6) 5) ts):=by
 obtain⟨x,lt,B,e,j,o⟩:=h;refine gI (fn:=f71) (TN i) g func71 o (qN e (qO j (Cr ⟨b1,.cells #[pt nb 0] 70,.z,false⟩ (λ_=>⟨d.r,d.z,λh=>(by cases h),λh=>absurd rfl h⟩) (by kernel_rfl) ?_)));refine qR [] 3 [2] λy t C c1=>qS 2 [false,false,true] e j c1 (λk=>E2 k m (BJ 6) s30 s30 ⟨Sv.nil _,λh=>absurd rfl h⟩ (Rc.nil _ _)) λu D F q s a b l=>qR [] 1 [] λA v E c=>qF a b c (((c1.nil (TN i)).trans (l)).n c)
theorem PI{to:Nat}{b:Bal}(h:NS i nb ob g w p ls ts)(B:ls.length<90000000)(e:Box g w b1 #[pt nb 0] 70)(j:Box g w b2 #[iv (to:Int)] 3)(k:Box g w b3 #[iv b.r,iv b.n] 75)  :
  Calls prog 122 #[pt b1 0,pt b2 0,pt b3 0] w (NP i nb ob g w (.tuple #[]) p (ls++[{ BJ 2 with gC:=b,src:=i,dst:=to }]) ts):=by
 obtain⟨x,lt,E,l,m,s⟩:=h;refine gI (fn:=f122) (TN i) g func122 s (qN l (qO m (Cr ⟨b1,.cells #[pt nb 0] 70,.z,false⟩ (λ_=>⟨e.r,e.z,λh=>(by cases h),λh=>absurd rfl h⟩) (by kernel_rfl) ?_)));refine Cr ⟨b2,.cells #[iv (to:Int)] 3,.z,false⟩ (λ_=>⟨j.r,j.z,λh=>(by cases h),λh=>absurd rfl h⟩) (by kernel_rfl) ?_;refine Cr ⟨b3,.cells #[iv b.r,iv b.n] 75,.z,false⟩ (λ_=>⟨k.r,k.z,λh=>(by cases h),λh=>absurd rfl h⟩) (by kernel_rfl) ?_;refine qR [] 5 [2,3,4] λC v F c1=>qS 4 [false,false,true,true,true] l m c1 (λo=>FT o (by omega) { BJ 2 with gC:=b } s30 s30 ⟨Sv.nil _,λh=>absurd rfl h⟩ (Rc.nil _ _) to) λy G I t u a c q=>qR [] 1 [] λD A H d=>qF a c d (((c1.nil (TN i)).trans (q)).n d)
theorem I5(h:NS i nb ob g w p ls ts)(G:ls.length<90000000){b3:Nat}(e:Box g w b1 #[pt nb 0] 70)(j:Box g w b2 #[pt lb 0] 143)(t:CP g w lb l) :
  Calls prog 89 #[pt b1 0,pt b2 0] w (NP i nb ob g w (.tuple #[]) p (ls++[{ BJ 4 with cn:=l.cn,src:=i,dst:=l.src }]) ts):=by
 obtain⟨x,lt,J,k,m,s⟩:=h;refine gI (fn:=f89) (TN i) g func89 s (qN k (qO m (Cr ⟨b1,.cells #[pt nb 0] 70,.z,false⟩ (λ_=>⟨e.r,e.z,λh=>(by cases h),λh=>absurd rfl h⟩) (by kernel_rfl) ?_)));refine Cr ⟨b2,.cells #[pt lb 0] 143,.z,false⟩ (λ_=>⟨j.r,j.z,λh=>(by cases h),λh=>absurd rfl h⟩) (by kernel_rfl) ?_;obtain⟨B,C,a,u,v⟩:=t;refine Cr ⟨lb,.cells (FF l B C) 142,.z,false⟩ (λ_=>⟨a.r,a.z,λh=>(by cases h),λh=>absurd rfl h⟩) (by kernel_rfl) ?_;refine qR [] 11 [10,0,2,2,3,4,6,8,4,10,3,12,14,16,4,18] λH D K c1=>qS 10 [false,false,true,true,true] k m c1 (λo=>FT o (by omega) { BJ 4 with cn:=l.cn } s30 s30 ⟨Sv.nil _,λh=>absurd rfl h⟩ (Rc.nil _ _) l.src) λE L N y A b c q=>qR [] 1 [] λI F M d=>qF b c d (((c1.nil (TN i)).trans (q)).n d)
theorem MV(h:NS i nb ob g w p ls ts)(H:ls.length<90000000){b3:Nat}(j:Box g w b1 #[pt nb 0] 70)(k:Box g w b2 #[pt lb 0] 143)(t:CP g w lb l) :
  Calls prog 91 #[pt b1 0,pt b2 0] w (NP i nb ob g w (.tuple #[]) p (ls++[{ BJ 6 with bu:=p.ae.length,src:=i,dst:=l.src }]) ts):=by
 obtain⟨x,lt,K,b,m,s⟩:=h;refine gI (fn:=f91) (TN i) g func91 s (qN b (qO m (Cr ⟨b1,.cells #[pt nb 0] 70,.z,false⟩ (λ_=>⟨j.r,j.z,λh=>(by cases h),λh=>absurd rfl h⟩) (by kernel_rfl) ?_)));refine Cr ⟨b2,.cells #[pt lb 0] 143,.z,false⟩ (λ_=>⟨k.r,k.z,λh=>(by cases h),λh=>absurd rfl h⟩) (by kernel_rfl) ?_;obtain⟨C,D,a,u,v⟩:=t;refine Cr ⟨lb,.cells (FF l C D) 142,.z,false⟩ (λ_=>⟨a.r,a.z,λh=>(by cases h),λh=>absurd rfl h⟩) (by kernel_rfl) ?_;have y:=b.ae.num;refine qR [] 13 [12,0,2,2,3,4,6,8,4,10,2,12,14,16,18,0,20,22] λI E L c1=>qS 12 [false,false,true,true,true] b m c1 (λo=>(show{ BJ 6 with bu:=x.ae.n,src:=i,dst:=l.src }=({ BJ 6 with bu:=p.ae.length,src:=i,dst:=l.src }:Let)from by rw[y])▸FT o (by omega) { BJ 6 with bu:=x.ae.n } s30 s30 ⟨Sv.nil _,λh=>absurd rfl h⟩ (Rc.nil _ _) l.src) λF M O A B c d q=>qR [] 1 [] λJ G N e=>qF c d e (((c1.nil (TN i)).trans (q)).n e)
theorem JW(h:NS i nb ob g w p ls ts)(H:ls.length<90000000){b3:Nat}(e:Box g w b1 #[pt nb 0] 70)(j:Box g w b2 #[pt lb 0] 143)(t:CP g w lb l)(y:l.bu<=p.ae.length) :
  Calls prog 93 #[pt b1 0,pt b2 0] w (NP i nb ob g w (.tuple #[]) p (ls++[{ BJ 5 with src:=i,dst:=l.src,bu:=l.bu,fv:=p.ae.drop l.bu }]) ts):=by
 obtain⟨x,lt,K,k,m,s⟩:=h;refine gI (fn:=f93) (TN i) g func93 s (qN k (qO m (Cr ⟨b1,.cells #[pt nb 0] 70,.z,false⟩ (λ_=>⟨e.r,e.z,λh=>(by cases h),λh=>absurd rfl h⟩) (by kernel_rfl) ?_)));refine Cr ⟨b2,.cells #[pt lb 0] 143,.z,false⟩ (λ_=>⟨j.r,j.z,λh=>(by cases h),λh=>absurd rfl h⟩) (by kernel_rfl) ?_;obtain⟨C,D,a,u,v⟩:=t;refine Cr ⟨lb,.cells (FF l C D) 142,.z,false⟩ (λ_=>⟨a.r,a.z,λh=>(by cases h),λh=>absurd rfl h⟩) (by kernel_rfl) ?_;refine qR [] 10 [9,0,2,2,3,4,6,8,4,10,3,12,14,16,4] λI E L c1=>qS 9 [false,false,true,true,true] k m c1 (λo=>Jo o (by omega) l.src l.bu y) λF M O A B b c q=>qR [] 1 [] λJ G N d=>qF b c d (((c1.nil (TN i)).trans (q)).n d)
theorem Hu{c:S3}{a:List Vt}(h:NS i nb ob g w p ls ts)(O:ls.length<90000000)(o:Box g w b1 #[pt nb 0] 70)(q:Box g w b2 #[pt lb 0] 143)(s:Box g w b3 #[S3.v c] 76)(C:CP g w lb l)(F:FSv g w c a) :
  Calls prog 83 #[pt b1 0,pt b2 0,pt b3 0] w (NP i nb ob g w (.tuple #[]) p (ls++[{ BJ 1 with gC:=l.gC,mv:=a,fv:=p.ae,src:=i,dst:=l.src }]) ts):=by
 obtain⟨x,lt,R,e,t,B⟩:=h;refine gI (fn:=f83) (TN i) g func83 B (qN e (qO t (Cr ⟨b1,.cells #[pt nb 0] 70,.z,false⟩ (λ_=>⟨o.r,o.z,λh=>(by cases h),λh=>absurd rfl h⟩) (by kernel_rfl) ?_)));refine Cr ⟨b2,.cells #[pt lb 0] 143,.z,false⟩ (λ_=>⟨q.r,q.z,λh=>(by cases h),λh=>absurd rfl h⟩) (by kernel_rfl) ?_;refine Cr ⟨b3,.cells #[S3.v c] 76,.z,false⟩ (λ_=>⟨s.r,s.z,λh=>(by cases h),λh=>absurd rfl h⟩) (by kernel_rfl) ?_;obtain⟨I,L,b,D,E⟩:=C;refine Cr ⟨lb,.cells (FF l I L) 142,.z,false⟩ (λ_=>⟨b.r,b.z,λh=>(by cases h),λh=>absurd rfl h⟩) (by kernel_rfl) ?_;refine qR [] 17 [16,0,2,2,3,4,6,8,5,10,3,12,14,16,5,18,4,20,2,22,24,26,28,0,30] λP A J c1=>Af λK=>?_;have d:=c1;have u:NS i nb ob A J p ls ts:=(nsC e t d K);refine qS0 16 [false,false,true,true,true,true] (FT u (by omega) { BJ 1 with gC:=l.gC,mv:=a,fv:=p.ae } c x.ae (F.ch d) (e.ae.rc.ch d) l.src) λM S U G H j k y=>qR [] 1 [] λQ N T m=>qF j k m (((c1.nil (TN i)).trans (y)).n m)
theorem Mb{a:Acc}{l:List Vt}:Dg a (v::l)=Dg (if AX a v=0 then⟨BN a v,Bu a v⟩else a) l:=rfl
theorem UK{l:List Vt}(h:l[j]?=some v):l.drop j=v::l.drop (j+1):=by
 obtain⟨a,b⟩:=V'.1 h;rw[<- b];exact nO a
theorem QN(h:NS i nb ob g w p ls ts){w0:World}(hB:Base w0 g w)(hT:Tabs w0)(j:Nat)(hj:j<5)(vs:List Vt)(y:S3)(hy:FSv g w y vs)(hb:(p.bn.an j).vs.length<100000000) :
  Calls prog 59 #[pt nb 11,iv (j:Int),y.v] w (NP i nb ob g w (.tuple #[]) { p with bn:=p.bn.sf j vs } ls ts):=by
 obtain⟨x,lt,G,m,hO,hg⟩:=h;refine gI (fn:=f59) (TN i) g func59 hg (qN m (qO hO (qR [] 18 [0,1,0,2,0] λD g1 w1 c1=>Ct 50 (λF H e L=>e=[(0,pt nb 11),(1,iv (j:Int)),(6,pt (D 0) 0),(23,S3.v (x.hv j)),(24,iv ((x.hv j).n:Int)),(25,iv 0)]/\L=[⟨nb,.cells (AG i ob p x) 97,.n 0 i,false⟩,⟨ob,.cells #[S3.v lt,S3.v G] 67,.n 50 0,false⟩,⟨(D 0),.cells #[iv p.bn.gC.r,iv p.bn.gC.n,S3.v y] 78,.l,false⟩]/\True/\Cg w.heap.size ([]:List Tg) g1 w1 F H) (by kernel_rfl) ?_ ?_)))
 .intro J hJ;rcases rU hj with rfl|rfl|rfl|rfl|rfl <;>
  (refine qR [] 6 [0] λs3 g3 w3 c3=>?_;exact qB [true,true,true] λz K0 K=>hJ _ _ _ z _ ⟨rfl,rfl,trivial,(c3.nil ([]:List Tg))⟩ K)
 rintro g2 w2 _ z2 _ ⟨rfl,rfl,_,c2⟩;have hH:=m.an j hj;have hn:(x.hv j).n=(p.bn.an j).vs.length:=by obtain⟨a,b6,hh⟩:=hH.s.shape;simp only[Value.slice.injEq]at hh;exact hh.2.1
 obtain⟨l,hl⟩:∃ l,l=(p.bn.an j).vs:=⟨_,rfl⟩;rw[<- hl]at hH hn hb
 refine qR [] 1 [] λs4 g4 w4 c4=>Ce 50 [(0,pt nb 11),(1,iv (j:Int)),(6,pt (D 0) 0),(23,S3.v (x.hv j)),(24,iv ((x.hv j).n:Int)),(25,iv 0)] [true,true,true] [⟨nb,.cells (AG i ob p x) 97,.n 0 i,false⟩,⟨ob,.cells #[S3.v lt,S3.v G] 67,.n 50 0,false⟩,⟨(D 0),.cells #[iv p.bn.gC.r,iv p.bn.gC.n,S3.v y] 78,.l,false⟩] (λk F H e L=>∃ (k0:Nat) (a:Acc) (ya:S3),k=l.length-k0/\k0<=l.length/\e=[(0,pt nb 11),(1,iv (j:Int)),(6,pt (D 0) 0),(23,S3.v (x.hv j)),(24,iv ((x.hv j).n:Int)),(25,iv (k0:Int))]/\L=[⟨nb,.cells (AG i ob p x) 97,.n 0 i,false⟩,⟨ob,.cells #[S3.v lt,S3.v G] 67,.n 50 0,false⟩,⟨(D 0),.cells #[iv a.p.r,iv a.p.n,S3.v ya] 78,.l,false⟩]/\Dg a (l.drop k0)=Dg ⟨p.bn.gC,vs⟩ l/\FSv F H ya a.vs/\Cg w.heap.size [] g w F H) (by kernel_rfl) (by kernel_rfl) (by kernel_rfl) (by kernel_rfl) l.length (λK=>?_) ?_
 .exact⟨0,⟨p.bn.gC,vs⟩,y,rfl,by omega,rfl,rfl,rfl,(((hy.ch c1).ch c2).ch c4),((c1.trans c2).trans c4)⟩
 .rintro k gr wr _ zr _ ⟨k0,a,ya,rfl,hk0,rfl,rfl,hI,hya,hC⟩ J hJ;refine qR [] 5 [] λs5 g5 w5 A=>?_;by_cases h1:k0<l.length
  .refine qI ((decide ((k0:Int)<((x.hv j).n:Int)))) true (M' (by omega)) ?_;obtain⟨v,hv⟩:∃ v,l[k0]?=some v:=⟨_,E' h1⟩;have W:=hH.ch hC;obtain⟨bx,ox,X,d2,a8⟩:=W.s.spot k0 v hv;refine qR [] 5 [] λs6 g6 w6 E=>qV 0 (pt bx (ox+8*k0)) (Vl X k0 (by omega)) ?_;have a9:=((W.ch A).ch E).s.spot k0 v hv;obtain⟨b5,d4,o,b3,u⟩:=a9;rw[X]at o
   simp only[Y',Addr.mk.injEq,and_true]at o;obtain⟨rfl,rfl⟩:=o;refine qV 1 (.agg #[iv v.bu,iv v.b.r,iv v.b.n,iv v.w.k,iv v.w.c,iv v.w.s,iv v.w.n,iv v.w.v]) (fs v u) (qR [] 7 [0,0,3,0,2,3] λs8 g8 w8 V=>Af λa0=>?_);have a7:=((((hya.ch A).ch E).ch V)).s;have a5:=hB.ch (hC.trans ((A.trans E).trans V)) (by simp);have a6:∀ z,w8.heap.size<=z->g8.t z=.z:=λz hz=>(a0.new z hz).1;refine qC 2 (Cv a.p _ a.vs v w8 a7 (a5.tn hT)) ?_;rintro e' e4 ⟨f3,rfl,Y,b4,M⟩;refine⟨_,rfl,M,?_⟩;have C:=Cg.ed (B:=w.heap.size) (T:=[]) (g:=g8) M;obtain⟨ys,rfl,d3,b0⟩:=Ea Y a6 (by omega);refine qR [] 12 [0,0,4,0] λd5 b7 e5 q=>?_;by_cases h2:AX a v=0
   .refine qI (((AX a v)==0)) true (by simpa using h2) (qR [] 6 [4,2,0] λd6 b8 e6 N=>qV 0 (iv ((k0:Int)+1)) (AU 25 (k0:Int) underlying3 (by omega)) (qR [] 2 [] λd7 b9 e7 O=>qB [true,true,true,false,false] λz K0 K=>hJ (l.length-(k0+1)) _ _ _ z _ (by omega) ⟨k0+1,⟨BN a v,Bu a v⟩,ys,rfl,by omega,rfl,rfl,?_,(((b0.ch q).ch N).ch O),hC.trans ((((((A.trans E).trans V).trans C).trans q).trans N).trans O)⟩ K));rw[<- hI,UK hv,Mb,if_pos h2]
   .refine qI (((AX a v)==0)) false (by simpa using h2) (qR [] 3 [] λd8 c0 e8 P=>qV 0 (iv ((k0:Int)+1)) (AU 25 (k0:Int) underlying3 (by omega)) (qR [] 2 [] λd9 c7 e9 Q=>qB [true,true,true,false,false] λz K0 K=>hJ (l.length-(k0+1)) _ _ _ z _ (by omega) ⟨k0+1,a,ya,rfl,by omega,rfl,rfl,?_,(((((((hya.ch A).ch E).ch V).ch C).ch q).ch P).ch Q),hC.trans ((((((A.trans E).trans V).trans C).trans q).trans P).trans Q)⟩ K));rw[<- hI,UK hv,Mb,if_neg h2]
  .refine qI ((decide ((k0:Int)<((x.hv j).n:Int)))) false (D' (by omega)) ?_;obtain rfl:k0=l.length:=by omega
   rw[oW]at hI
   refine qR [] 8 [8,0,2,4,6,10,12] λe0 a3 b1 R=>Ct 50 (λF H e L=>e=[(0,pt nb 11)]/\L=[⟨nb,.cells (AG i ob ({ p with bn:={ p.bn with rk:=upN p.bn.rk j true,an:=upN p.bn.an j a } }) ({ x with hv:=upN x.hv j ya })) 97,.n 0 i,false⟩,⟨ob,.cells #[S3.v lt,S3.v G] 67,.n 50 0,false⟩,⟨(D 0),.cells #[iv a.p.r,iv a.p.n,S3.v ya] 78,.l,false⟩]/\True/\Cg w.heap.size ([.n 0 i]:List Tg) a3 b1 F H) (by kernel_rfl) ?_ ?_
   .intro J hJ;rcases rU hj with rfl|rfl|rfl|rfl|rfl <;>
    (refine qR [] 3 [14,18,20] λe1 c9 f0 U=>?_;exact Dp 4 8 (by kernel_rfl) (by(refine qR [.n 0 i] 5 [2,17,0,1,22,25,0,1] λe2 d0 f1 a1=>?_;exact qB [true,true,true] λz K0 K=>hJ _ _ _ z _ ⟨rfl,rfl,trivial,((U.nil ([.n 0 i]:List Tg)).trans a1)⟩ K)) (by(refine qR [.n 0 i] 5 [0,1,9,2,22,25,0,1] λe3 d1 f2 a2=>?_;exact qB [true,true,true] λz K0 K=>hJ _ _ _ z _ ⟨rfl,rfl,trivial,((U.nil ([.n 0 i]:List Tg)).trans a2)⟩ K)))
   rintro a4 b2 _ f4 _ ⟨rfl,rfl,_,S⟩;refine qE (.tuple #[]) λK=>?_;obtain⟨q1,q2,q3⟩:=K.sC 0 nb (.cells (AG i ob { p with bn:={ p.bn with rk:=upN p.bn.rk j true,an:=upN p.bn.an j a } } { x with hv:=upN x.hv j ya }) 97) 0 i (by kernel_rfl);obtain⟨q4,q5,q6⟩:=K.sC 1 ob (.cells #[S3.v lt,S3.v G] 67) 50 0 (by kernel_rfl);have hE:p.bn.sf j vs={ p.bn with rk:=upN p.bn.rk j true,an:=upN p.bn.an j a }:=by unfold Rnd.sf;rw[<- hl,<- hI];rfl
   rw[hE];have d:Cg w.heap.size [.n 0 i] g w a4 b2:=((((hC.nil [.n 0 i]).n A).n R).trans S);have I:Tg.z∉[Tg.n 0 i]:=by simp
   have Z:=(((hya.ch A).ch R).ch S);refine⟨_,rfl,⟨{ x with hv:=upN x.hv j ya },lt,G,⟨q1,q2,q3,m.tape.ch d I,m.mv.ch d I,?_,Ci m.bw d I (by simp),m.fa.ch d,m.ae.ch d,m.br.ch d,m.cl.ch d,m.sJ⟩,⟨q4,q5,q6,DZ hO.bt d I (by simp),hO.ew.ch d⟩,K.new⟩,d.mono (by simp[TN])⟩;intro k hk;show FSv _ _ (upN x.hv j ya k) (upN p.bn.an j a k).vs;unfold upN;split
   .exact Z
   .exact(m.an k hk).ch d I
end
end
end Go.Proofs.YtogibonjmbhliabGreatDoor
