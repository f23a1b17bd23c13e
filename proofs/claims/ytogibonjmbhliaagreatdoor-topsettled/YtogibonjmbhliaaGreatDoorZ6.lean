/- Part 6 of the walk. -/
import Derived.Test.YtogibonjmbhliaaGreatDoorZ5
set_option maxRecDepth 100000
set_option maxHeartbeats 4000000
open Go.Proofs.Tryz
set_option linter.unusedVariables false
namespace Go.Proofs.YtogibonjmbhliaaGreatDoor
section
open Go.RowKit
section
variable{B cap e n p sz:Nat}{P:Program}{Q:Exit->Act->World->Prop}{a:Option Addr}{l:List Vt}{o:Oper}{ops:Array Oper}{rest:List Oper}{s:Int}{v:Vt}{w:World}{xs:List Value}{y:Value}
theorem Sv.cells{ad:Addr}{m:List Vt}(h:Sv w (.slice (some ad) n cap) m):∀ j u,(vtL m)[j]?=some u->w.cell? (ad.add j)=some u:=by
 intro j u d;obtain⟨⟨a,l,e,o,p,f⟩,_⟩:=h;simp only[Value.slice.injEq]at e;obtain⟨rfl,rfl,rfl⟩:=e;rcases f with rfl|⟨b,off,hab,_,hcell⟩
 .simp[vtL]at d
 .obtain rfl:ad=⟨b,off,none⟩:=by simpa using hab
  obtain⟨v,g,i⟩:=cx m j u d;have c:(⟨b,off,none⟩:Addr).add j=⟨b,off+j,none⟩:=by unfold Addr.add;split<;>simp_all
  rw[c];have k:=hcell (j/8) v g (j%8) u i
  rwa [show off+8*(j/8)+j%8=off+j by omega]at k
theorem Ry(w:World)(b s B ty e:Nat)(t:P.underlying s=some (.slice e))(o:(P.info? e).map (·.size)=some 8)(g n:Nat)(xs:List Value)(f:w.ownsRow b e 8 (.slice (some ⟨g,0,none⟩) n n) n xs)(u:Value)(m:List Vt)(c:m.length=n)(v:Sv w u m) :
  ∃ w',(Builtin.copy_ #[s,B] ty #[.slice (some ⟨g,0,none⟩) n n,u]).run P w=.ok (goInt n) w'/\w'.ownsRow b e 8 (.slice (some ⟨g,0,none⟩) n n) n (vtL m)/\Below g w w':=by
 obtain⟨i,h,y⟩:∃ i,P.info? e=some i/\i.size=8:=by
  cases h:P.info? e with
  | none=>rw[h]at o;cases o
  | some i=>rw[h]at o;exact⟨i,rfl,by simpa using o⟩
 rcases f.2 with⟨h0,_⟩|⟨g',cap,cur,hvv,hbg,hg,hnc,hcm,hcs,ht⟩
 .cases h0
 .simp only[Value.slice.injEq,Y',Addr.mk.injEq]at hvv;obtain⟨⟨rfl,_⟩,_,rfl⟩:=hvv;have l:=v;obtain⟨⟨a,x,rfl,D,A,C⟩,_⟩:=v;rw[c]at l ⊢
  cases a with
  | none =>
   have p:=A rfl;subst p;have q:n=0:=by omega
   subst q;have r:m=[]:=Z' c;subst r;refine⟨w,?_,⟨rfl,.inr ⟨g,0,cur,rfl,hbg,hg,hnc,hcm,hcs,by simp[vtL]⟩⟩,Below.refl _ _⟩;simp[Builtin.copy_,run_underlying t,Builtin.lenOf,Builtin.firstCells,sizeOf,typeInfo,h,storeCells]
  | some ad =>
   have z:=run_firstCells_some (P:=P) w 8 n ad n x (vtL m) (by rw[Df,c]) l.cells;have j:=run_storeCells_at P g 0 e (vtL m) 0 cur w hg (by rw[Df,c];omega) (Vw m);have d:(cur.toList.take (0+0)++vtL m++cur.toList.drop (0+0+(vtL m).length))=vtL m:=by
    rw[Df,c,nw (by rw[oe];omega)];simp
   rw[d]at j
   refine⟨w.setRow g (vtL m).toArray,?_,⟨by rw[Df,c],.inr ⟨g,n,(vtL m).toArray,rfl,hbg,setRow_heap w g cur _ e _ hg,A' _,hcm,by simp[Df,c],?_⟩⟩,?_⟩
   .simp[Builtin.copy_,run_underlying t,Builtin.lenOf,sizeOf,typeInfo,h,y,z,j]
   .rw[mR (by simp[Df,c])]
   .exact⟨rfl,rfl,rfl,by simp,λk E=>setRow_other w g k _ (by omega)⟩
theorem Nl(w:World){a:Act}(j:o.guard=none)(d s:Operand)(i l:TypeId)(t:o.op=.call { callee:=.builtin .copy,args:=#[d,s],argTypes:=#[i,l] })(b e:Nat)(x:P.underlying i=some (.slice e))(v:(P.info? e).map (·.size)=some 8)(g n:Nat)(xs:List Value)(q:a.eval d=.slice (some ⟨g,0,none⟩) n n)(c:w.ownsRow b e 8 (.slice (some ⟨g,0,none⟩) n n) n xs)(u:Value)(k:a.eval s=u)(m:List Vt)(r:m.length=n)(y:Sv w u m)(h:∀ w',w'.ownsRow b e 8 (.slice (some ⟨g,0,none⟩) n n) n (vtL m)->Below g w w'->wpList P ops Q rest (a.put o.dst (goInt n)) w'):wpList P ops Q (o::rest) a w:=by
 refine wpList_plain j λK p=>?_;obtain⟨w',f,z,A⟩:=Ry (P:=P) w b i l o.type e x v g n xs c u m r y;unfold Oper.wp execOp;simp only[t,resolve,invoke,builtin,Sem.run_bind,Sem.run_pure,Result.andThen_ok,pD,nu,og,q,k,f];exact p _ _ (h w' z A)
theorem Nn(w:World){a:Act}(s:o.guard=none)(l c:Operand)(t:TypeId)(f:o.op=Op.makeSlice t l c)(b:Nat)(e:TypeId)(p:P.underlying t=some (.slice e))(d:(P.info? e).map (λi=>(i.zero,i.size,i.bytes))=some (some zVt,8,64))(n:Nat)(v:a.eval l=.int .i64 (n:Int))(r:a.eval c=.int .i64 (n:Int))(hn:n<=2199023255488)(k:b<=w.heap.size)(q:∀ w',Hid (∃ xs,w'.ownsRow b e 8 (.slice (some ⟨w.heap.size,0,none⟩) n n) n xs)->w.grownBy w' none->wpList P ops Q rest (a.put o.dst (.slice (some ⟨w.heap.size,0,none⟩) n n)) w'):wpList P ops Q (o::rest) a w:=by
 obtain⟨x,u,g,h,j⟩:=info_parts d;refine wpList_make_full w s l c t f b e x zVt 8 p u g h _ _ _ _ n v r rfl rfl (by rw[j];omega) (by unfold maxLen;omega) k (λw' y m=>q w' ⟨_,y⟩ m)
theorem FL{b a c:Nat}{v:Value}(h:w.ownsRow b e c v n xs)(d:a<=b):w.ownsRow a e c v n xs:=by
 refine⟨h.1,?_⟩;rcases h.2 with h2|⟨g,cap,cur,hv,hbg,hr⟩
 .exact .inl h2
 .exact .inr ⟨g,cap,cur,hv,mF d hbg,hr⟩
theorem vt8:(prog.info? 140).map (·.size)=some 8:=by kernel_rfl
theorem Ss(x:Value)(l:List Vt)(w:World)(h:Sv w x l) :
  Calls prog 134 #[x] w λe w'=>∃ x',e=.returned x'/\w'.ownsRow w.heap.size 140 8 x' l.length (vtL l)/\Bw w w':=by
 have b:=h.len;obtain⟨a,v,rfl⟩:=h.shape;obtain⟨N,f⟩:∃ N,l.length=N:=⟨_,rfl⟩;have n:Hid (l.length=N):=f;rw[f]at h b ⊢
 clear f;go_enter func134,ntmps134
 go_wp2_with ((with_reducible (refine Da ?_));at_make;refine Nn _ rfl _ _ 76 rfl w.heap.size 140 underlying76 EY N rfl rfl b (A' _) ?_)
 intro m c q;have i:Bw w m:=(Below.refl _ _).grown q (A' _) (λk s=>by cases s);have r:=h.af i;obtain⟨u,c⟩:=c.out;have g:Hid (m.ownsRow w.heap.size 140 8 (.slice (some ⟨w.heap.size,0,none⟩) N N) N u):=c;clear c;go_wp2_with ((with_reducible (refine Da ?_));refine Nl _ rfl _ _ 76 76 rfl w.heap.size 140 underlying76 vt8 w.heap.size N _ rfl g.out _ rfl l n.out r ?_)
 intro t j o;have d:Hid (t.ownsRow w.heap.size 140 8 (.slice (some ⟨w.heap.size,0,none⟩) N N) N (vtL l)):=j;have p:=i.trans o;clear j g;go_wp2
 go_ret;exact⟨_,rfl,d.out,p⟩
theorem Sv.first(h:Sv w (.slice a n cap) l)(i:Nat)(v:Vt)(e:l[i]?=some v):∃ b off,a=some ⟨b,off,none⟩/\b<w.heap.size/\w.cell? ⟨b,off+8*i,none⟩=some (.int .i64 v.bn):=by
 obtain⟨b,off,c,d,f⟩:=h.spot i v e;exact⟨b,off,c,d,f 0 _ rfl⟩
theorem TD(f g:Nat)(a:Option Addr)(n c:Nat)(l:List Vt)(s:Int)(i:Nat)(v:Vt)(w:World)(t:l.length=n)(j:l[i]?=some v)(h:Sv w (.slice a n c) l)(c1:w.cell? ⟨f,0,none⟩=some (.slice a n c))(p:w.cell? ⟨g,0,none⟩=some (.int .i64 s)) :
  Calls prog 184 #[.int .i64 (i:Int),.pointer (some ⟨f,0,none⟩),.pointer (some ⟨g,0,none⟩)] w λe w'=>e=.returned (.bool (decide (s<=v.bn)))/\Bw w w':=by
 obtain⟨b,d,rfl,r,q⟩:=h.first i v j;have hin:i<n:=by have:=(V'.1 j).1;omega
 have o:=JO b d n c i hin;have k:=Below.refl w.heap.size w;go_enter func184,ntmps184
 go_wp2_with fail
 go_quiet (fail)
 have m:Bw w (w.drewN nq):=Ap k nq;go_wp2
 go_ret;exact⟨Am (by simp),m⟩
theorem TT(o q:Nat)(a:Option Addr)(n f:Nat)(l:List Vt)(s:Int)(w:World)(B:l.length=n)(L:BR l)(h:Sv w (.slice a n f) l)(M:o<w.heap.size)(N:q<w.heap.size)(c1:w.cell? ⟨o,0,none⟩=some (.slice a n f))(G:w.cell? ⟨q,0,none⟩=some (.int .i64 s)) :
  Calls prog 183 #[.int .i64 (n:Int),.func (.func 184) #[] #[.pointer (some ⟨o,0,none⟩),.pointer (some ⟨q,0,none⟩)]] w λe w'=>∃ p:Nat,e=.returned (.int .i64 (p:Int))/\Plc l s p/\Bw w w':=by
 have t:=h.len;rw[B]at t
 have y:Hid (l.length=n):=B;clear B;go_enter func183,ntmps183
 go_wp2_with fail
 go_loopw [5,6] (λiv C wr=>∃ i j:Nat,i<=j/\j<=n/\iv=.int .i64 (i:Int)/\C=.int .i64 (j:Int)/\(∀ (k:Nat) (v:Vt),k<i->l[k]?=some v->v.bn<s)/\(∀ (k:Nat) (v:Vt),j<=k->l[k]?=some v->s<=v.bn)/\Bw w wr) (λiv C _=>(intOf C-intOf iv).toNat)
 case atStart=>exact⟨0,n,by omega,by omega,rfl,rfl,λk v J=>by omega,λk v J g=>by have:=(V'.1 g).1;have:=y.out;omega,Below.refl _ _⟩
 case round =>
  obtain⟨i,j,H,I,rfl,rfl,u,r,b⟩:=hrel;have d:Hid (∀ (k:Nat) (v:Vt),k<i->l[k]?=some v->v.bn<s):=u;have c:Hid (∀ (k:Nat) (v:Vt),j<=k->l[k]?=some v->s<=v.bn):=r;clear u r;by_cases K:i<j
  .have hlt':(i:Int)<(j:Int):=by omega
   go_wp2_with fail
   obtain⟨m,E⟩:∃ m:Nat,((i:Int)+(j:Int))/2=(m:Int):=⟨(i+j)/2,by omega⟩;rw[E];have O:i<=m:=by omega
   have P:m<j:=by omega
   clear E;obtain⟨v,g⟩:∃ v,l[m]?=some v:=⟨_,G' (by have:=y.out;omega)⟩;refine(TD o q a n f l s m v wr y.out g (h.af b) ((b.cell (p:=⟨o,0,none⟩) M).trans c1) ((b.cell (p:=⟨q,0,none⟩) N).trans G)).mono ?_;rintro e Q ⟨rfl,F⟩;have D:=b.trans (F.mono b.size);obtain⟨P1,A⟩:=Plc.half L g d.out c.out;by_cases x:s<=v.bn
   .rw[M' x];have z:Hid (∀ (k:Nat) (v:Vt),m<=k->l[k]?=some v->s<=v.bn):=A x;clear P1 A g x;go_wp2
    go_roundw
    case rel=>exact⟨i,m,by omega,by omega,rfl,rfl,d.out,z.out,D⟩
    case measure=>simp[intOf];omega
   .rw[D' x];have z:Hid (∀ (k:Nat) (v:Vt),k<m+1->l[k]?=some v->v.bn<s):=P1 (by omega);clear P1 A g x;go_wp2
    go_roundw
    case rel=>exact⟨m+1,j,by omega,by omega,by go_num,rfl,z.out,c.out,D⟩
    case measure=>simp[intOf];omega
  .obtain rfl:i=j:=by omega
   go_wp2
   go_ret;exact⟨i,rfl,⟨by have:=y.out;omega,d.out,c.out⟩,b⟩
theorem Kz(x:Value)(l:List Vt)(s:Int)(w:World)(u:BR l)(h:Sv w x l) :
  Calls prog 165 #[x,.int .i64 s] w λe w'=>∃ p:Nat,e=.returned (.int .i64 (p:Int))/\Plc l s p/\Bw w w':=by
 obtain⟨a,b,rfl⟩:=h.shape;obtain⟨n,f⟩:∃ n,l.length=n:=⟨_,rfl⟩;rw[f]at h ⊢
 have m:Hid (l.length=n):=f;clear f;have j:=heap_alloc2_old w (.cells #[.slice a n b] 76) (.cells #[.int .i64 s] 3);have k:=heap_alloc2_new w (.cells #[.slice a n b] 76) (.cells #[.int .i64 s] 3);have c:Bw w ((w.alloc (.cells #[.slice a n b] 76)).alloc (.cells #[.int .i64 s] 3)):=((Below.refl _ _).alloc (A' _) _).alloc (by simp) _;generalize g:(w.alloc (.cells #[.slice a n b] 76)).alloc (.cells #[.int .i64 s] 3)=W at j k c;have z:W.heap.size=w.heap.size+2:=by rw[<- g];simp
 have c1:W.cell? ⟨w.heap.size,0,none⟩=some (.slice a n b):=cell_of_row _ _ 0 _ _ _ j;have r:W.cell? ⟨w.heap.size+1,0,none⟩=some (.int .i64 s):=cell_of_row _ _ 0 _ _ _ k;have d:=h.af c;go_enter func165,ntmps165
 go_wp2_with fail
 clear g;refine(TT w.heap.size (w.heap.size+1) a n b l s W m.out u d (by omega) (by omega) c1 r).mono ?_;rintro e v ⟨p,rfl,i,q⟩;have t:=c.trans (q.mono c.size);have o:Hid (Plc l s p):=i;clear i;go_wp2
 go_ret;exact⟨p,rfl,o.out,t⟩
def LZ(l:List Vt)(p:Nat)(s:Int):Bool:=match l[p]? with|some v=>decide (v.bn=s)|none=>false
theorem JE(h:l[p]?=some v):LZ l p s=decide (v.bn=s):=by unfold LZ;rw[h]
theorem On(h:l[p]?=none):LZ l p s=false:=by unfold LZ;rw[h]
theorem Oo(h:LZ l p s=true):∃ v,l[p]?=some v/\v.bn=s:=by
 cases hu:l[p]? with
 | none=>rw[On hu]at h;cases h
 | some v=>rw[JE hu]at h;exact⟨v,rfl,ng h⟩
theorem Ma(h:LZ l p s=false):∀ v,l[p]?=some v->v.bn≠s:=by
 intro v a;rw[JE a]at h
 exact of_decide_eq_false h
theorem Kp(x:Value)(l:List Vt)(p:Nat)(s:Int)(w:World)(h:Sv w x l) :
  Calls prog 166 #[x,.int .i64 (p:Int),.int .i64 s] w λe w'=>e=.returned (.bool (LZ l p s))/\w'=w:=by
 obtain⟨a,g,rfl⟩:=h.shape;obtain⟨n,c⟩:∃ n,l.length=n:=⟨_,rfl⟩;rw[c]at h ⊢
 by_cases j:p<n
 .obtain⟨v,hv⟩:∃ v,l[p]?=some v:=⟨_,G' (by omega)⟩;obtain⟨b,f,rfl,m,k⟩:=h.first p v hv;have i:=JO b f n g p j;have d:(p:Int)<(n:Int):=by omega
  rw[JE hv];clear c hv h;go_enter func166,ntmps166
  go_wp2
  go_ret;exact⟨Am (by first|rfl|simp),rfl⟩
 .have hv:l[p]?=none:=oB (by omega);have d:¬ (p:Int)<(n:Int):=by omega
  rw[On hv];clear c hv h;go_enter func166,ntmps166
  go_wp2
  go_ret;exact⟨rfl,rfl⟩
theorem Sv.rV(h:Sv w (.slice a n cap) l)(d f:Nat)(j:d<=f)(g:f<=l.length):Sv w (sliced a d f cap 8) ((l.take f).drop d):=by
 obtain⟨⟨r,k,e,t,q,o⟩,p⟩:=h;simp only[Value.slice.injEq]at e;obtain⟨rfl,rfl,rfl⟩:=e;have m:((l.take f).drop d).length=f-d:=by rw[mM,X'];omega
 cases a with
 | none =>
  have c0:=q rfl;subst c0;have s:l.length=0:=by omega
  refine⟨⟨_,_,by rw[m];rfl,by omega,λ_=>by omega,.inl (Z' (by omega))⟩,by omega⟩
 | some ad =>
  refine⟨⟨_,_,by rw[m];rfl,by omega,(by intro h;split at h<;>simp at h),?_⟩,by omega⟩;rcases Nat.eq_or_lt_of_le j with he|hlt
  .exact .inl (Z' (by omega))
  .rcases o with rfl|⟨b,off,e2,hbs,hcell⟩
   .simp at g;omega
   .simp only[Y']at e2;subst e2;refine .inr ⟨b,off+d*8,?_,hbs,λi v c=>?_⟩
    .rw[if_neg (by omega)];simp[Addr.add]
    .rw[nJ,nQ]at c
     split at c
     .have:=hcell (d+i) v c
      rwa [show off+8*(d+i)=off+d*8+8*i by omega]at this
     .cases c
theorem Sv.ov(h:Sv w (.slice a n cap) l)(b:Nat)(c:b<=l.length) :
  ∃ a' c',(∀ W,(Instr.slice 76 (.slice a n cap) none (some (.int .i64 (b:Int))) none).run prog W=.ok (.slice a' b c') W)/\Sv w (.slice a' b c') (l.take b):=by
 have g:=h.rV 0 b (by omega) c;obtain⟨⟨a',d,e,j,k,i⟩,f⟩:=h;simp only[Value.slice.injEq]at e;obtain⟨rfl,rfl,rfl⟩:=e;refine⟨_,_,λW=>?_,by simpa[sliced]using g⟩;rw[run_slice_h (P:=prog) W 76 a _ cap underlying76 .i64 _ (by omega) (by omega)];rw[S7,TV];simp[Result.andThen,sliced]
theorem Sv.from(h:Sv w (.slice a n cap) l)(b:Nat)(c:b<=l.length) :
  ∃ a' c',(∀ W,(Instr.slice 76 (.slice a n cap) (some (.int .i64 (b:Int))) none none).run prog W=.ok (.slice a' (n-b) c') W)/\Sv w (.slice a' (n-b) c') (l.drop b):=by
 have g:=h.rV b l.length c (A' _);obtain⟨⟨a',d,e,j,k,i⟩,f⟩:=h;simp only[Value.slice.injEq]at e;obtain⟨rfl,rfl,rfl⟩:=e;refine⟨_,_,λW=>?_,by simpa[sliced]using g⟩;rw[run_slice_l (P:=prog) W 76 a _ cap underlying76 .i64 _ (by omega) (by omega)];rw[S7,TV];simp[Result.andThen,sliced]
theorem Fx(w:World){a:Act}(u:o.guard=none)(l c:Operand)(t:TypeId)(f:o.op=Op.makeSlice t l c)(b:Nat)(e:TypeId)(p:P.underlying t=some (.slice e))(d:(P.info? e).map (λi=>(i.zero,i.size,i.bytes))=some (some zVt,8,64))(C:Int)(n:Nat)(x:a.eval l=.int .i64 0)(s:a.eval c=.int .i64 C)(q:C=(n:Int))(hn:n<=2199023255500)(k:b<=w.heap.size)(r:∀ w',Hid (w'.ownsRow b e 8 (.slice (some ⟨w.heap.size,0,none⟩) 0 n) ([]:List Vt).length (vtL []))->w.grownBy w' none->wpList P ops Q rest (a.put o.dst (.slice (some ⟨w.heap.size,0,none⟩) 0 n)) w'):wpList P ops Q (o::rest) a w:=by
 obtain⟨y,v,g,h,j⟩:=info_parts d;exact wpList_make_own w u l c t f b e y zVt 8 p v g h _ _ C n x s q (by rw[j];omega) (by unfold maxLen;omega) k (λw' z m=>r w' z m)
theorem PV(x:Value)(l:List Vt)(v:Vt)(w:World)(hr:BR l)(h:Sv w x l) :
  Calls prog 139 #[x,.agg (vtA v)] w λe w'=>∃ x',e=.returned x'/\w'.ownsRow w.heap.size 140 8 x' (Bo l v).length (vtL (Bo l v))/\Bw w w':=by
 have Z:=h.len;obtain⟨a,cp,rfl⟩:=h.shape;obtain⟨n,hn⟩:∃ n,l.length=n:=⟨_,rfl⟩;rw[hn]at h Z ⊢
 have R:Hid (l.length=n):=hn;clear hn;have P:Bw w (w.alloc (.cells (vtA v) 140)):=(Below.refl _ _).alloc (A' _) _;have B:=heap_alloc_new w (.cells (vtA v) 140);have M:=jB v;have HU:Hid (∀ p,Plc l v.bn p->LZ l p v.bn=true->Bo l v=l.take p++[v]++l.drop (p+1)/\p+1<=l.length):=λp E D=>by
  obtain⟨u,hu,he⟩:=Oo D;exact⟨by rw[E.has hu he];simp,by have:=(V'.1 hu).1;omega⟩
 have HN:Hid (∀ p,Plc l v.bn p->LZ l p v.bn=false->Bo l v=l.take p++[v]++l.drop p/\p<=l.length):=λp E D=>⟨by rw[E.no (Ma D)];simp,E.le⟩;obtain⟨c,⟨m,i⟩,⟨f,d,j,g,o⟩⟩:=v;simp only[vtA,vtC]at P B M ⊢;generalize hW:w.alloc (.cells [.int .i64 c,.int .i64 m,.int .i64 i,.int .i64 f,.int .i64 d,.int .i64 j,.int .i64 g,.int .i64 o].toArray 140)=W at P B;have a3:w.heap.size<W.heap.size:=(Q'.1 B).1;have c0:W.cell? ⟨w.heap.size,0,none⟩=some (.int .i64 c):=cell_of_row _ _ 0 _ _ _ B;go_enter func139,ntmps139
 go_wp2_with fail
 clear hW;refine(Kz _ l c W hr (h.af P)).mono ?_;rintro e w1 ⟨p,rfl,E,b1⟩;have C:=P.trans (b1.mono P.size);have F:w.heap.size<w1.heap.size:=j' a3 b1.size;replace B:=(b1.block _ a3).trans B;have c0:w1.cell? ⟨w.heap.size,0,none⟩=some (.int .i64 c):=cell_of_row _ _ 0 _ _ _ B;have Q:=h.af C;have a5:p<=n:=by have:=E.le;have:=R.out;omega
 have HP:Hid (Plc l c p):=E;clear b1 P E;go_wp2_with fail
 refine(Kp _ l p c w1 Q).mono ?_;rintro e b ⟨rfl,rfl⟩;obtain⟨a1,k1,u1,su⟩:=Q.ov p HP.out.le;have a0:(l.take p).length<=n:=by rw[X'];omega
 have hz:=C.size;generalize D:LZ l p c=bh;cases bh
 .obtain⟨HI0,hk0⟩:=HN.out p HP.out D;have G:Hid (Bo l ⟨c,⟨m,i⟩,⟨f,d,j,g,o⟩⟩=l.take p++([⟨c,⟨m,i⟩,⟨f,d,j,g,o⟩⟩]:List Vt)++l.drop (p)):=HI0;obtain⟨a2,k2,u2,sd⟩:=Q.from (p) hk0;have t:(l.take p).length+(l.drop (p)).length<=n:=by rw[X',mM];have:=R.out;omega
  have T:Hid (∀ w',Bw b w'->Sv w' (.slice a1 p k1) (l.take p)):=λw' L=>su.af L;have S:Hid (∀ w',Bw b w'->Sv w' (.slice a2 (n-(p)) k2) (l.drop (p))):=λw' L=>sd.af L;clear HI0 HU HN D su sd Q h hr;generalize l.take p=LP at G T a0 t;generalize l.drop (p)=LD at G S t;have a4:(p)<=n:=by have:=R.out;omega
  go_wp2_with ((with_reducible (refine Da ?_));at_make;refine Fx _ rfl _ _ 76 rfl b.heap.size 140 underlying76 EY _ (n+1) rfl rfl (by first|rfl|omega) (by omega) (A' _) ?_)
  intro w3 N U;have I:Bw b w3:=(Below.refl _ _).grown U (A' _) (λk s=>by cases s);have z3:=I.size;clear U;go_wp2_with ((with_reducible (refine Da ?_));at_builtin;refine BE _ rfl _ _ 76 rfl b.heap.size 140 zVt underlying76 EY rfl _ _ rfl rfl [] (LP) N.out (T.out w3 I) (by simp;omega) (by omega) ?_)
  intro v4 w4 o4 V;have J:Bw b w4:=I.grown V (by omega) (λk s=>(N.out.lt k s).1);have z4:=J.size;have q:Hid (w4.ownsRow b.heap.size 140 8 v4 (LP).length (vtL (LP))):=by unfold Hid;simpa using o4
  have y:=q.out.lt;have A:=(J.block _ F).trans B;clear o4 V N;go_wp2_with ((with_reducible (refine Da ?_));first|(refine wpList_load_row rfl 140 _ rfl w.heap.size rfl 140 _ (0,0) _ A underlying140 rfl M ?_)|(at_builtin;refine BE _ rfl _ _ 76 rfl b.heap.size 140 zVt underlying76 EY rfl _ _ rfl rfl (LP) ([⟨c,⟨m,i⟩,⟨f,d,j,g,o⟩⟩]:List Vt) (q.out.alloc _) (Sv.one _ ⟨c,⟨m,i⟩,⟨f,d,j,g,o⟩⟩ _ rfl) (by simp;omega) (by simp;omega) ?_))
  intro v5 O o5 X;have K:Bw b O:=(J.alloc (by omega) _).grown X (by simp;omega) (λk s=>(y k s).1);have z5:=K.size;have r:Hid (O.ownsRow b.heap.size 140 8 v5 (LP++([⟨c,⟨m,i⟩,⟨f,d,j,g,o⟩⟩]:List Vt)).length (vtL (LP++([⟨c,⟨m,i⟩,⟨f,d,j,g,o⟩⟩]:List Vt)))):=by unfold Hid;rw[H'];exact o5
  have z:=r.out.lt;clear o5 X q y A;go_wp2_with ((with_reducible (refine Da ?_));at_builtin;refine BE _ rfl _ _ 76 rfl b.heap.size 140 zVt underlying76 EY rfl _ _ rfl rfl (LP++([⟨c,⟨m,i⟩,⟨f,d,j,g,o⟩⟩]:List Vt)) (LD) r.out (S.out O K) (by rw[H'];simp;omega) (by omega) ?_)
  intro v6 w6 o6 Y;have b6:Bw b w6:=K.grown Y (by omega) (λk s=>(z k s).1);have H:Hid (w6.ownsRow b.heap.size 140 8 v6 (LP++([⟨c,⟨m,i⟩,⟨f,d,j,g,o⟩⟩]:List Vt)++LD).length (vtL (LP++([⟨c,⟨m,i⟩,⟨f,d,j,g,o⟩⟩]:List Vt)++LD))):=by unfold Hid;simpa using o6
  have d6:=C.trans (b6.mono C.size);clear o6 Y r z;go_wp2
  go_ret;refine⟨v6,rfl,?_,d6⟩;rw[G.out];exact FL H.out C.size
 .obtain⟨HI0,hk0⟩:=HU.out p HP.out D;have G:Hid (Bo l ⟨c,⟨m,i⟩,⟨f,d,j,g,o⟩⟩=l.take p++([⟨c,⟨m,i⟩,⟨f,d,j,g,o⟩⟩]:List Vt)++l.drop (p+1)):=HI0;obtain⟨a2,k2,u2,sd⟩:=Q.from (p+1) hk0;rw[show((p+1:Nat):Int)=(p:Int)+1 by omega]at u2
  have t:(l.take p).length+(l.drop (p+1)).length<=n:=by rw[X',mM];have:=R.out;omega
  have T:Hid (∀ w',Bw b w'->Sv w' (.slice a1 p k1) (l.take p)):=λw' L=>su.af L;have S:Hid (∀ w',Bw b w'->Sv w' (.slice a2 (n-(p+1)) k2) (l.drop (p+1))):=λw' L=>sd.af L;clear HI0 HU HN D su sd Q h hr;generalize l.take p=LP at G T a0 t;generalize l.drop (p+1)=LD at G S t;have a4:(p+1)<=n:=by have:=R.out;omega
  go_wp2_with ((with_reducible (refine Da ?_));at_make;refine Fx _ rfl _ _ 76 rfl b.heap.size 140 underlying76 EY _ (n+1) rfl rfl (by first|rfl|omega) (by omega) (A' _) ?_)
  intro w3 N U;have I:Bw b w3:=(Below.refl _ _).grown U (A' _) (λk s=>by cases s);have z3:=I.size;clear U;go_wp2_with ((with_reducible (refine Da ?_));at_builtin;refine BE _ rfl _ _ 76 rfl b.heap.size 140 zVt underlying76 EY rfl _ _ rfl rfl [] (LP) N.out (T.out w3 I) (by simp;omega) (by omega) ?_)
  intro v4 w4 o4 V;have J:Bw b w4:=I.grown V (by omega) (λk s=>(N.out.lt k s).1);have z4:=J.size;have q:Hid (w4.ownsRow b.heap.size 140 8 v4 (LP).length (vtL (LP))):=by unfold Hid;simpa using o4
  have y:=q.out.lt;have A:=(J.block _ F).trans B;clear o4 V N;go_wp2_with ((with_reducible (refine Da ?_));first|(refine wpList_load_row rfl 140 _ rfl w.heap.size rfl 140 _ (0,0) _ A underlying140 rfl M ?_)|(at_builtin;refine BE _ rfl _ _ 76 rfl b.heap.size 140 zVt underlying76 EY rfl _ _ rfl rfl (LP) ([⟨c,⟨m,i⟩,⟨f,d,j,g,o⟩⟩]:List Vt) (q.out.alloc _) (Sv.one _ ⟨c,⟨m,i⟩,⟨f,d,j,g,o⟩⟩ _ rfl) (by simp;omega) (by simp;omega) ?_))
  intro v5 O o5 X;have K:Bw b O:=(J.alloc (by omega) _).grown X (by simp;omega) (λk s=>(y k s).1);have z5:=K.size;have r:Hid (O.ownsRow b.heap.size 140 8 v5 (LP++([⟨c,⟨m,i⟩,⟨f,d,j,g,o⟩⟩]:List Vt)).length (vtL (LP++([⟨c,⟨m,i⟩,⟨f,d,j,g,o⟩⟩]:List Vt)))):=by unfold Hid;rw[H'];exact o5
  have z:=r.out.lt;clear o5 X q y A;go_wp2_with ((with_reducible (refine Da ?_));at_builtin;refine BE _ rfl _ _ 76 rfl b.heap.size 140 zVt underlying76 EY rfl _ _ rfl rfl (LP++([⟨c,⟨m,i⟩,⟨f,d,j,g,o⟩⟩]:List Vt)) (LD) r.out (S.out O K) (by rw[H'];simp;omega) (by omega) ?_)
  intro v6 w6 o6 Y;have b6:Bw b w6:=K.grown Y (by omega) (λk s=>(z k s).1);have H:Hid (w6.ownsRow b.heap.size 140 8 v6 (LP++([⟨c,⟨m,i⟩,⟨f,d,j,g,o⟩⟩]:List Vt)++LD).length (vtL (LP++([⟨c,⟨m,i⟩,⟨f,d,j,g,o⟩⟩]:List Vt)++LD))):=by unfold Hid;simpa using o6
  have d6:=C.trans (b6.mono C.size);clear o6 Y r z;go_wp2
  go_ret;refine⟨v6,rfl,?_,d6⟩;rw[G.out];exact FL H.out C.size
def Fa.fo(B:Nat)(e:TypeId)(sz:Nat)(x:Value)(n:Nat)(vs:List Value):Fa:=⟨none,λg w=>w.ownsRow B e sz x n vs/\∀ k,x.ownBlock=some k->k<w.heap.size/\g.t k=.z,λhz _ c h=>⟨Ty h.1 λk hk=>c.zc hz (h.2 k hk).1 (h.2 k hk).2,λk hk=>⟨j' (h.2 k hk).1 c.size,(c.tag (h.2 k hk).1 λe=>by rw[(h.2 k hk).2]at e;cases e).trans (h.2 k hk).2⟩⟩⟩
theorem YE{g:Gh}{a:Nat}(h:w.ownsRow B e sz y n xs)(d:a<=B)(G:∀ b,B<=b->g.t b=.z):w.ownsRow a e sz y n xs/\∀ k,y.ownBlock=some k->k<w.heap.size/\g.t k=.z:=by
 refine⟨FL h d,λk c=>?_⟩;rcases h.2 with⟨rfl,_⟩|⟨b,cap,cur,rfl,hb,hh,_⟩
 .cases c
 .cases c;exact⟨(Q'.1 hh).1,G _ hb⟩
theorem ZP(h:w.ownsRow B e sz y n xs):∃ z:S3,y=z.v:=by
 rcases h.2 with⟨rfl,_⟩|⟨b,cap,cur,rfl,_⟩
 .exact⟨s30,rfl⟩
 .exact⟨⟨some ⟨b,0,none⟩,n,cap⟩,rfl⟩
theorem U7{y:S3}(h:Sv w y.v l) :
  Calls prog 134 #[y.v] w λe w'=>∃ z:S3,e=.returned z.v/\w'.ownsRow w.heap.size 140 8 z.v l.length (vtL l)/\Bw w w' :=
 (Ss y.v l w h).mono λe w' ⟨x,b,a,c⟩=>by obtain⟨z,rfl⟩:=ZP a;exact⟨z,b,a,c⟩
theorem gb{y:S3}(g:BR l)(h:Sv w y.v l) :
  Calls prog 139 #[y.v,.agg #[iv v.bn,iv v.b.r,iv v.b.n,iv v.w.k,iv v.w.c,iv v.w.s,iv v.w.n,iv v.w.v]] w λe w'=>∃ z:S3,e=.returned z.v/\w'.ownsRow w.heap.size 140 8 z.v (Bo l v).length (vtL (Bo l v))/\Bw w w' :=
 (PV y.v l v w g h).mono λe w' ⟨x,d,a,f⟩=>by obtain⟨z,rfl⟩:=ZP a;exact⟨z,d,a,f⟩
end
section
variable{p:Bal}{l:List Vt}{w w':World}
theorem P3{b:Bal}{E:Int}(a:Cl ⟨p,l⟩ b=E)(c:E≠0)(f:Bw w w'):∃ y z,(Ending.returned (.tuple #[.agg #[iv 0,iv 0,sn],sn,iv E]):Ending)=.returned (.tuple #[.agg (acA (Fr ⟨p,l⟩ b) y),z,.int .i64 (Cl ⟨p,l⟩ b)])/\w'.ownsRow w.heap.size 140 8 y (DM ⟨p,l⟩ b).length (vtL (DM ⟨p,l⟩ b))/\w'.ownsRow w.heap.size 140 8 z (DM ⟨p,l⟩ b).length (vtL (DM ⟨p,l⟩ b))/\Bw w w':=by
 have d:Fr ⟨p,l⟩ b=⟨0,0⟩:=if_neg (by rw[a];exact c);have e:DM ⟨p,l⟩ b=[]:=if_neg (by rw[a];exact c);rw[d,e,a];exact⟨sn,sn,rfl,World.ownsRow_nil _ _ _ _,World.ownsRow_nil _ _ _ _,f⟩
theorem eK{b:Bal}{y z:S3}(e:Ag ⟨p,l⟩)(f:Ab b)(h:¬ b.lt p)(j:w'.ownsRow w.heap.size 140 8 y.v l.length (vtL l))(k:w'.ownsRow w.heap.size 140 8 z.v l.length (vtL l))(i:Bw w w'):∃ y' z',(Ending.returned (.tuple #[.agg #[iv b.r,iv b.n,y.v],z.v,iv 0]):Ending)=.returned (.tuple #[.agg (acA (Fr ⟨p,l⟩ b) y'),z',.int .i64 (Cl ⟨p,l⟩ b)])/\w'.ownsRow w.heap.size 140 8 y' (DM ⟨p,l⟩ b).length (vtL (DM ⟨p,l⟩ b))/\w'.ownsRow w.heap.size 140 8 z' (DM ⟨p,l⟩ b).length (vtL (DM ⟨p,l⟩ b))/\Bw w w':=by
 have a:Cl ⟨p,l⟩ b=0:=(if_neg (λg=>g e)).trans ((if_neg (λg=>g f)).trans (if_neg h));have c:Fr ⟨p,l⟩ b=b:=if_pos a;have d:DM ⟨p,l⟩ b=l:=if_pos a;rw[c,d,a];exact⟨y.v,z.v,rfl,j,k,i⟩
end
theorem Dl(p:Bal)(x:Value)(l:List Vt)(b:Bal)(w:World)(h:Sv w x l)(J:NTab w) :
  Calls prog 100 #[.agg (acA p x),.agg (baA b)] w λe w'=>∃ y z,e=.returned (.tuple #[.agg (acA (Fr ⟨p,l⟩ b) y),z,.int .i64 (Cl ⟨p,l⟩ b)])/\w'.ownsRow w.heap.size 140 8 y (DM ⟨p,l⟩ b).length (vtL (DM ⟨p,l⟩ b))/\w'.ownsRow w.heap.size 140 8 z (DM ⟨p,l⟩ b).length (vtL (DM ⟨p,l⟩ b))/\Bw w w':=by
 obtain⟨y,rfl⟩:=h.s3;show Calls prog 100 #[.agg #[iv p.r,iv p.n,S3.v y],.agg #[iv b.r,iv b.n]] w _;refine tIn [] func100 trivial (tR 12 [0,0,0,0,1,0,0] λc _ _=>tC1 1 (λF C=>J7 p y.v l _ (h.af (CgQ.af C)) (J.af (CgQ.af C))) λ_=>tR 7 [] λK _ _=>?_);by_cases d:Ag ⟨p,l⟩
 .have hE:F1 ⟨p,l⟩=0:=if_pos d;refine tI (((F1 ⟨p,l⟩) != 0)) false (by rw[hE];decide) (tR 5 [1] λL _ _=>?_);by_cases f:Ab b
  .refine tC1 1 (λF C=>IS (b:=b) (r:=true) (M' f)) λ_=>tR 10 [1,0] λM _ _=>?_;by_cases k:b.lt p
   .refine tC1 3 (λF C=>En (a:=b) (b:=p) (r:=true) (M' k)) λ_=>tR 9 [2,0] λN _ _=>tX λF C=>qE3 4 5 6 78 2 (c 2) #[iv 0,iv 0,sn] sn (iv 7) λ_=>P3 ((if_neg (λg=>g d)).trans ((if_neg (λg=>g f)).trans (if_pos k))) (by decide) (CgQ.af C)
   .refine tC1 3 (λF C=>En (a:=b) (b:=p) (r:=false) (D' k)) λ_=>tR 10 [8,0,1,2,4,0,10,12,0] λD _ _=>tF λ_ m=>?_;have i:=m.size;refine tC 3 (λF C=>U7 (h.af (CgQ.af C))) λo=>?_;rintro _ _ ⟨A,rfl,t,q⟩;refine⟨_,Fa.fo w.heap.size 140 8 A.v l.length (vtL l)::_,rfl,q,λF=>⟨YE t i o,F⟩,?_⟩;refine tR 1 [8] λE _ _=>tF λ_ m=>?_;have j:=m.size;refine tC 7 (λF C=>U7 (h.af (CgQ.af C))) λo=>?_;rintro _ _ ⟨B,rfl,u,s⟩;refine⟨_,Fa.fo w.heap.size 140 8 B.v l.length (vtL l)::_,rfl,s,λF=>⟨YE u j o,F⟩,?_⟩;refine tR 4 [17,2,0,18,20] λG _ _=>tX λF C=>qE3 4 5 6 78 2 (c 2) #[iv b.r,iv b.n,S3.v A] (S3.v B) (iv 0) λ_=>eK d f k F.2.1.1 F.1.1 (CgQ.af C)
  .refine tC1 1 (λF C=>IS (b:=b) (r:=false) (D' f)) λ_=>tR 10 [2,0] λH _ _=>tX λF C=>qE3 4 5 6 78 2 (c 2) #[iv 0,iv 0,sn] sn (iv 2) λ_=>P3 ((if_neg (λg=>g d)).trans (if_pos f)) (by decide) (CgQ.af C)
 .have hE:F1 ⟨p,l⟩=5:=if_neg d;refine tI (((F1 ⟨p,l⟩) != 0)) true (by rw[hE];decide) ?_;refine tR 8 [2,0] λI _ _=>tX λF C=>qE3 4 5 6 78 2 (c 2) #[iv 0,iv 0,sn] sn (iv (F1 ⟨p,l⟩)) λ_=>by rw[hE];exact P3 (if_pos d) (by decide) (CgQ.af C)
theorem CV(a:Acc)(b:Bal):(DM a b).length<=a.vs.length:=by unfold DM;split<;>simp
theorem Ri(p:Bal)(x:Value)(l:List Vt)(b:Bal)(w:World)(h:Sv w x l)(d:NTab w) :
  Calls prog 100 #[.agg (acA p x),.agg (baA b)] w λe w'=>∃ y z,e=.returned (.tuple #[.agg (acA (Fr ⟨p,l⟩ b) y),z,.int .i64 (Cl ⟨p,l⟩ b)])/\Sv w' y (DM ⟨p,l⟩ b)/\Sv w' z (DM ⟨p,l⟩ b)/\Bw w w' :=
 (Dl p x l b w h d).mono λe w' ⟨y,z,c,f,g,a⟩=>⟨y,z,c,Sv.lz f (mF (CV ⟨p,l⟩ b) h.len),Sv.lz g (mF (CV ⟨p,l⟩ b) h.len),a⟩
section
variable{p:Bal}{l:List Vt}{w w':World}{v:Vt}
theorem iD{p:Bal}{l:List Vt}{v:Vt}(a:Ag ⟨p,l⟩)(b:Ah v):(Bo l v).length<=40:=by
 rw[<- dE 40 a.2.2 (λu c=>by have:=(a.2.1 u c).1.1;omega) (by have:=b.1;omega)];exact YK _ a.2.2 40
theorem OT{E:Int}(a:AX ⟨p,l⟩ v=E)(b:E≠0)(e:Bw w w'):∃ y,(Ending.returned (.tuple #[.agg #[iv 0,iv 0,sn],iv E]):Ending)=.returned (.tuple #[.agg (acA (BN ⟨p,l⟩ v) y),.int .i64 (AX ⟨p,l⟩ v)])/\w'.ownsRow w.heap.size 140 8 y (Bu ⟨p,l⟩ v).length (vtL (Bu ⟨p,l⟩ v))/\(Bu ⟨p,l⟩ v).length<=40/\Bw w w':=by
 have c:BN ⟨p,l⟩ v=⟨0,0⟩:=if_neg (by rw[a];exact b);have d:Bu ⟨p,l⟩ v=[]:=if_neg (by rw[a];exact b);rw[c,d,a];exact⟨sn,rfl,World.ownsRow_nil _ _ _ _,by simp,e⟩
theorem cG{y:S3}(c:Ag ⟨p,l⟩)(d:Ah v)(h:¬ v.b.lt p)(j:w'.ownsRow w.heap.size 140 8 y.v (Bo l v).length (vtL (Bo l v)))(i:Bw w w'):∃ y',(Ending.returned (.tuple #[.agg #[iv v.b.r,iv v.b.n,y.v],iv 0]):Ending)=.returned (.tuple #[.agg (acA (BN ⟨p,l⟩ v) y'),.int .i64 (AX ⟨p,l⟩ v)])/\w'.ownsRow w.heap.size 140 8 y' (Bu ⟨p,l⟩ v).length (vtL (Bu ⟨p,l⟩ v))/\(Bu ⟨p,l⟩ v).length<=40/\Bw w w':=by
 have a:AX ⟨p,l⟩ v=0:=(if_neg (λg=>g c)).trans ((if_neg (λg=>g d)).trans (if_neg h));have e:BN ⟨p,l⟩ v=v.b:=if_pos a;have f:Bu ⟨p,l⟩ v=Bo l v:=if_pos a;rw[e,f,a];exact⟨y.v,rfl,j,iD c d,i⟩
end
section
theorem Cv(p:Bal)(x:Value)(l:List Vt)(v:Vt)(w:World)(h:Sv w x l)(q:NTab w) :
  Calls prog 102 #[.agg (acA p x),.agg (vtA v)] w λe w'=>∃ y,e=.returned (.tuple #[.agg (acA (BN ⟨p,l⟩ v) y),.int .i64 (AX ⟨p,l⟩ v)])/\w'.ownsRow w.heap.size 140 8 y (Bu ⟨p,l⟩ v).length (vtL (Bu ⟨p,l⟩ v))/\(Bu ⟨p,l⟩ v).length<=40/\Bw w w':=by
 obtain⟨y,rfl⟩:=h.s3;show Calls prog 102 #[.agg #[iv p.r,iv p.n,S3.v y],.agg #[iv v.bn,iv v.b.r,iv v.b.n,iv v.w.k,iv v.w.c,iv v.w.s,iv v.w.n,iv v.w.v]] w _;refine tIn [] func102 trivial (tR 11 [0,0,0,0,1,0,0] λd _ _=>tC1 1 (λF C=>J7 p y.v l _ (h.af (CgQ.af C)) (q.af (CgQ.af C))) λ_=>tR 7 [] λH _ _=>?_);by_cases f:Ag ⟨p,l⟩
 .have hE:F1 ⟨p,l⟩=0:=if_pos f;refine tI (((F1 ⟨p,l⟩) != 0)) false (by rw[hE];decide) (tR 5 [1] λI _ _=>?_);by_cases i:Ah v
  .refine tC1 1 (λF C=>Hc (v:=v) (q.af (CgQ.af C)) (r:=true) (M' i)) λ_=>tR 11 [1,0] λJ _ _=>?_;by_cases m:v.b.lt p
   .refine tC1 4 (λF C=>En (a:=v.b) (b:=p) (r:=true) (M' m)) λ_=>tR 8 [2,0] λK _ _=>tX λF C=>qE2 4 5 78 2 (d 2) #[iv 0,iv 0,sn] (iv 7) λ_=>OT ((if_neg (λg=>g f)).trans ((if_neg (λg=>g i)).trans (if_pos m))) (by decide) (CgQ.af C)
   .refine tC1 4 (λF C=>En (a:=v.b) (b:=p) (r:=false) (D' m)) λ_=>tR 10 [7,0,2,1,4,6,0,8,1] λz _ _=>tF λ_ E=>?_;have j:=E.size;refine tC 5 (λF C=>gb (v:=v) f.2.2 (h.af (CgQ.af C))) λG=>?_;rintro _ _ ⟨u,rfl,t,o⟩;refine⟨_,Fa.fo w.heap.size 140 8 u.v (Bo l v).length (vtL (Bo l v))::_,rfl,o,λF=>⟨YE t j G,F⟩,?_⟩;refine tR 4 [12,15,2,0,16] λA _ _=>tX λF C=>qE2 4 5 78 2 (d 2) #[iv v.b.r,iv v.b.n,S3.v u] (iv 0) λ_=>cG f i m F.1.1 (CgQ.af C)
  .refine tC1 1 (λF C=>Hc (v:=v) (q.af (CgQ.af C)) (r:=false) (D' i)) λ_=>tR 9 [2,0] λB _ _=>tX λF C=>qE2 4 5 78 2 (d 2) #[iv 0,iv 0,sn] (iv 2) λ_=>OT ((if_neg (λg=>g f)).trans (if_pos i)) (by decide) (CgQ.af C)
 .have hE:F1 ⟨p,l⟩=5:=if_neg f;refine tI (((F1 ⟨p,l⟩) != 0)) true (by rw[hE];decide) ?_;refine tR 7 [2,0] λD _ _=>tX λF C=>qE2 4 5 78 2 (d 2) #[iv 0,iv 0,sn] (iv (F1 ⟨p,l⟩)) λ_=>by rw[hE];exact OT (if_pos f) (by decide) (CgQ.af C)
theorem RT(p:Bal)(x:Value)(l:List Vt)(v:Vt)(w:World)(h:Sv w x l)(c:NTab w) :
  Calls prog 102 #[.agg (acA p x),.agg (vtA v)] w λe w'=>∃ y,e=.returned (.tuple #[.agg (acA (BN ⟨p,l⟩ v) y),.int .i64 (AX ⟨p,l⟩ v)])/\Sv w' y (Bu ⟨p,l⟩ v)/\Bw w w' :=
 (Cv p x l v w h c).mono λe w' ⟨y,b,d,f,a⟩=>⟨y,b,Sv.lz d (by omega),a⟩
structure Base(w0:World)(g:Gh)(w:World):Prop where
 b:Bw w0 w
 z:∀ k,k<w0.heap.size->g.t k=.z
variable{B:Nat}{a:Acc}{g:Gh}{w w' w0:World}{y:Value}
theorem Base.ch{T:List Tg}{d:Gh}(h:Base w0 g w)(c:Cg B T g w d w')(f:Tg.z∉T:=by simp):Base w0 d w' :=
 have e:∀ k,k<w0.heap.size->k<w.heap.size:=λk a=>j' a h.b.size
 ⟨⟨c.os.trans h.b.os,c.tape.trans h.b.tape,c.output.trans h.b.output,mF h.b.size c.size,λk a=>(c.zc f (e k a) (h.z k a)).trans (h.b.block k a)⟩,λk a=>(c.tag (e k a) (by rw[h.z k a];intro h;cases h)).trans (h.z k a)⟩
structure Tabs(w:World):Prop where
 t:AK w
 n:NTab w
 q:CW w
theorem Base.tt(h:Base w0 g w)(t:Tabs w0):AK w:=t.t.af h.b
theorem Base.tn(h:Base w0 g w)(t:Tabs w0):NTab w:=t.n.af h.b
theorem Base.tq(h:Base w0 g w)(t:Tabs w0):CW w:=t.q.af t.q.pos h.b
theorem DZ{l:List Vt}(h:w'.ownsRow B 140 8 y l.length (vtL l))(e:∀ b,B<=b->g.t b=.z)(f:l.length<=2199023255488):∃ y3:S3,y=y3.v/\y3.n=l.length/\FSv g w' y3 l:=by
 have d:=Sv.lz h f;rcases h.2 with⟨rfl,h0⟩|⟨b,cap,cur,rfl,hb,_⟩
 .exact⟨s30,rfl,h0.symm,d,λi=>absurd (Z' h0) i⟩
 .exact⟨⟨some ⟨b,0,none⟩,l.length,cap⟩,rfl,rfl,d,λ_ a c=>by simp only[Y']at c;subst c;exact e b hb⟩
theorem eD{l:List Int}(h:w'.ownsRow B 5 1 y l.length (l.map (Value.int .u8)))(k:∀ b,B<=b->g.t b=.z)(m:l.length<=140737488351232)(j:∀ x∈l,0<=x/\x<256):∃ y3:S3,y=y3.v/\y3.n=l.length/\FSl g w' y3 l:=by
 rcases h.2 with⟨rfl,h0⟩|⟨b,cap,cur,rfl,hbb,hh,hc,_,hcs,ht⟩
 .have d:l=[]:=Z' h0;subst d;exact⟨s30,rfl,rfl,⟨⟨none,0,rfl,A' _,λ_=>rfl,.inl rfl⟩,by simp,by simp⟩,λd=>absurd rfl d⟩
 .refine⟨⟨some ⟨b,0,none⟩,l.length,cap⟩,rfl,rfl,⟨⟨_,_,rfl,hc,λh=>(by cases h),.inr ⟨b,0,rfl,rl hh,λi f=>?_⟩⟩,m,j⟩,λ_ a e=>by simp only[Y']at e;subst e;exact k b hbb⟩;have c:(l.map (Value.int .u8))[i]?=some (.int .u8 (l.getD i 0)):=by rw[nB,G' f,nE,G' f];rfl
  rw[<- ht,nQ]at c
  split at c
  .rw[cell_of_row _ _ _ _ _ _ hh,nD];simpa using c
  .cases c
theorem Ke{d:List Int}{s:Int}{may:Prop}[Decidable may]{b:List Int}(h:CJ d s may b=0):AP d s/\d.length+(b.length+5)<=100000/\may:=by
 unfold CJ at h;by_cases c:GC d s (b.length+5)≠0
 .rw[if_pos c]at h;exact absurd h c
 .rw[if_neg c]at h
  have e:may:=nz λe=>by rw[if_neg e]at h;cases h
  have a:GC d s (b.length+5)=0:=by simpa using c
  unfold GC at a;by_cases f:AP d s
  .rw[if_neg (λg=>g f)]at a
   refine⟨f,?_,e⟩;rcases nG 100000 (d.length+(b.length+5))with h2|h2
   .rw[if_pos h2]at a;cases a
   .exact h2
  .rw[if_pos f]at a;cases a
theorem jc{b:Bal}(h:Cl a b=0):Fr a b=b/\DM a b=a.vs:=⟨if_pos h,if_pos h⟩
theorem DA{v:Vt}(h:AX a v=0):BN a v=v.b/\Bu a v=Bo a.vs v:=⟨if_pos h,if_pos h⟩
end
end
section
open Go.ChangeShapes Go.WideShapes Go.ChangeAt Go.RowKit
theorem m7{W:World}(h:laidMetH prog Rows.topSettledRow.laid W):Tabs W/\LWTab W/\LBTab W:=by
 have u:laidMet prog Rows.topSettledRow.laid W:=h;obtain⟨B,⟨w,F,r,d,z,C,k,n,a,g,⟨x,G,s,e,p1,D,l,o,b,i,⟨y,H,t,f,A,E,m,p,c,j,v,_⟩,_⟩,_⟩,_⟩:=u;have q:=fD v;obtain rfl:=nA (YG.symm.trans k);obtain rfl:=nA (SK.symm.trans n);obtain rfl:=nA (ki.symm.trans l);obtain rfl:=nA (YH.symm.trans o);obtain rfl:=nA (gi.symm.trans m);obtain rfl:=nA (VT.symm.trans p);exact⟨⟨aL b i,ei c j,az a g⟩,q.1,q.2⟩
def Jy(os:Os)(W:World):Prop :=
 W={ World.holding prog os ⟨#[],#[],[]⟩with heap:=(((((World.holding prog os ⟨#[],#[],[]⟩).heap.modify 4 (Zk WK)).modify 3 (Zk (SX.map (Value.int .u32)).toArray)).modify 2 (Zk (O2.map (Value.int .i64)).toArray)).modify 1 (Zg Qg)).modify 0 (Zg Sb) }
theorem dm(a:Os):∃ W,Jy a W:=⟨_,rfl⟩
end
section
open Go.RowKit
section
def cmG(c:Cmd):Value:=.agg #[iv c.k,iv c.c,iv c.s,iv c.n,iv c.v]
theorem UT(x:Cmd × Bal × Nat):(mkA x).key=cmG x.1:=rfl
theorem Y7(u v:Cmd)(w:World):(Op.equal 49 (cmG u) (cmG v)).run prog w=.ok (decide (u=v)) w:=by
 have a:=UC u.k u.c u.s u.n u.v v.k v.c v.s v.n v.v w;rw[Pc]at a
 rw[run_eql_struct]at a
 show(Op.equalIn 10000 _ _ _).run _ _=_;simp only[cmG];cases hr:(Op.equalIn 10000 49 (.agg #[iv u.k,iv u.c,iv u.s,iv u.n,iv u.v]) (.agg #[iv v.k,iv v.c,iv v.s,iv v.n,iv v.v])).run prog w with
 | ok b w'=>simp only[hr]at a;simp[Result.andThen]at a;rw[a.1,a.2]
 | _=>simp only[hr]at a;simp[Result.andThen]at a
abbrev Ask:=Cmd × Bal × Nat
def LT(v:Cmd):List Ask->Nat->Option (Nat × Value)
 | [],_=>none
 | x::c,i=>if v=x.1 then some (i,(mkA x).val)else LT v c (i+1)
theorem NU(v:Cmd)(w:World):∀ (c:List Ask) (i:Nat),(Instr.findAsking 49 (cmG v) (c.map mkA) i).run prog w=.ok (LT v c i) w
 | [],i=>by simp[Instr.findAsking,LT]
 | x::c,i=>by
  have h:=Y7 v x.1 w;rw[nu,Instr.findAsking,Sem.run_bind];rw[UT,h,Result.andThen_ok,LT];by_cases e:v=x.1
  .rw[M' e,if_pos e];rfl
  .rw[D' e,if_neg e];simpa using NU v w c (i+1)
theorem GZ(v:Cmd)(w:World)(c:List Ask):(Instr.findKey 49 (cmG v) (c.map mkA)).run prog w=.ok (LT v c 0) w:=by
 rw[Instr.findKey,Sem.run_bind,run_underlying underlying49 w,Result.andThen_ok];cases c with
 | nil=>simp[Instr.findNow,LT]
 | cons x c =>
  show Sem.run _ (match(none:Option (Option (Nat × Value)))with|some r=>pure r|none=>Instr.findAsking 49 (cmG v) ((x::c).map mkA)) w=_;exact NU v w (x::c) 0
theorem Fh(a:Bool)(v:Cmd)(w:World):(Instr.checkKey a 10000 49 (cmG v)).run prog w=.ok () w:=by
 obtain⟨k,c,q,m,x⟩:=v;kernel_rfl
theorem fe(v:Cmd)(n:Nat):Instr.sameBits (n+1) (cmG v) (cmG v)=true:=by simp[Instr.sameBits,cmG]
theorem bg(v:Cmd)(w:World):(Instr.keyThatStays (cmG v) (cmG v)).run prog w=.ok (cmG v) w:=by
 rw[Instr.keyThatStays,if_pos (fe v 9999)];rfl
def Gd(c:List Ask)(v:Cmd):Option Bal:=(c.find? λx=>decide (v=x.1)).map (·.2.1)
theorem Ln(v:Cmd):∀ (c:List Ask) (i:Nat),(LT v c i=none/\Gd c v=none/\∀ x∈c,v≠x.1)\/∃ a x b,c=a++x::b/\x.1=v/\(∀ y∈a,v≠y.1)/\LT v c i=some (i+a.length,(mkA x).val)/\Gd c v=some x.2.1
 | [],i=>.inl ⟨rfl,rfl,λx hx=>by cases hx⟩
 | x::c,i=>by
  by_cases e:v=x.1
  .refine .inr ⟨[],x,c,rfl,e.symm,λy hy=>(P' hy).elim,?_,?_⟩
   .rw[LT,if_pos e];rfl
   .simp[Gd,e]
  .rcases Ln v c (i+1)with⟨h1,h2,h3⟩|⟨a,y,b,rfl,hy,h3,h4,h5⟩
   .refine .inl ⟨by rw[LT,if_neg e,h1],?_,λy hy=>?_⟩
    .rw[<- h2];simp[Gd,e]
    .rcases mN.1 hy with rfl|hy
     .exact e
     .exact h3 y hy
   .refine .inr ⟨x::a,y,b,rfl,hy,λz hz=>?_,?_,?_⟩
    .rcases mN.1 hz with rfl|hz
     .exact e
     .exact h3 z hz
    .rw[LT,if_neg e,h4];simp;omega
    .rw[<- h5];simp[Gd,e]
def KJ(b:Bal):Value:=.agg #[iv b.r,iv b.n]
variable{b:Nat}{f:Cmd->Option Bal}{g:Gh}{w:World}{τ:Tg}
theorem gx(h:AskAt g w τ b f)(v:Cmd)(ok:Bool):(Instr.lookup 90 (.map (some b)) (cmG v) ok).run prog w=.ok (if ok then .tuple #[KJ ((f v).getD Bb),.bool (f v).isSome]else KJ ((f v).getD Bb)) w:=by
 obtain⟨_,_,c,k,j,_,_,_,l⟩:=h;have e:f v=Gd c v:=l v;have i:(getObj b).run prog w=.ok (.map (c.map mkA).toArray k) w:=by simp[getObj,Sem.run,j]
 rcases Ln v c 0 with⟨h1,h2,_⟩|⟨a,x,d,_,_,_,h1,h2⟩
 .rw[h2]at e
  cases ok<;>simp[Instr.lookup,run_underlying underlying90,i,Fh,GZ,h1,e,KJ,Bb]
 .rw[h2]at e
  cases ok<;>simp[Instr.lookup,run_underlying underlying90,i,Fh,GZ,h1,e,mkA,KJ]
theorem Cg.block{B:Nat}{T:List Tg}{l:Array MapEntry}{k:Nat}(f:w.heap[b]?=some (.map l k))(p:g.t b=τ)(n:g.k b=0)(d:τ∈T)(o:Obj):Cg B T g w g (ChangeMaps.setBlock w b o) :=
 have c:∀ a,g.t a∉T->a≠b:=λa h e=>h (by rw[e,p];exact d)
 ⟨rfl,rfl,rfl,by simp[ChangeMaps.setBlock],λ_ _=>.inl rfl,λ_ _=>A' _,λ_ _ _ _=>rfl,λa _ h _=>ChangeMaps.heap_setBlock_other f o (c a h),
  λa _ j m=>World.cell?_of_block (w:=w) (ChangeMaps.heap_setBlock_other f o (λe=>by have i:a=b:=e;rw[i,n]at m;omega))⟩
theorem VQ(c:List Ask)(v u:Cmd)(x:Bal)(k:Nat)(h:∀ y∈c,v≠y.1):Gd (c++[(v,x,k)]) u=if u=v then some x else Gd c u:=by
 unfold Gd;rw[oq];by_cases e:u=v
 .subst e;have a:c.find? (λy=>decide (u=y.1))=none:=by
   rw[nY];intro y b;simp[h y b]
  simp[a]
 .rw[if_neg e];simp[e]
theorem YA(a d:List Ask)(v u:Cmd)(x y:Bal)(k:Nat)(h:∀ y∈a,v≠y.1):Gd (a++(v,y,k)::d) u=if u=v then some y else Gd (a++(v,x,k)::d) u:=by
 unfold Gd;rw[oq,oq,px,px];by_cases e:u=v
 .subst e;have b:a.find? (λy=>decide (u=y.1))=none:=by
   rw[nY];intro y c;simp[h y c]
  simp[b]
 .rw[if_neg e];simp[e]
theorem YB(a d:List Ask)(v u:Cmd)(x:Bal)(k:Nat)(h:∀ y∈a,v≠y.1)(f:∀ y∈d,v≠y.1):Gd (a++d) u=if u=v then none else Gd (a++(v,x,k)::d) u:=by
 unfold Gd;rw[oq,oq,px];by_cases e:u=v
 .subst e;have g:a.find? (λy=>decide (u=y.1))=none:=by
   rw[nY];intro y c;simp[h y c]
  have b:d.find? (λy=>decide (u=y.1))=none:=by
   rw[nY];intro y c;simp[f y c]
  simp[g,b]
 .rw[if_neg e];simp[e]
theorem cO(h:AskAt g w τ b f)(v:Cmd)(x:Bal):∃ w',(Instr.mapUpdate 90 (.map (some b)) (cmG v) (KJ x)).run prog w=.ok () w'/\AskAt g w' τ b (Ca f v (some x))/\(∀ B T,τ∈T->Cg B T g w g w')/\w'.heap.size=w.heap.size:=by
 obtain⟨s,j,c,k,l,m,n,o,E⟩:=h;have F:(getObj b).run prog w=.ok (.map (c.map mkA).toArray k) w:=by simp[getObj,Sem.run,l]
 rcases Ln v c 0 with⟨h1,h2,h3⟩|⟨a,y,d,rfl,hy,h3,h1,h2⟩
 .have C:=MapKept.run_setObj_map (P:=prog) (w:=w) (.map ((c++[(v,x,k)]).map mkA).toArray (k+1)) l;refine⟨_,?_,⟨s,j,c++[(v,x,k)],k+1,ChangeMaps.heap_setBlock_same l (.map ((c++[(v,x,k)]).map mkA).toArray (k+1)),?_,?_,?_,?_⟩,λB T t=>Cg.block l s j t _,by simp[ChangeMaps.setBlock]⟩
  .have z:((c.map mkA).toArray.push { key:=cmG v,val:=KJ x,born:=k })=((c++[(v,x,k)]).map mkA).toArray:=by simp[mkA,cmG,KJ,cmV]
   rw[Instr.mapUpdate];simp only[Sem.run_bind,run_underlying underlying90,Result.andThen_ok,F,Fh,GZ,h1,z,C];rfl
  .intro y hy;rcases U'.1 hy with hy|hy
   .have:=m y hy;omega
   .obtain rfl:y=(v,x,k):=by simpa using hy
    show k<k+1;omega
  .rw[nh,oW];refine⟨n,by simp,?_⟩;intro p A q r;obtain⟨y,hy,rfl⟩:=mW.1 A;obtain rfl:q=k:=by simpa using r
   have:=m y hy;omega
  .rw[nh,oW];refine⟨o,by simp,?_⟩;intro p A q r;obtain⟨y,hy,rfl⟩:=mW.1 A;obtain rfl:q=v:=by simpa using r
   exact λe=>h3 y hy e.symm
  .intro u;rw[show(List.find? (λx=>decide (u=x.1)) (c++[(v,x,k)])).map (·.2.1)=Gd (c++[(v,x,k)]) u from rfl,VQ c v u x k h3];unfold Ca;split
   .rfl
   .exact E u
 .obtain⟨yv,yb,yk⟩:=y;simp only at hy;subst hy;have C:=MapKept.run_setObj_map (P:=prog) (w:=w) (.map ((a++(yv,x,yk)::d).map mkA).toArray k) l;refine⟨_,?_,⟨s,j,a++(yv,x,yk)::d,k,ChangeMaps.heap_setBlock_same l (.map ((a++(yv,x,yk)::d).map mkA).toArray k),?_,?_,?_,?_⟩,λB T t=>Cg.block l s j t _,by simp[ChangeMaps.setBlock]⟩
  .have hx:((a++(yv,yb,yk)::d).map mkA).toArray[a.length]?=some (mkA (yv,yb,yk)):=by simp
   have z:(((a++(yv,yb,yk)::d).map mkA).toArray.modify a.length λe=>{ e with key:=cmG yv,val:=KJ x })=((a++(yv,x,yk)::d).map mkA).toArray:=by
    apply pm;intro i;rw[qh];split
    .rename_i hi
     subst hi;simp[mkA,cmG,KJ,cmV]
    .rename_i hi
     simp only[nN,nh,nu];rcases nG i a.length with g|g
     .rw[mQ (by simpa using g),mQ (by simpa using g)]
     .rw[mS (by simpa using g),mS (by simpa using g)];obtain⟨q,r⟩:∃ q,i-(a.map mkA).length=q+1:=⟨i-a.length-1,by simp;omega⟩;rw[r];rfl
   have D:=bg yv w;rw[Instr.mapUpdate];simp only[Sem.run_bind,run_underlying underlying90,Result.andThen_ok,F,Fh,GZ,h1,nD,hx,nK,qM];rw[UT,D,Result.andThen_ok,z,C];rfl
  .intro y hy;rcases U'.1 hy with hy|hy
   .exact m y (mJ _ hy)
   .rcases mN.1 hy with rfl|hy
    .exact m (yv,yb,yk) (by simp)
    .exact m y (mG _ (I' _ hy))
  .simpa using n
  .simpa using o
  .intro u;rw[show(List.find? (λx=>decide (u=x.1)) (a++(yv,x,yk)::d)).map (·.2.1)=Gd (a++(yv,x,yk)::d) u from rfl,YA a d yv u yb x yk h3];unfold Ca;split
   .rfl
   .exact E u
theorem cN(h:AskAt g w τ b f)(v:Cmd)(ty:TypeId):∃ w',(Builtin.delete_ #[90,49] ty #[.map (some b),cmG v]).run prog w=.ok (.tuple #[]) w'/\AskAt g w' τ b (Ca f v none)/\(∀ B T,τ∈T->Cg B T g w g w')/\w'.heap.size=w.heap.size:=by
 obtain⟨n,j,c,k,l,p,m,i,s⟩:=h;have t:(getObj b).run prog w=.ok (.map (c.map mkA).toArray k) w:=by simp[getObj,Sem.run,l]
 rcases Ln v c 0 with⟨h1,h2,h3⟩|⟨a,y,d,rfl,hy,h3,h1,h2⟩
 .have q:=MapKept.run_setObj_map (P:=prog) (w:=w) (.map (c.map mkA).toArray k) l;refine⟨_,?_,⟨n,j,c,k,ChangeMaps.heap_setBlock_same l (.map (c.map mkA).toArray k),p,m,i,?_⟩,λB T o=>Cg.block l n j o _,by simp[ChangeMaps.setBlock]⟩
  .simp[Builtin.delete_,run_underlying underlying90,t,Fh,GZ,h1,q];rfl
  .intro u;unfold Ca;split
   .rename_i e;rw[e];exact h2.symm
   .exact s u
 .obtain⟨yv,yb,yk⟩:=y;simp only at hy;subst hy;have q:=MapKept.run_setObj_map (P:=prog) (w:=w) (.map ((a++d).map mkA).toArray k) l;have z:∀ y∈d,yv≠y.1:=by
   intro y hy e;rw[nh,nu,oW]at i
   exact(oX.1 i.2.1).1 (mW.2 ⟨y,hy,e.symm⟩)
  refine⟨_,?_,⟨n,j,a++d,k,ChangeMaps.heap_setBlock_same l (.map ((a++d).map mkA).toArray k),?_,?_,?_,?_⟩,λB T o=>Cg.block l n j o _,by simp[ChangeMaps.setBlock]⟩
  .have he:(((a++(yv,yb,yk)::d).map mkA).toArray.eraseIdxIfInBounds a.length)=((a++d).map mkA).toArray:=by
    rw[Array.eraseIdxIfInBounds,dif_pos (by simp)];simp[List.eraseIdx_append_of_length_le]
   have r:=GZ yv w (a++(yv,yb,yk)::d);rw[h1,nD]at r
   simp only[Builtin.delete_,nN,nX,pO,Sem.run_bind,run_underlying underlying90,Result.andThen_ok,t,Fh,r,he,q];rfl
  .intro y hy;rcases U'.1 hy with hy|hy
   .exact p y (mJ _ hy)
   .exact p y (mG _ (I' _ hy))
  .rw[nh,nu]at m
   rw[nh];exact m.sublist (List.Sublist.append_left (List.sublist_cons_self _ _) _)
  .rw[nh,nu]at i
   rw[nh];exact i.sublist (List.Sublist.append_left (List.sublist_cons_self _ _) _)
  .intro u;rw[show(List.find? (λx=>decide (u=x.1)) (a++d)).map (·.2.1)=Gd (a++d) u from rfl,YB a d yv u yb yk h3 z];unfold Ca;split
   .rfl
   .exact s u
end
section
variable{fn:Func}{R:Ending->World->Prop}{B:Nat}{T:List Tg}{g:Gh}{w:World}
section
variable{b:Nat}{f:Cmd->Option Bal}{g:Gh}{s:Xs}{w:World}{τ:Tg}
theorem aB(h:AskAt g w τ b f)(v:Cmd):(Instr.lookup 90 (.map (some b)) (cmG v) true).run prog w=.ok (.tuple #[KJ ((f v).getD Bb),.bool (f v).isSome]) w:=gx h v true
theorem ji(h:AskAt g w τ b f)(v:Cmd):(Instr.lookup 90 (.map (some b)) (cmG v) false).run prog w=.ok (KJ ((f v).getD Bb)) w:=gx h v false
theorem UG(i':Nat)(v:Cmd)(x:Bal)(h:AskAt g w τ b f)(a:Dy s i'=some (Instr.mapUpdate 90 (.map (some b)) (cmG v) (KJ x)>>=λ_=>pure .skip))(c:(nxt s i' undef s.L).o.map Ob.l'=(nxt s i' undef s.L).o.map Ob.r')(n:s.L.all (λy=>[τ].all λt=>y.t.ne t)=true)(p:∀ w',AskAt g w' τ b (Ca f v (some x))->(∀ B T,τ∈T->Cg B T g w g w')->GG prog fn R B T (nxt s i' undef s.L).s g w'):GG prog fn R B T s g w:=by
 refine LY i' s.L c (Cp a) λj r i o d=>?_;obtain⟨w',q,l,e,m⟩:=cO h v x;refine⟨undef,w',g,.inr ⟨?_,rfl⟩,j.ch (e _ [τ] (E'.2 rfl)) (λb k=>j.new b (by rw[m]at k;exact k)) n,p w' l e⟩;rw[DE a d,Sem.run_bind,q,Result.andThen_ok];rfl
theorem d8(i':Nat)(v:Cmd)(ty:TypeId)(h:AskAt g w τ b f)(a:Dy s i'=some (Builtin.delete_ #[90,49] ty #[.map (some b),cmG v]>>=λv=>pure (.value v)))(c:(nxt s i' undef s.L).o.map Ob.l'=(nxt s i' undef s.L).o.map Ob.r')(n:s.L.all (λy=>[τ].all λt=>y.t.ne t)=true)(p:∀ w',AskAt g w' τ b (Ca f v none)->(∀ B T,τ∈T->Cg B T g w g w')->GG prog fn R B T (nxt s i' (.tuple #[]) s.L).s g w'):GG prog fn R B T s g w:=by
 refine LY i' s.L c (Cp a) λj r i o d=>?_;obtain⟨w',q,l,e,m⟩:=cN h v ty;refine⟨.tuple #[],w',g,.inl ?_,j.ch (e _ [τ] (E'.2 rfl)) (λb k=>j.new b (by rw[m]at k;exact k)) n,p w' l e⟩;rw[DE a d,Sem.run_bind,q,Result.andThen_ok];rfl
end
end
section
def TO:List Tg:=[.n 50 0,.n 51 0,.n 52 0]
variable{b1 b2 b3 i j k lb nb ob:Nat}{c:Cmd}{g:Gh}{l:Let}{ls:List Let}{p:Nod}{ts:List Tol}{v:Vt}{w:World}{x:S3}
theorem aR{x:NX}{lt q:S3}(A:NodeAt g w i nb ob x p)(o:OutAt g w ob lt q ls ts)(B:Jx g w)(O:ls.length<100000000)(l:Let)(vs k:S3)(C:FSv g w vs l.lp)(D:Rc g w k l.ed)(to:Nat) :
  Calls prog 84 #[pt nb 0,iv (to:Int),.agg (FD l vs k)] w λe w'=>∃ g' lt',e=.returned (.tuple #[])/\OutAt g' w' ob lt' q (ls++[{ l with src:=i,dst:=to }]) ts/\Cg w.heap.size TO g w g' w'/\Jx g' w':=by
 obtain⟨y,s,h⟩:=o.br;have j:lt.n=ls.length:=by have:=s.len;have:=h.len;simp at *;omega
 refine gI (fn:=f84) TO g func84 B (qN A (qO o (qR [] 29 [0,0,0,2,0,2,0,15,0,2,4,6,0,8,10,12,14,0,16,18,20,1,23,0,0] λc L Q c1=>KO 12 (x:=lt) 65 65 143 1 8 (.pointer none) ⟨(c 1),0,none⟩ 1 1 [pt (c 0) 0] (s.ch c1) (by kernel_rfl) (by kernel_rfl) (by kernel_rfl) underlying65 (by kernel_rfl) (by kernel_rfl) (by decide) (by decide) rfl (by simp[Value.oneCell']) (λK=>Cz K 3 (c 1) [pt (c 0) 0] 143 .z true (by kernel_rfl)) (by rw[j];unfold maxLen;omega) (by rw[j];omega) ?_)));intro t M R u P m J;have d:=m w.heap.size [.n 51 0] (E'.2 rfl);refine qR [.n 50 0] 4 [26,28,31,1,1] λs3 N S a=>qE (.tuple #[]) λK=>?_;obtain⟨E,F,G⟩:=K.rY 1 ob (.cells #[S3.v t,S3.v q] 67) 50 0 (by kernel_rfl);obtain⟨H,I⟩:=K.rX 2 (c 0) (.cells (FD { l with src:=i,dst:=to } vs k) 142) false (by kernel_rfl);have b:∀ r,Tg.z∉[Tg.n r 0]:=λr=>by simp
 refine⟨_,t,rfl,⟨E,F,G,⟨y++[(c 0)],?_,?_⟩,(((o.eo.ch c1).ch d).ch a)⟩,(((c1.nil TO).trans (d.mono (by simp[TO]))).trans (a.mono (by simp[TO]))),K.new⟩
 .rw[nh];exact u.ch a
 .refine(((h.ch c1).ch d (b _)).ch a (b _)).snoc ⟨vs,k,⟨H,I⟩,(((C.ch c1).ch d (b _)).ch a (b _)),(((D.ch c1).ch d (b _)).ch a (b _))⟩
theorem AR(h:NS i nb ob g w p ls ts)(I:p.bt.length<100000000)(e:Fn)(d:Array Value)(q:Pend)(A:Lx g w nb (.func e #[] d) q) :
  Calls prog 57 #[pt nb 0,.func e #[] d] w (NP i nb ob g w (.tuple #[]) (p.wait q) ls ts):=by
 obtain⟨x,lt,B,b,r,y⟩:=h;obtain⟨C,s,j⟩:=b.bt;have t:x.synced.n=p.bt.length:=by have:=s.len;have:=j.len;simp at *;omega
 refine gI (fn:=f57) (TN i) g func57 y (qN b (qO r (qR [] 9 [0,0,0] λu F L c1=>KO 8 (x:=x.synced) 79 79 1 1 8 (.nilFunc) ⟨(u 0),0,none⟩ 1 1 [.func e #[] d] (s.ch c1) (by kernel_rfl) (by kernel_rfl) (by kernel_rfl) underlying79 (by kernel_rfl) (by kernel_rfl) (by decide) (by decide) rfl (by simp[Value.oneCell']) (λK=>Cz K 2 (u 0) [.func e #[] d] 1 .z true (by kernel_rfl)) (by rw[t];unfold maxLen;omega) (by rw[t];omega) ?_)));intro D G M v J l E;have o:=l w.heap.size [.n 1 i] (E'.2 rfl);refine qR [.n 0 i] 5 [0,1] λs3 H N k=>qE (.tuple #[]) λK=>?_;have a:=((c1.nil ([.n 1 i,.n 0 i]:List Tg)).m o).m k;have c:Tg.z∉([.n 1 i,.n 0 i]:List Tg):=by simp
 exact⟨_,rfl,⟨{ x with synced:=D },lt,B,K.nd 0 (b.tape.ch a c) (b.lp.ch a c) (BG b.aj a c) ⟨C++[.func e #[] d],v.ch k,(j.ch a c).snoc (A.ch a c)⟩ (b.ew.ch a) (b.ab.ch a) (b.au.ch a) (b.bw.ch a) b.sh,r.ch a c (by simp<;>omega),K.new⟩,(((c1.nil (TN i)).trans (o.mono (by simp[TN]))).trans (k.mono (by simp[TN])))⟩
theorem RG(h:NS i nb ob g w p ls ts)(G:ts.length<100000000)(c:Cmd)(b a:Int) :
  Calls prog 54 #[pt nb 0,.agg (cmC c),.agg #[iv b,iv a]] w (NP i nb ob g w (.tuple #[]) p ls (ts++[⟨i,c.c,c.s,b,a⟩])):=by
 obtain⟨x,lt,t,o,d,A⟩:=h;have q:t.n=ts.length:=by have y:=d.eo.len;rw[GJ]at y;omega
 refine gI (fn:=f54) (TN i) g func54 A (qN o (qO d (qR [] 28 [0,0,0,0,25,0,2,4,6,0,8,10,12,14,0,16,18,20,1,22,24,26,28,0,30,32,2,34,36,2,38,3,40,43,0,0] λr D I c1=>KO 22 (x:=t) 28 28 103 5 40 (.agg #[iv 0,iv 0,iv 0,iv 0,iv 0]) ⟨(r 2),0,none⟩ 1 1 [iv (i:Int),iv c.c,iv c.s,iv b,iv a] (d.eo.ch c1) (by kernel_rfl) (by kernel_rfl) (by kernel_rfl) underlying28 (by kernel_rfl) (by kernel_rfl) (by decide) (by decide) rfl (by simp[Value.oneCell']) (λK=>Cz K 4 (r 2) [iv (i:Int),iv c.c,iv c.s,iv b,iv a] 103 .z true (by kernel_rfl)) (by rw[q];unfold maxLen;omega) (by rw[q];omega) ?_)));intro B E J v H j C;have l:=j w.heap.size [.n 52 0] (E'.2 rfl);refine qR [.n 50 0] 4 [46,48,51,1,1] λs3 F L e=>qE (.tuple #[]) λK=>?_;have k:=((c1.nil ([.n 52 0,.n 50 0]:List Tg)).m l).m e;have u:Tg.z∉([.n 52 0,.n 50 0]:List Tg):=by simp
 exact⟨_,rfl,⟨x,lt,B,K.sX 0 o k,K.od 1 (DY d.br k u (by simp)) (by rw[List.flatMap_append];exact v.ch e),K.new⟩,(((c1.nil (TN i)).trans (l.mono (by simp[TN]))).trans (e.mono (by simp[TN])))⟩
theorem La(h:NS i nb ob g w p ls ts)(b:Nat)(l:Let)(m:CP g w b l) :
  Calls prog 46 #[pt nb 0,pt b 0] w (NP i nb ob g w (.tuple #[]) { p with cn:=max p.cn l.fa.r } ls ts):=by
 obtain⟨x,lt,s,e,j,k⟩:=h;refine gI (fn:=f46) (TN i) g func46 k (qN e (qO j ?_));obtain⟨A,D,a,o,q⟩:=m;refine Cr ⟨b,_,.z,false⟩ (λ_=>⟨a.r,a.z,λh=>(by cases h),λh=>absurd rfl h⟩) (by kernel_rfl) ?_;refine qR [] 12 [15,0,2,4,6,8,10,0,12,14,16,18,20,2] λv t B c1=>qT 11 (iv (max p.cn l.fa.r)) (λ_=>(kS #[3,3] 3 p.cn l.fa.r)) (qR [.n 0 i] 5 [24,26,28,31,0,1] λy u C d=>qE (.tuple #[]) λK=>?_);have c:=(c1.nil ([.n 0 i]:List Tg)).trans (d);exact⟨_,rfl,⟨x,lt,s,K.sX 0 e c,j.ch c (hn:=by simp<;>omega),K.new⟩,((c1.nil (TN i)).trans (d.mono (by simp[TN])))⟩
theorem FR(h:NS i nb ob g w p ls ts)(n:ls.length<100000000)(l:Let)(vs b:S3)(q:FSv g w vs l.lp)(s:Rc g w b l.ed)(to:Nat) :
  Calls prog 84 #[pt nb 0,iv (to:Int),.agg (FD l vs b)] w (NP i nb ob g w (.tuple #[]) p (ls++[{ l with src:=i,dst:=to }]) ts):=by
 obtain⟨x,lt,t,d,m,o⟩:=h;refine(aR d m o n l vs b q s to).mono ?_;rintro e v ⟨f,a,rfl,j,c,k⟩;exact⟨f,rfl,⟨x,a,t,d.ch c (by simp[TO]) (λr u=>by simp[TO];omega),j,k⟩,c.mono (by simp[TO,TN])⟩
def BZ(i:Nat)(l:Let)(k:Nat):List Let:=((List.range k).filter λj=>decide (j≠i)).map λto=>{ l with src:=i,dst:=to }
theorem aV(h:k≠i):BZ i l (k+1)=BZ i l k++[{ l with src:=i,dst:=k }]:=by unfold BZ;rw[oY,oE,nh];simp[h]
theorem aT(h:k=i):BZ i l (k+1)=BZ i l k:=by unfold BZ;rw[oY,oE,nh];simp[h]
theorem aU(i:Nat)(l:Let)(k:Nat):(BZ i l k).length<=k:=by unfold BZ;rw[mV];exact mF (py _ _) (by simp)
theorem E2(h:NS i nb ob g w p ls ts)(hb:ls.length<90000000)(l:Let)(vs E:S3)(hv:FSv g w vs l.lp)(hw:Rc g w E l.ed) :
  Calls prog 60 #[pt nb 0,.agg (FD l vs E)] w (NP i nb ob g w (.tuple #[]) p (ls++BZ i l 5) ts):=by
 obtain⟨x,lt,tl,U,V,hg⟩:=h;refine gI (fn:=f60) (TN i) g func60 hg (qN U (qO V (qR [] 9 [0,0] λG g1 w1 c1=>Ce 19 [(0,pt nb 0),(3,pt (G 0) 0),(5,iv 0)] [false,false,true] [⟨(G 0),.cells #[iv (l.kind:Int),iv (l.src:Int),iv (l.dst:Int),iv l.fa.r,iv l.fa.n,iv l.bN.bn,iv l.bN.b.r,iv l.bN.b.n,iv l.bN.w.k,iv l.bN.w.c,iv l.bN.w.s,iv l.bN.w.n,iv l.bN.w.v,S3.v vs,iv (l.bn:Int),S3.v E] 142,.z,false⟩] (λk S W e L=>∃ j:Nat,k=5-j/\j<=5/\e=[(0,pt nb 0),(3,pt (G 0) 0),(5,iv (j:Int))]/\L=[⟨(G 0),.cells #[iv (l.kind:Int),iv (l.src:Int),iv (l.dst:Int),iv l.fa.r,iv l.fa.n,iv l.bN.bn,iv l.bN.b.r,iv l.bN.b.n,iv l.bN.w.k,iv l.bN.w.c,iv l.bN.w.s,iv l.bN.w.n,iv l.bN.w.v,S3.v vs,iv (l.bn:Int),S3.v E] 142,.z,false⟩]/\NS i nb ob S W p (ls++BZ i l j) ts/\Cg w.heap.size (TN i) g w S W) (by kernel_rfl) (by kernel_rfl) (by kernel_rfl) (by kernel_rfl) 5 (λK=>?_) ?_)))
 .have C2:=c1;refine⟨0,rfl,by omega,rfl,rfl,?_,c1.nil _⟩;rw[show BZ i l 0=[]from rfl,na];exact(nsC U V C2 K)
 .rintro k gr wr _ zr _ ⟨j,rfl,hj,rfl,rfl,hM,hC⟩ J hJ;have hs:=aU i l j;obtain⟨xr,a3,a8,a,d,a1⟩:=hM;refine qN a (qO d (qR [] 5 [] λs3 g3 w3 m=>?_));by_cases h1:j<5
  .refine qI (decide ((j:Int)<5)) true (M' (by omega)) (qR [] 17 [1] λs4 g4 w4 A=>?_);by_cases T:(j:Int)≠(i:Int)
   .refine qI (((j:Int) != (i:Int))) true (by simpa using T) (qR [] 4 [0] λs5 g5 w5 M=>?_);have P:=(((hC.n m).n A).n M);refine Af λK=>?_;have X:NS i nb ob g5 w5 p (ls++BZ i l j) ts:=(nsC a d ((m.n A).n M) K);refine qG 3 (TN i) [true,false,false] (FR X (by simp;omega) l vs E (hv.ch P (BB i)) (hw.ch P (BB i)) j) ?_;rintro e' w6 ⟨g6,rfl,I,F⟩;refine⟨_,g6,rfl,F,I.new,?_⟩;replace F:=F.ret (B:=w.heap.size);rw[mH,<- aV (by omega)]at I
    obtain⟨x6,a2,a7,C,D,a0⟩:=I;refine qN C (qO D (qR [] 3 [] λs8 g8 w8 Q=>qV 0 (iv ((j:Int)+1)) (AI (x:=(.tmp 5)) (y:=(.const (iv 1))) (j:Int) 1 underlying3 (by omega)) (qR [] 2 [] λs9 g9 w9 R=>qB [true,false,false] λz H K=>hJ (5-(j+1)) _ _ _ z _ (by omega) ⟨j+1,rfl,by omega,rfl,rfl,?_,((((((hC.n m).n A).n M).trans F).n Q).n R)⟩ K)));have o:NS i nb ob g9 w9 p (ls++BZ i l (j+1)) ts:=(nsC C D (Q.n R) H);exact o
   .refine qI (((j:Int) != (i:Int))) false (by simpa using T) (qR [] 3 [] λa4 Y a9 q=>qV 0 (iv ((j:Int)+1)) (AI (x:=(.tmp 5)) (y:=(.const (iv 1))) (j:Int) 1 underlying3 (by omega)) (qR [] 2 [] λa5 N O t=>qB [true,false,false] λz H K=>hJ (5-(j+1)) _ _ _ z _ (by omega) ⟨j+1,rfl,by omega,rfl,rfl,?_,((((hC.n m).n A).n q).n t)⟩ K));have o:NS i nb ob N O p (ls++BZ i l j) ts:=(nsC a d (((m.n A).n q).n t) H);exact(by simpa[aT (show j=i by omega)]using o)
  .refine qI (decide ((j:Int)<5)) false (D' (by omega)) (qR [] 1 [] λa6 Z b0 u=>?_);obtain rfl:j=5:=by omega
   exact qF a d (m.n u) ((hC.n m).n u)
theorem Ov(h:NS i nb ob g w p ls ts) :
  Calls prog 86 #[pt nb 0] w λe w'=>e=.returned (.bool p.leads)/\Bw w w':=by
 obtain⟨x,lt,v,j,k,l⟩:=h;refine gI (fn:=f86) (TN i) g func86 l (qN j (qO k (qR [] 13 [24,0,2,4,6,8,10,0,12] λr m z c1=>?_)));by_cases a:p.an.fa=Bb
 .refine qT 7 (.bool false) (λ_=>(Ja (x:=(.tmp 8)) (y:=(.tmp 9)) p.an.fa Bb a)) (qR [] 17 [16,18,20,22,24,26,28,30,32,34,36,38,40,42,44,46] λs n A b=>qE (.bool false) λK=>⟨(by rw[show p.leads=false from D' (λh=>h.1 a)]),Cg.af (c1.trans b) (λ_ _=>P')⟩)
 .refine qT 7 (.bool true) (λ_=>(Jd (x:=(.tmp 8)) (y:=(.tmp 9)) p.an.fa Bb a)) (qR [] 13 [16,18,20,22,24,26,28,0,30,32,34,36,38,40,0] λt o B c=>qT 21 (.bool (decide (p.an.fa=p.vo.p))) (λ_=>(mm (x:=(.tmp 17)) (y:=(.tmp 23)) p.an.fa p.vo.p)) (qR [] 3 [44,46] λu q C d=>qE (.bool (decide (p.an.fa=p.vo.p))) λK=>⟨(by rw[show p.leads=decide (p.an.fa=p.vo.p)from nP.2 ⟨λh=>h.2,λh=>⟨a,h⟩⟩]),Cg.af ((c1.trans c).trans d) (λ_ _=>P')⟩))
theorem MA(h:NS i nb ob g w p ls ts)(u:p.bt.length<100000000)(to:Nat)(e:Int) :
  Calls prog 82 #[pt nb 0,iv (to:Int),iv e] w (NP i nb ob g w (.tuple #[]) (p.eb to e) ls ts):=by
 obtain⟨x,lt,M,c,j,v⟩:=h;refine gI (fn:=f82) (TN i) g func82 v (qN c (qO j (qR [] 11 [0,0,0,0] λb H N c1=>?_)));by_cases a:e=7
 .refine qI (e != 7) false (by simpa using a) (qR [] 15 [2,0,0,0,4,0,2] λo t A l=>Af λK=>?_);obtain⟨B,C⟩:=K.rX 2 (b 0) (.cells #[pt nb 0] 70) false (by kernel_rfl);obtain⟨D,E⟩:=K.rX 3 (b 1) (.cells #[iv (to:Int)] 3) false (by kernel_rfl);obtain⟨F,G⟩:=K.rX 4 (o 0) (.cells #[iv p.vo.p.r,iv p.vo.p.n] 75) true (by kernel_rfl);have q:NS i nb ob t A p ls ts:=(nsC c j (c1.n l) K);refine qS0 2 [false,false,true,true,true] (AR q u _ _ (.eb to p.vo.p) ⟨(b 0),(b 1),(o 0),rfl,⟨B,C⟩,⟨D,E⟩,⟨F,G⟩⟩) λI O Q y z d k s=>qR [] 1 [] λL J P m=>qE (.tuple #[]) λK=>?_;rw[show p.eb to e=p.wait (.eb to p.vo.p)from if_pos a];exact⟨_,rfl,(nsC d k m K),((((c1.nil (TN i)).n l).trans (s)).n m)⟩
 .refine qI (e != 7) true (by simpa using a) (qE (.tuple #[]) λK=>?_);rw[show p.eb to e=p from if_neg a];exact⟨_,rfl,(nsC c j c1 K),(c1.nil (TN i))⟩
def gh0:Gh:=⟨λ_=>.z,λ_=>0⟩
def QF(l:List Cmd)(c:Cmd):Int:=if c∈l then(l.idxOf c:Int)else -1
theorem QG:∀ {l:List Cmd} {j:Nat},l[j]?=some c->l.idxOf c<=j
 | [],j,h=>by cases h
 | d::l,0,h=>by simp only[nX,Y']at h;subst h;simp
 | d::l,j+1,h=>by
  have:=QG (l:=l) (j:=j) (by simpa using h);rw[List.idxOf_cons];cases d==c<;>simp<;>omega
theorem dJ(l:List Cmd)(c:Cmd):decide (0<=QF l c)=decide (c∈l):=by
 unfold QF;by_cases a:c∈l
 .rw[if_pos a,M' a];exact M' (by omega)
 .rw[if_neg a,D' a];rfl
theorem YT{l:List Cmd}(h:l[j]?=some c)(e:∀ i,i<j->l[i]?≠some c):QF l c=(j:Int):=by
 have b:c∈l:=nm h;have f:j<l.length:=(V'.1 h).1;unfold QF;rw[if_pos b]
 congr 1
 have a:l.idxOf c<l.length:=List.idxOf_lt_length_iff.2 b;have d:l[l.idxOf c]?=some c:=by rw[G' a,List.getElem_idxOf a]
 rcases pY (l.idxOf c) j with h3|h3|h3
 .exact absurd d (e _ h3)
 .exact h3
 .have:=QG h;omega
theorem Oq{l:List Cmd}(h:RdC w x l)(Y:l.length<100000000)(c:Cmd) :
  Calls prog 97 #[x.v,.agg #[iv c.k,iv c.c,iv c.s,iv c.n,iv c.v]] w λe w'=>e=.returned (iv (QF l c))/\Bw w w':=by
 have Z:=h.len;refine gI (fn:=f97) [] gh0 func97 (λ_ _=>⟨rfl,rfl⟩) (qR [] 13 [0,0] λo R w1 c1=>Ce 19 [(0,S3.v x),(3,pt (o 0) 0),(7,iv (x.n:Int)),(8,iv 0)] [true] [⟨(o 0),.cells #[iv c.k,iv c.c,iv c.s,iv c.n,iv c.v] 49,.z,false⟩] (λk F w' e L=>∃ j:Nat,k=l.length-j/\j<=l.length/\e=[(0,S3.v x),(3,pt (o 0) 0),(7,iv (x.n:Int)),(8,iv (j:Int))]/\L=[⟨(o 0),.cells #[iv c.k,iv c.c,iv c.s,iv c.n,iv c.v] 49,.z,false⟩]/\(∀ i,i<j->l[i]?≠some c)/\Cg w.heap.size [] gh0 w F w') (by kernel_rfl) (by kernel_rfl) (by kernel_rfl) (by kernel_rfl) l.length (λK=>?_) ?_)
 .exact⟨0,rfl,by omega,rfl,rfl,λi d=>absurd d (by omega),c1⟩
 .rintro k gr wr _ zr _ ⟨j,rfl,hj,rfl,rfl,hI,hC⟩ J hJ;refine qR [] 5 [] λs2 S w2 g=>?_;by_cases B:j<l.length
  .refine qI ((decide ((j:Int)<(x.n:Int)))) true (M' (by omega)) ?_;obtain⟨a,b⟩:∃ a,l[j]?=some a:=⟨_,G' B⟩;rcases h.ex with h2|⟨bx,ox,hxa,hbx,hcell⟩
   .exact absurd B (by rw[h2];simp)
   refine qR [] 13 [6,0,0,2,4] λs3 T w3 r=>qT 3 (pt bx (ox+5*j)) (λ_=>(My hxa j (by omega))) ?_;have I:=Cg.af (hC.trans (g.trans r)) (λ_ _=>P');refine qV 4 (.agg #[iv a.k,iv a.c,iv a.s,iv a.n,iv a.v]) (P8 a λi u N=>(I.cell (p:=⟨bx,ox+5*j+i,none⟩) hbx).trans (by rw[nO];exact hcell _ u (Pa b N))) (qT 5 (.bool (decide (c=a))) (λ_=>(mn (x:=(.tmp 11)) (y:=(.tmp 15)) c a)) (qR [] 1 [] λs6 U w6 A=>?_));by_cases m:c=a
   .refine qI (decide (c=a)) true (M' m) (qR [] 5 [] λs7 V w7 C=>qE (iv (j:Int)) λK=>⟨by rw[YT (by rw[m];exact b) hI],Cg.af (hC.trans (((g.trans r).trans A).trans C)) (λ_ _=>P')⟩)
   .refine qI (decide (c=a)) false (D' m) (qR [] 3 [] λs8 W w8 D=>qV 0 (iv ((j:Int)+1)) (AI (x:=(.tmp 8)) (y:=(.const (iv 1))) (j:Int) 1 underlying3 (by omega)) (qR [] 2 [] λs9 X w9 E=>qB [true] λz Q K=>hJ (l.length-(j+1)) _ _ _ z _ (by omega) ⟨j+1,rfl,by omega,rfl,rfl,λi d=>?_,hC.trans ((((g.trans r).trans A).trans D).trans E)⟩ K));rcases nG i j with h4|h4
    .exact hI i h4
    .rw[show i=j by omega,b];intro H;exact m (by simpa using H.symm)
  .refine qI ((decide ((j:Int)<(x.n:Int)))) false (D' (by omega)) (qR [] 5 [] λO G P q=>?_);have t:c∉l:=λM=>by obtain⟨i,d⟩:=nV.1 M;exact hI i (by have:=(V'.1 d).1;omega) d
   exact qE (iv (-1)) λK=>⟨by unfold QF;rw[if_neg t],Cg.af (hC.trans (g.trans q)) (λ_ _=>P')⟩
theorem F6{l:List Cmd}(h:RdC w x l)(m:l.length<100000000)(c:Cmd) :
  Calls prog 52 #[x.v,.agg #[iv c.k,iv c.c,iv c.s,iv c.n,iv c.v]] w λe w'=>e=.returned (.bool (decide (c∈l)))/\Bw w w':=by
 refine gI (fn:=f52) [] gh0 func52 (λ_ _=>⟨rfl,rfl⟩) (qR [] 9 [0,0,0] λq j r c1=>?_);have a:=Cg.af c1 (λ_ _=>P');refine qC 2 (Oq (h.af a) m c) ?_;rintro o t ⟨rfl,b⟩;refine⟨_,rfl,b,?_⟩;have d:=Cg.cF (B:=w.heap.size) (T:=[]) (g:=j) b;refine qR [] 3 [] λs3 p u i=>qE (.bool (decide (0<=QF l c))) λK=>⟨by rw[dJ],Cg.af ((c1.trans d).trans i) (λ_ _=>P')⟩
theorem UO(h:NS i nb ob g w p ls ts)(k:p.done<=p.ab.length) :
  Calls prog 35 #[pt nb 0] w λe w'=>∃ y:S3,e=.returned y.v/\RdC w' y (p.ab.take p.done)/\Bw w w':=by
 obtain⟨x,lt,s,a,j,l⟩:=h;have o:=a.ab.num;have c:=a.ab.rd;refine gI (fn:=f35) (TN i) g func35 l (qN a (qO j (qR [] 16 [12,0,2,4,6,8,0,10,12,14,16,18,0] λq m t c1=>qT 10 (S3.v (x.ab.cut 0 p.done)) (λ_=>(lx x.ab p.done (by have:=c.cap;omega))) (qR [] 2 [22] λr n u d=>?_))));have b:=Cg.af (c1.trans d) (λ_ _=>P');exact qE (S3.v (x.ab.cut 0 p.done)) λK=>⟨_,rfl,(c.af b).take k,b⟩
theorem Jp(h:NS i nb ob g w p ls ts)(q:ls.length<100000000)(to bn:Nat)(s:bn<=p.ab.length) :
  Calls prog 94 #[pt nb 0,iv (to:Int),iv (bn:Int)] w (NP i nb ob g w (.tuple #[]) p (ls++[{ BJ 5 with src:=i,dst:=to,bn:=bn,ed:=p.ab.drop bn }]) ts):=by
 obtain⟨x,lt,G,a,k,r⟩:=h;have C:=a.ab.num;refine gI (fn:=f94) (TN i) g func94 r (qN a (qO k (qR [] 10 [0] λD z H c1=>qV 9 (S3.v (x.ab.cut bn x.ab.n)) (jl x.ab bn (by omega)) (qR [] 1 [] λE o y e=>Af λK=>?_))));have d:=c1.n e;have l:NS i nb ob o y p ls ts:=(nsC a k d K);refine qS0 11 [false,false] (FR l q { BJ 5 with bn:=bn,ed:=p.ab.drop bn } s30 (x.ab.cut bn x.ab.n) ⟨Sv.nil _,λh=>absurd rfl h⟩ ((a.ab.rc.drop s).ch d) to) λA I L t u b c m=>qR [] 1 [] λF B J j=>qF b c j ((((c1.nil (TN i)).n e).trans (m)).n j)
theorem Ow(h:NS i nb ob g w p ls ts)(bn:Nat)(ed:List Cmd)(b:S3)(o:Rc g w b ed)(X:bn<=p.ab.length)(U:p.ab.length<100000000)(G:ed.length<100000000) :
  Calls prog 85 #[pt nb 0,iv (bn:Int),b.v] w (NP i nb ob g w (.tuple #[]) (p.jv bn ed) ls ts):=by
 obtain⟨x,lt,J,a,t,H⟩:=h;have I:=a.ab.num;have W:=o.len;have u:=o.cap;refine gI (fn:=f85) (TN i) g func85 H (qN a (qO t (qR [] 9 [0] λZ N w1 c1=>qV 7 (iv ((x.ab.n-bn:Nat):Int)) (l8 (x:=(.tmp 12)) (y:=(.tmp 13)) x.ab.n bn underlying3 (by omega) (by omega)) (qR [] 9 [] λs2 O w2 j=>?_))));by_cases T:x.ab.n-bn<b.n
 .refine qI ((decide (((x.ab.n-bn:Nat):Int)<(b.n:Int)))) true (M' (by omega)) ?_;obtain⟨k,V⟩:∃ k,k=x.ab.n-bn:=⟨_,rfl⟩;have A:k<ed.length:=by omega
  obtain⟨C,ow,l⟩:=o.addr A;refine qR [] 9 [13,0,2,4,6,8,10,0,12,14] λs3 P w3 q=>qT 8 (.slice (some ⟨C,ow+5*(x.ab.n-bn),none⟩) (b.n-(x.ab.n-bn)) (b.c-(x.ab.n-bn))) (λ_=>(lh l (x.ab.n-bn) (by omega) u)) ?_;have B:=(c1.n j).n q;refine KO 9 (x:=x.ab) 35 35 49 5 40 (.agg #[iv 0,iv 0,iv 0,iv 0,iv 0]) ⟨C,ow+5*(x.ab.n-bn),none⟩ (b.n-(x.ab.n-bn)) (b.c-(x.ab.n-bn)) (cmL (ed.drop (x.ab.n-bn))) (a.ab.ch B) (by kernel_rfl) (by kernel_rfl) (by kernel_rfl) underlying35 (by kernel_rfl) (by kernel_rfl) (by decide) (by omega) (by rw[BO,mM];omega) (Pb _) (λK=>ky l (o.ch B) _ (by omega)) (by unfold maxLen;omega) (by omega) ?_;intro L Q w6 F Y s M;have D:=s w.heap.size [.n 3 i] (E'.2 rfl);refine qR [.n 0 i] 5 [20,22,24,27,0,1] λs7 R w7 r=>qE (.tuple #[]) λK=>?_;have d:=((((c1.nil ([.n 3 i,.n 0 i]:List Tg)).n j).n q).m D).m r;have e:Tg.z∉([.n 3 i,.n 0 i]:List Tg):=by simp
  exact⟨_,rfl,⟨{ x with ab:=L },lt,J,K.nd 0 (a.tape.ch d e) (a.lp.ch d e) (BG a.aj d e) (Ci a.bt d e (by simp)) (a.ew.ch d) (by rw[show(p.jv bn ed).ab=p.ab++ed.drop (x.ab.n-bn)from by unfold Nod.jv;rw[I],Cw];exact F.ch r) (a.au.ch d) (a.bw.ch d) a.sh,t.ch d e (by simp<;>omega),K.new⟩,(((((c1.nil (TN i)).n j).n q).trans (D.mono (by simp[TN]))).trans (r.mono (by simp[TN])))⟩
 .refine qI ((decide (((x.ab.n-bn:Nat):Int)<(b.n:Int)))) false (D' (by omega)) (qR [] 1 [] λs9 S w9 E=>qE (.tuple #[]) λK=>?_);rw[show p.jv bn ed=p from by unfold Nod.jv;rw[nw (by omega),na]];exact⟨_,rfl,(nsC a t ((c1.n j).n E) K),(((c1.nil (TN i)).n j).n E)⟩
theorem R3(h:NS i nb ob g w p ls ts)(m:ls.length<90000000){b2 b3:Nat}(d:Box g w b1 #[pt nb 0] 70) :
  Calls prog 71 #[pt b1 0] w (NP i nb ob g w (.tuple #[]) p (ls++BZ i (BJ 6) 5) ts):=by
 obtain⟨x,lt,B,e,j,o⟩:=h;refine gI (fn:=f71) (TN i) g func71 o (qN e (qO j (Cr ⟨b1,.cells #[pt nb 0] 70,.z,false⟩ (λ_=>⟨d.r,d.z,λh=>(by cases h),λh=>absurd rfl h⟩) (by kernel_rfl) ?_)));refine qR [] 3 [2] λy t C c1=>qS 2 [false,false,true] e j c1 (λk=>E2 k m (BJ 6) s30 s30 ⟨Sv.nil _,λh=>absurd rfl h⟩ (Rc.nil _ _)) λu D F q s a b l=>qR [] 1 [] λA v E c=>qF a b c (((c1.nil (TN i)).trans (l)).n c)
theorem PB{to:Nat}{b:Bal}(h:NS i nb ob g w p ls ts)(B:ls.length<90000000)(e:Box g w b1 #[pt nb 0] 70)(j:Box g w b2 #[iv (to:Int)] 3)(k:Box g w b3 #[iv b.r,iv b.n] 75)  :
  Calls prog 122 #[pt b1 0,pt b2 0,pt b3 0] w (NP i nb ob g w (.tuple #[]) p (ls++[{ BJ 2 with fa:=b,src:=i,dst:=to }]) ts):=by
 obtain⟨x,lt,E,l,m,s⟩:=h;refine gI (fn:=f122) (TN i) g func122 s (qN l (qO m (Cr ⟨b1,.cells #[pt nb 0] 70,.z,false⟩ (λ_=>⟨e.r,e.z,λh=>(by cases h),λh=>absurd rfl h⟩) (by kernel_rfl) ?_)));refine Cr ⟨b2,.cells #[iv (to:Int)] 3,.z,false⟩ (λ_=>⟨j.r,j.z,λh=>(by cases h),λh=>absurd rfl h⟩) (by kernel_rfl) ?_;refine Cr ⟨b3,.cells #[iv b.r,iv b.n] 75,.z,false⟩ (λ_=>⟨k.r,k.z,λh=>(by cases h),λh=>absurd rfl h⟩) (by kernel_rfl) ?_;refine qR [] 5 [2,3,4] λC v F c1=>qS 4 [false,false,true,true,true] l m c1 (λo=>FR o (by omega) { BJ 2 with fa:=b } s30 s30 ⟨Sv.nil _,λh=>absurd rfl h⟩ (Rc.nil _ _) to) λy G I t u a c q=>qR [] 1 [] λD A H d=>qF a c d (((c1.nil (TN i)).trans (q)).n d)
theorem I1(h:NS i nb ob g w p ls ts)(G:ls.length<90000000){b3:Nat}(e:Box g w b1 #[pt nb 0] 70)(j:Box g w b2 #[pt lb 0] 143)(t:CP g w lb l) :
  Calls prog 89 #[pt b1 0,pt b2 0] w (NP i nb ob g w (.tuple #[]) p (ls++[{ BJ 4 with bN:=l.bN,src:=i,dst:=l.src }]) ts):=by
 obtain⟨x,lt,J,k,m,s⟩:=h;refine gI (fn:=f89) (TN i) g func89 s (qN k (qO m (Cr ⟨b1,.cells #[pt nb 0] 70,.z,false⟩ (λ_=>⟨e.r,e.z,λh=>(by cases h),λh=>absurd rfl h⟩) (by kernel_rfl) ?_)));refine Cr ⟨b2,.cells #[pt lb 0] 143,.z,false⟩ (λ_=>⟨j.r,j.z,λh=>(by cases h),λh=>absurd rfl h⟩) (by kernel_rfl) ?_;obtain⟨B,C,a,u,v⟩:=t;refine Cr ⟨lb,.cells (FD l B C) 142,.z,false⟩ (λ_=>⟨a.r,a.z,λh=>(by cases h),λh=>absurd rfl h⟩) (by kernel_rfl) ?_;refine qR [] 11 [10,0,2,2,3,4,6,8,4,10,3,12,14,16,4,18] λH D K c1=>qS 10 [false,false,true,true,true] k m c1 (λo=>FR o (by omega) { BJ 4 with bN:=l.bN } s30 s30 ⟨Sv.nil _,λh=>absurd rfl h⟩ (Rc.nil _ _) l.src) λE L N y A b c q=>qR [] 1 [] λI F M d=>qF b c d (((c1.nil (TN i)).trans (q)).n d)
theorem MR(h:NS i nb ob g w p ls ts)(H:ls.length<90000000){b3:Nat}(j:Box g w b1 #[pt nb 0] 70)(k:Box g w b2 #[pt lb 0] 143)(t:CP g w lb l) :
  Calls prog 91 #[pt b1 0,pt b2 0] w (NP i nb ob g w (.tuple #[]) p (ls++[{ BJ 6 with bn:=p.ab.length,src:=i,dst:=l.src }]) ts):=by
 obtain⟨x,lt,K,b,m,s⟩:=h;refine gI (fn:=f91) (TN i) g func91 s (qN b (qO m (Cr ⟨b1,.cells #[pt nb 0] 70,.z,false⟩ (λ_=>⟨j.r,j.z,λh=>(by cases h),λh=>absurd rfl h⟩) (by kernel_rfl) ?_)));refine Cr ⟨b2,.cells #[pt lb 0] 143,.z,false⟩ (λ_=>⟨k.r,k.z,λh=>(by cases h),λh=>absurd rfl h⟩) (by kernel_rfl) ?_;obtain⟨C,D,a,u,v⟩:=t;refine Cr ⟨lb,.cells (FD l C D) 142,.z,false⟩ (λ_=>⟨a.r,a.z,λh=>(by cases h),λh=>absurd rfl h⟩) (by kernel_rfl) ?_;have y:=b.ab.num;refine qR [] 13 [12,0,2,2,3,4,6,8,4,10,2,12,14,16,18,0,20,22] λI E L c1=>qS 12 [false,false,true,true,true] b m c1 (λo=>(show{ BJ 6 with bn:=x.ab.n,src:=i,dst:=l.src }=({ BJ 6 with bn:=p.ab.length,src:=i,dst:=l.src }:Let)from by rw[y])▸FR o (by omega) { BJ 6 with bn:=x.ab.n } s30 s30 ⟨Sv.nil _,λh=>absurd rfl h⟩ (Rc.nil _ _) l.src) λF M O A B c d q=>qR [] 1 [] λJ G N e=>qF c d e (((c1.nil (TN i)).trans (q)).n e)
theorem JX(h:NS i nb ob g w p ls ts)(H:ls.length<90000000){b3:Nat}(e:Box g w b1 #[pt nb 0] 70)(j:Box g w b2 #[pt lb 0] 143)(t:CP g w lb l)(y:l.bn<=p.ab.length) :
  Calls prog 93 #[pt b1 0,pt b2 0] w (NP i nb ob g w (.tuple #[]) p (ls++[{ BJ 5 with src:=i,dst:=l.src,bn:=l.bn,ed:=p.ab.drop l.bn }]) ts):=by
 obtain⟨x,lt,K,k,m,s⟩:=h;refine gI (fn:=f93) (TN i) g func93 s (qN k (qO m (Cr ⟨b1,.cells #[pt nb 0] 70,.z,false⟩ (λ_=>⟨e.r,e.z,λh=>(by cases h),λh=>absurd rfl h⟩) (by kernel_rfl) ?_)));refine Cr ⟨b2,.cells #[pt lb 0] 143,.z,false⟩ (λ_=>⟨j.r,j.z,λh=>(by cases h),λh=>absurd rfl h⟩) (by kernel_rfl) ?_;obtain⟨C,D,a,u,v⟩:=t;refine Cr ⟨lb,.cells (FD l C D) 142,.z,false⟩ (λ_=>⟨a.r,a.z,λh=>(by cases h),λh=>absurd rfl h⟩) (by kernel_rfl) ?_;refine qR [] 10 [9,0,2,2,3,4,6,8,4,10,3,12,14,16,4] λI E L c1=>qS 9 [false,false,true,true,true] k m c1 (λo=>Jp o (by omega) l.src l.bn y) λF M O A B b c q=>qR [] 1 [] λJ G N d=>qF b c d (((c1.nil (TN i)).trans (q)).n d)
theorem Ht{c:S3}{a:List Vt}(h:NS i nb ob g w p ls ts)(O:ls.length<90000000)(o:Box g w b1 #[pt nb 0] 70)(q:Box g w b2 #[pt lb 0] 143)(s:Box g w b3 #[S3.v c] 76)(C:CP g w lb l)(F:FSv g w c a) :
  Calls prog 83 #[pt b1 0,pt b2 0,pt b3 0] w (NP i nb ob g w (.tuple #[]) p (ls++[{ BJ 1 with fa:=l.fa,lp:=a,ed:=p.ab,src:=i,dst:=l.src }]) ts):=by
 obtain⟨x,lt,R,e,t,B⟩:=h;refine gI (fn:=f83) (TN i) g func83 B (qN e (qO t (Cr ⟨b1,.cells #[pt nb 0] 70,.z,false⟩ (λ_=>⟨o.r,o.z,λh=>(by cases h),λh=>absurd rfl h⟩) (by kernel_rfl) ?_)));refine Cr ⟨b2,.cells #[pt lb 0] 143,.z,false⟩ (λ_=>⟨q.r,q.z,λh=>(by cases h),λh=>absurd rfl h⟩) (by kernel_rfl) ?_;refine Cr ⟨b3,.cells #[S3.v c] 76,.z,false⟩ (λ_=>⟨s.r,s.z,λh=>(by cases h),λh=>absurd rfl h⟩) (by kernel_rfl) ?_;obtain⟨I,L,b,D,E⟩:=C;refine Cr ⟨lb,.cells (FD l I L) 142,.z,false⟩ (λ_=>⟨b.r,b.z,λh=>(by cases h),λh=>absurd rfl h⟩) (by kernel_rfl) ?_;refine qR [] 17 [16,0,2,2,3,4,6,8,5,10,3,12,14,16,5,18,4,20,2,22,24,26,28,0,30] λP A J c1=>Af λK=>?_;have d:=c1;have u:NS i nb ob A J p ls ts:=(nsC e t d K);refine qS0 16 [false,false,true,true,true,true] (FR u (by omega) { BJ 1 with fa:=l.fa,lp:=a,ed:=p.ab } c x.ab (F.ch d) (e.ab.rc.ch d) l.src) λM S U G H j k y=>qR [] 1 [] λQ N T m=>qF j k m (((c1.nil (TN i)).trans (y)).n m)
theorem Mb{a:Acc}{l:List Vt}:Dh a (v::l)=Dh (if AX a v=0 then⟨BN a v,Bu a v⟩else a) l:=rfl
theorem UA{l:List Vt}(h:l[j]?=some v):l.drop j=v::l.drop (j+1):=by
 obtain⟨a,b⟩:=V'.1 h;rw[<- b];exact ny a
theorem QE(h:NS i nb ob g w p ls ts){w0:World}(hB:Base w0 g w)(hT:Tabs w0)(j:Nat)(hj:j<5)(vs:List Vt)(y:S3)(hy:FSv g w y vs)(hb:(p.an.aj j).vs.length<100000000) :
  Calls prog 59 #[pt nb 11,iv (j:Int),y.v] w (NP i nb ob g w (.tuple #[]) { p with an:=p.an.rK j vs } ls ts):=by
 obtain⟨x,lt,G,m,hO,hg⟩:=h;refine gI (fn:=f59) (TN i) g func59 hg (qN m (qO hO (qR [] 18 [0,1,0,2,0] λD g1 w1 c1=>Ct 50 (λF H e L=>e=[(0,pt nb 11),(1,iv (j:Int)),(6,pt (D 0) 0),(23,S3.v (x.hv j)),(24,iv ((x.hv j).n:Int)),(25,iv 0)]/\L=[⟨nb,.cells (AF i ob p x) 97,.n 0 i,false⟩,⟨ob,.cells #[S3.v lt,S3.v G] 67,.n 50 0,false⟩,⟨(D 0),.cells #[iv p.an.fa.r,iv p.an.fa.n,S3.v y] 78,.l,false⟩]/\True/\Cg w.heap.size ([]:List Tg) g1 w1 F H) (by kernel_rfl) ?_ ?_)))
 .intro J hJ;rcases rk hj with rfl|rfl|rfl|rfl|rfl <;>
  (refine qR [] 6 [0] λs3 g3 w3 c3=>?_;exact qB [true,true,true] λz K0 K=>hJ _ _ _ z _ ⟨rfl,rfl,trivial,(c3.nil ([]:List Tg))⟩ K)
 rintro g2 w2 _ z2 _ ⟨rfl,rfl,_,c2⟩;have hH:=m.aj j hj;have hn:(x.hv j).n=(p.an.aj j).vs.length:=by obtain⟨a,b6,hh⟩:=hH.s.shape;simp only[Value.slice.injEq]at hh;exact hh.2.1
 obtain⟨l,hl⟩:∃ l,l=(p.an.aj j).vs:=⟨_,rfl⟩;rw[<- hl]at hH hn hb
 refine qR [] 1 [] λs4 g4 w4 c4=>Ce 50 [(0,pt nb 11),(1,iv (j:Int)),(6,pt (D 0) 0),(23,S3.v (x.hv j)),(24,iv ((x.hv j).n:Int)),(25,iv 0)] [true,true,true] [⟨nb,.cells (AF i ob p x) 97,.n 0 i,false⟩,⟨ob,.cells #[S3.v lt,S3.v G] 67,.n 50 0,false⟩,⟨(D 0),.cells #[iv p.an.fa.r,iv p.an.fa.n,S3.v y] 78,.l,false⟩] (λk F H e L=>∃ (k0:Nat) (a:Acc) (ya:S3),k=l.length-k0/\k0<=l.length/\e=[(0,pt nb 11),(1,iv (j:Int)),(6,pt (D 0) 0),(23,S3.v (x.hv j)),(24,iv ((x.hv j).n:Int)),(25,iv (k0:Int))]/\L=[⟨nb,.cells (AF i ob p x) 97,.n 0 i,false⟩,⟨ob,.cells #[S3.v lt,S3.v G] 67,.n 50 0,false⟩,⟨(D 0),.cells #[iv a.p.r,iv a.p.n,S3.v ya] 78,.l,false⟩]/\Dh a (l.drop k0)=Dh ⟨p.an.fa,vs⟩ l/\FSv F H ya a.vs/\Cg w.heap.size [] g w F H) (by kernel_rfl) (by kernel_rfl) (by kernel_rfl) (by kernel_rfl) l.length (λK=>?_) ?_
 .exact⟨0,⟨p.an.fa,vs⟩,y,rfl,by omega,rfl,rfl,rfl,(((hy.ch c1).ch c2).ch c4),((c1.trans c2).trans c4)⟩
 .rintro k gr wr _ zr _ ⟨k0,a,ya,rfl,hk0,rfl,rfl,hI,hya,hC⟩ J hJ;refine qR [] 5 [] λs5 g5 w5 A=>?_;by_cases h1:k0<l.length
  .refine qI ((decide ((k0:Int)<((x.hv j).n:Int)))) true (M' (by omega)) ?_;obtain⟨v,hv⟩:∃ v,l[k0]?=some v:=⟨_,G' h1⟩;have W:=hH.ch hC;obtain⟨bx,ox,X,d2,a8⟩:=W.s.spot k0 v hv;refine qR [] 5 [] λs6 g6 w6 E=>qV 0 (pt bx (ox+8*k0)) (Va X k0 (by omega)) ?_;have a9:=((W.ch A).ch E).s.spot k0 v hv;obtain⟨b5,d4,o,b3,u⟩:=a9;rw[X]at o
   simp only[Y',Addr.mk.injEq,and_true]at o;obtain⟨rfl,rfl⟩:=o;refine qV 1 (.agg #[iv v.bn,iv v.b.r,iv v.b.n,iv v.w.k,iv v.w.c,iv v.w.s,iv v.w.n,iv v.w.v]) (eQ v u) (qR [] 7 [0,0,3,0,2,3] λs8 g8 w8 V=>Af λa0=>?_);have a7:=((((hya.ch A).ch E).ch V)).s;have a5:=hB.ch (hC.trans ((A.trans E).trans V)) (by simp);have a6:∀ z,w8.heap.size<=z->g8.t z=.z:=λz hz=>(a0.new z hz).1;refine qC 2 (Cv a.p _ a.vs v w8 a7 (a5.tn hT)) ?_;rintro e' e4 ⟨f3,rfl,Y,b4,M⟩;refine⟨_,rfl,M,?_⟩;have C:=Cg.cF (B:=w.heap.size) (T:=[]) (g:=g8) M;obtain⟨ys,rfl,d3,b0⟩:=DZ Y a6 (by omega);refine qR [] 12 [0,0,4,0] λd5 b7 e5 q=>?_;by_cases h2:AX a v=0
   .refine qI (((AX a v)==0)) true (by simpa using h2) (qR [] 6 [4,2,0] λd6 b8 e6 N=>qV 0 (iv ((k0:Int)+1)) (AI (x:=(.tmp 25)) (y:=(.const (iv 1))) (k0:Int) 1 underlying3 (by omega)) (qR [] 2 [] λd7 b9 e7 O=>qB [true,true,true,false,false] λz K0 K=>hJ (l.length-(k0+1)) _ _ _ z _ (by omega) ⟨k0+1,⟨BN a v,Bu a v⟩,ys,rfl,by omega,rfl,rfl,?_,(((b0.ch q).ch N).ch O),hC.trans ((((((A.trans E).trans V).trans C).trans q).trans N).trans O)⟩ K));rw[<- hI,UA hv,Mb,if_pos h2]
   .refine qI (((AX a v)==0)) false (by simpa using h2) (qR [] 3 [] λd8 c0 e8 P=>qV 0 (iv ((k0:Int)+1)) (AI (x:=(.tmp 25)) (y:=(.const (iv 1))) (k0:Int) 1 underlying3 (by omega)) (qR [] 2 [] λd9 c7 e9 Q=>qB [true,true,true,false,false] λz K0 K=>hJ (l.length-(k0+1)) _ _ _ z _ (by omega) ⟨k0+1,a,ya,rfl,by omega,rfl,rfl,?_,(((((((hya.ch A).ch E).ch V).ch C).ch q).ch P).ch Q),hC.trans ((((((A.trans E).trans V).trans C).trans q).trans P).trans Q)⟩ K));rw[<- hI,UA hv,Mb,if_neg h2]
  .refine qI ((decide ((k0:Int)<((x.hv j).n:Int)))) false (D' (by omega)) ?_;obtain rfl:k0=l.length:=by omega
   rw[oF]at hI
   refine qR [] 8 [8,0,2,4,6,10,12] λe0 a3 b1 R=>Ct 50 (λF H e L=>e=[(0,pt nb 11)]/\L=[⟨nb,.cells (AF i ob ({ p with an:={ p.an with oh:=upN p.an.oh j true,aj:=upN p.an.aj j a } }) ({ x with hv:=upN x.hv j ya })) 97,.n 0 i,false⟩,⟨ob,.cells #[S3.v lt,S3.v G] 67,.n 50 0,false⟩,⟨(D 0),.cells #[iv a.p.r,iv a.p.n,S3.v ya] 78,.l,false⟩]/\True/\Cg w.heap.size ([.n 0 i]:List Tg) a3 b1 F H) (by kernel_rfl) ?_ ?_
   .intro J hJ;rcases rk hj with rfl|rfl|rfl|rfl|rfl <;>
    (refine qR [] 3 [14,18,20] λe1 c9 f0 U=>?_;exact Dq 4 8 (by kernel_rfl) (by(refine qR [.n 0 i] 5 [2,17,0,1,22,25,0,1] λe2 d0 f1 a1=>?_;exact qB [true,true,true] λz K0 K=>hJ _ _ _ z _ ⟨rfl,rfl,trivial,((U.nil ([.n 0 i]:List Tg)).trans a1)⟩ K)) (by(refine qR [.n 0 i] 5 [0,1,9,2,22,25,0,1] λe3 d1 f2 a2=>?_;exact qB [true,true,true] λz K0 K=>hJ _ _ _ z _ ⟨rfl,rfl,trivial,((U.nil ([.n 0 i]:List Tg)).trans a2)⟩ K)))
   rintro a4 b2 _ f4 _ ⟨rfl,rfl,_,S⟩;refine qE (.tuple #[]) λK=>?_;obtain⟨q1,q2,q3⟩:=K.rY 0 nb (.cells (AF i ob { p with an:={ p.an with oh:=upN p.an.oh j true,aj:=upN p.an.aj j a } } { x with hv:=upN x.hv j ya }) 97) 0 i (by kernel_rfl);obtain⟨q4,q5,q6⟩:=K.rY 1 ob (.cells #[S3.v lt,S3.v G] 67) 50 0 (by kernel_rfl);have hE:p.an.rK j vs={ p.an with oh:=upN p.an.oh j true,aj:=upN p.an.aj j a }:=by unfold Rnd.rK;rw[<- hl,<- hI];rfl
   rw[hE];have d:Cg w.heap.size [.n 0 i] g w a4 b2:=((((hC.nil [.n 0 i]).n A).n R).trans S);have I:Tg.z∉[Tg.n 0 i]:=by simp
   have Z:=(((hya.ch A).ch R).ch S);refine⟨_,rfl,⟨{ x with hv:=upN x.hv j ya },lt,G,⟨q1,q2,q3,m.tape.ch d I,m.lp.ch d I,?_,Ci m.bt d I (by simp),m.ew.ch d,m.ab.ch d,m.au.ch d,m.bw.ch d,m.sh⟩,⟨q4,q5,q6,DY hO.br d I (by simp),hO.eo.ch d⟩,K.new⟩,d.mono (by simp[TN])⟩;intro k hk;show FSv _ _ (upN x.hv j ya k) (upN p.an.aj j a k).vs;unfold upN;split
   .exact Z
   .exact(m.aj k hk).ch d I
end
end
end Go.Proofs.YtogibonjmbhliaaGreatDoor
