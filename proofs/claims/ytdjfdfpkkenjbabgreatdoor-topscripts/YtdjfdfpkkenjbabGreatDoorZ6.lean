/- Part 6 of the walk. -/
import Derived.Test.YtdjfdfpkkenjbabGreatDoorZ5
set_option maxRecDepth 100000
set_option maxHeartbeats 4000000
open Go.Proofs.Tryz
set_option linter.unusedVariables false
namespace Go.Proofs.YtdjfdfpkkenjbabGreatDoor
section
open Go.RowKit
section
variable{B cap e n p sz:Nat}{P:Program}{a:Option Addr}{l:List Vt}{s:Int}{v:Vt}{w:World}{xs:List Value}{y:Value}
theorem Sv.cells{ad:Addr}{m:List Vt}(h:Sv w (.slice (some ad) n cap) m):∀ j u,(vtL m)[j]?=some u->w.cell? (ad.add j)=some u:=by
 intro j u d;obtain⟨⟨a,l,e,o,p,f⟩,_⟩:=h;simp only[Value.slice.injEq]at e;obtain⟨rfl,rfl,rfl⟩:=e;rcases f with rfl|⟨b,off,hab,_,hcell⟩
 .simp[vtL]at d
 .obtain rfl:ad=⟨b,off,none⟩:=by simpa using hab
  obtain⟨v,g,i⟩:=bF m j u d;have c:(⟨b,off,none⟩:Addr).add j=⟨b,off+j,none⟩:=by unfold Addr.add;split<;>simp_all
  rw[c];have k:=hcell (j/8) v g (j%8) u i
  rwa [show off+8*(j/8)+j%8=off+j by omega]at k
theorem QT(w:World)(b s B C e:Nat)(t:P.underlying s=some (.slice e))(o:(P.info? e).map (·.size)=some 8)(g n:Nat)(D:List Value)(f:w.ownsRow b e 8 (.slice (some ⟨g,0,none⟩) n n) n D)(u:Value)(m:List Vt)(c:m.length=n)(v:Sv w u m) :
  ∃ w',(Builtin.copy_ #[s,B] C #[.slice (some ⟨g,0,none⟩) n n,u]).run P w=.ok (goInt n) w'/\w'.ownsRow b e 8 (.slice (some ⟨g,0,none⟩) n n) n (vtL m)/\Below g w w':=by
 obtain⟨i,h,y⟩:∃ i,P.info? e=some i/\i.size=8:=by
  cases h:P.info? e with
  | none=>rw[h]at o;cases o
  | some i=>rw[h]at o;exact⟨i,rfl,by simpa using o⟩
 rcases f.2 with⟨h0,_⟩|⟨g',cap,cur,hvv,hbg,hg,hnc,hcm,hcs,ht⟩
 .cases h0
 .simp only[Value.slice.injEq,P',Addr.mk.injEq]at hvv;obtain⟨⟨rfl,_⟩,_,rfl⟩:=hvv;have l:=v;obtain⟨⟨a,x,rfl,F,A,E⟩,_⟩:=v;rw[c]at l ⊢
  cases a with
  | none =>
   have p:=A rfl;subst p;have q:n=0:=by omega
   subst q;have r:m=[]:=mG c;subst r;refine⟨w,?_,⟨rfl,.inr ⟨g,0,cur,rfl,hbg,hg,hnc,hcm,hcs,by simp[vtL]⟩⟩,Below.refl _ _⟩;simp[Builtin.copy_,run_underlying t,Builtin.lenOf,Builtin.firstCells,sizeOf,typeInfo,h,storeCells]
  | some ad =>
   have z:=run_firstCells_some (P:=P) w 8 n ad n x (vtL m) (by rw[CE,c]) l.cells;have j:=run_storeCells_at P g 0 e (vtL m) 0 cur w hg (by rw[CE,c];omega) (Ve m);have d:(cur.toList.take (0+0)++vtL m++cur.toList.drop (0+0+(vtL m).length))=vtL m:=by
    rw[CE,c,nu (by rw[om];omega)];simp
   rw[d]at j
   refine⟨w.setRow g (vtL m).toArray,?_,⟨by rw[CE,c],.inr ⟨g,n,(vtL m).toArray,rfl,hbg,setRow_heap w g cur _ e _ hg,A' _,hcm,by simp[CE,c],?_⟩⟩,?_⟩
   .simp[Builtin.copy_,run_underlying t,Builtin.lenOf,sizeOf,typeInfo,h,y,z,j]
   .rw[mV (by simp[CE,c])]
   .exact⟨rfl,rfl,rfl,by simp,λk G=>setRow_other w g k _ (by omega)⟩
theorem M1(w:World){i:Array Oper}{rest:List Oper}{o:Oper}{a:Act}{Q:Exit->Act->World->Prop}(k:o.guard=none)(d s:Operand)(j p:TypeId)(x:o.op=.call { callee:=.builtin .copy,args:=#[d,s],argTypes:=#[j,p] })(b e:Nat)(z:P.underlying j=some (.slice e))(y:(P.info? e).map (·.size)=some 8)(g n:Nat)(q:List Value)(t:a.eval d=.slice (some ⟨g,0,none⟩) n n)(c:w.ownsRow b e 8 (.slice (some ⟨g,0,none⟩) n n) n q)(u:Value)(l:a.eval s=u)(m:List Vt)(v:m.length=n)(A:Sv w u m)(h:∀ w',w'.ownsRow b e 8 (.slice (some ⟨g,0,none⟩) n n) n (vtL m)->Below g w w'->wpList P i Q rest (a.put o.dst (goInt n)) w'):wpList P i Q (o::rest) a w:=by
 refine wpList_plain k λK r=>?_;obtain⟨w',f,B,C⟩:=QT (P:=P) w b j p o.type e z y g n q c u m v A;unfold Oper.wp execOp;simp only[x,resolve,invoke,builtin,Sem.run_bind,Sem.run_pure,Result.andThen_ok,po,mT,nJ,t,l,f];exact r _ _ (h w' B C)
theorem MA(w:World){f:Array Oper}{rest:List Oper}{o:Oper}{a:Act}{Q:Exit->Act->World->Prop}(u:o.guard=none)(l c:Operand)(t:TypeId)(g:o.op=Op.makeSlice t l c)(b:Nat)(e:TypeId)(q:P.underlying t=some (.slice e))(d:(P.info? e).map (λi=>(i.zero,i.size,i.bytes))=some (some zVt,8,64))(n:Nat)(x:a.eval l=.int .i64 (n:Int))(s:a.eval c=.int .i64 (n:Int))(A:n<=2199023255488)(m:b<=w.heap.size)(r:∀ w',Hid (∃ xs,w'.ownsRow b e 8 (.slice (some ⟨w.heap.size,0,none⟩) n n) n xs)->w.grownBy w' none->wpList P f Q rest (a.put o.dst (.slice (some ⟨w.heap.size,0,none⟩) n n)) w'):wpList P f Q (o::rest) a w:=by
 obtain⟨y,v,h,j,k⟩:=info_parts d;refine wpList_make_full w u l c t g b e y zVt 8 q v h j _ _ _ _ n x s rfl rfl (by rw[k];omega) (by unfold maxLen;omega) m (λw' z p=>r w' ⟨_,z⟩ p)
theorem Fs{b a c:Nat}{v:Value}(h:w.ownsRow b e c v n xs)(d:a<=b):w.ownsRow a e c v n xs:=by
 refine⟨h.1,?_⟩;rcases h.2 with h2|⟨g,cap,cur,hv,hbg,hr⟩
 .exact .inl h2
 .exact .inr ⟨g,cap,cur,hv,mI d hbg,hr⟩
theorem vt8:(prog.info? 184).map (·.size)=some 8:=by kernel_rfl
theorem RR(x:Value)(l:List Vt)(w:World)(h:Sv w x l) :
  Calls prog 180 #[x] w λe w'=>∃ x',e=.returned x'/\w'.ownsRow w.heap.size 184 8 x' l.length (vtL l)/\Bw w w':=by
 have b:=h.len;obtain⟨a,v,rfl⟩:=h.shape;obtain⟨N,f⟩:∃ N,l.length=N:=⟨_,rfl⟩;have n:Hid (l.length=N):=f;rw[f]at h b ⊢
 clear f;go_enter func180,ntmps180
 go_wp2_with ((with_reducible (refine CA ?_));at_make;refine MA _ rfl _ _ 124 rfl w.heap.size 184 underlying124 E2 N rfl rfl b (A' _) ?_)
 intro m c q;have i:Bw w m:=(Below.refl _ _).grown q (A' _) (λk s=>by cases s);have r:=h.ab i;obtain⟨u,c⟩:=c.out;have g:Hid (m.ownsRow w.heap.size 184 8 (.slice (some ⟨w.heap.size,0,none⟩) N N) N u):=c;clear c;go_wp2_with ((with_reducible (refine CA ?_));refine M1 _ rfl _ _ 124 124 rfl w.heap.size 184 underlying124 vt8 w.heap.size N _ rfl g.out _ rfl l n.out r ?_)
 intro t j o;have d:Hid (t.ownsRow w.heap.size 184 8 (.slice (some ⟨w.heap.size,0,none⟩) N N) N (vtL l)):=j;have p:=i.trans o;clear j g;go_wp2
 go_ret;exact⟨_,rfl,d.out,p⟩
theorem Sv.first(h:Sv w (.slice a n cap) l)(i:Nat)(v:Vt)(e:l[i]?=some v):∃ b off,a=some ⟨b,off,none⟩/\b<w.heap.size/\w.cell? ⟨b,off+8*i,none⟩=some (.int .i64 v.an):=by
 obtain⟨b,off,c,d,f⟩:=h.spot i v e;exact⟨b,off,c,d,f 0 _ rfl⟩
theorem To(f g:Nat)(a:Option Addr)(n c:Nat)(l:List Vt)(s:Int)(i:Nat)(v:Vt)(w:World)(t:l.length=n)(j:l[i]?=some v)(h:Sv w (.slice a n c) l)(c1:w.cell? ⟨f,0,none⟩=some (.slice a n c))(p:w.cell? ⟨g,0,none⟩=some (.int .i64 s)) :
  Calls prog 233 #[.int .i64 (i:Int),.pointer (some ⟨f,0,none⟩),.pointer (some ⟨g,0,none⟩)] w λe w'=>e=.returned (.bool (decide (s<=v.an)))/\Bw w w':=by
 obtain⟨b,d,rfl,r,q⟩:=h.first i v j;have hin:i<n:=by have:=(Q'.1 j).1;omega
 have o:=Jp b d n c i hin;have k:=Below.refl w.heap.size w;go_enter func233,ntmps233
 go_wp2_with fail
 go_quiet (fail)
 have m:Bw w (w.drewN nq):=Ak k nq;go_wp2
 go_ret;exact⟨Aj (by simp),m⟩
theorem T3(o q:Nat)(a:Option Addr)(n f:Nat)(l:List Vt)(s:Int)(w:World)(C:l.length=n)(M:BH l)(h:Sv w (.slice a n f) l)(N:o<w.heap.size)(O:q<w.heap.size)(c1:w.cell? ⟨o,0,none⟩=some (.slice a n f))(H:w.cell? ⟨q,0,none⟩=some (.int .i64 s)) :
  Calls prog 232 #[.int .i64 (n:Int),.func (.func 233) #[] #[.pointer (some ⟨o,0,none⟩),.pointer (some ⟨q,0,none⟩)]] w λe w'=>∃ p:Nat,e=.returned (.int .i64 (p:Int))/\Plc l s p/\Bw w w':=by
 have t:=h.len;rw[C]at t
 have y:Hid (l.length=n):=C;clear C;go_enter func232,ntmps232
 go_wp2_with fail
 go_loopw [5,6] (λiv D wr=>∃ i j:Nat,i<=j/\j<=n/\iv=.int .i64 (i:Int)/\D=.int .i64 (j:Int)/\(∀ (k:Nat) (v:Vt),k<i->l[k]?=some v->v.an<s)/\(∀ (k:Nat) (v:Vt),j<=k->l[k]?=some v->s<=v.an)/\Bw w wr) (λiv D _=>(intOf D-intOf iv).toNat)
 case atStart=>exact⟨0,n,by omega,by omega,rfl,rfl,λk v K=>by omega,λk v K g=>by have:=(Q'.1 g).1;have:=y.out;omega,Below.refl _ _⟩
 case round =>
  obtain⟨i,j,I,J,rfl,rfl,u,r,b⟩:=hrel;have d:Hid (∀ (k:Nat) (v:Vt),k<i->l[k]?=some v->v.an<s):=u;have c:Hid (∀ (k:Nat) (v:Vt),j<=k->l[k]?=some v->s<=v.an):=r;clear u r;by_cases L:i<j
  .have hlt':(i:Int)<(j:Int):=by omega
   go_wp2_with fail
   obtain⟨m,F⟩:∃ m:Nat,((i:Int)+(j:Int))/2=(m:Int):=⟨(i+j)/2,by omega⟩;rw[F];have P:i<=m:=by omega
   have Q:m<j:=by omega
   clear F;obtain⟨v,g⟩:∃ v,l[m]?=some v:=⟨_,H' (by have:=y.out;omega)⟩;refine(To o q a n f l s m v wr y.out g (h.ab b) ((b.cell (p:=⟨o,0,none⟩) N).trans c1) ((b.cell (p:=⟨q,0,none⟩) O).trans H)).mono ?_;rintro e R ⟨rfl,G⟩;have E:=b.trans (G.mono b.size);obtain⟨A,B⟩:=Plc.half M g d.out c.out;by_cases x:s<=v.an
   .rw[N' x];have z:Hid (∀ (k:Nat) (v:Vt),m<=k->l[k]?=some v->s<=v.an):=B x;clear A B g x;go_wp2
    go_roundw
    case rel=>exact⟨i,m,by omega,by omega,rfl,rfl,d.out,z.out,E⟩
    case measure=>simp[intOf];omega
   .rw[G' x];have z:Hid (∀ (k:Nat) (v:Vt),k<m+1->l[k]?=some v->v.an<s):=A (by omega);clear A B g x;go_wp2
    go_roundw
    case rel=>exact⟨m+1,j,by omega,by omega,by go_num,rfl,z.out,c.out,E⟩
    case measure=>simp[intOf];omega
  .obtain rfl:i=j:=by omega
   go_wp2
   go_ret;exact⟨i,rfl,⟨by have:=y.out;omega,d.out,c.out⟩,b⟩
theorem JZ(x:Value)(l:List Vt)(s:Int)(w:World)(u:BH l)(h:Sv w x l) :
  Calls prog 214 #[x,.int .i64 s] w λe w'=>∃ p:Nat,e=.returned (.int .i64 (p:Int))/\Plc l s p/\Bw w w':=by
 obtain⟨a,b,rfl⟩:=h.shape;obtain⟨n,f⟩:∃ n,l.length=n:=⟨_,rfl⟩;rw[f]at h ⊢
 have m:Hid (l.length=n):=f;clear f;have j:=heap_alloc2_old w (.cells #[.slice a n b] 124) (.cells #[.int .i64 s] 3);have k:=heap_alloc2_new w (.cells #[.slice a n b] 124) (.cells #[.int .i64 s] 3);have c:Bw w ((w.alloc (.cells #[.slice a n b] 124)).alloc (.cells #[.int .i64 s] 3)):=((Below.refl _ _).alloc (A' _) _).alloc (by simp) _;generalize g:(w.alloc (.cells #[.slice a n b] 124)).alloc (.cells #[.int .i64 s] 3)=W at j k c;have z:W.heap.size=w.heap.size+2:=by rw[<- g];simp
 have c1:W.cell? ⟨w.heap.size,0,none⟩=some (.slice a n b):=cell_of_row _ _ 0 _ _ _ j;have r:W.cell? ⟨w.heap.size+1,0,none⟩=some (.int .i64 s):=cell_of_row _ _ 0 _ _ _ k;have d:=h.ab c;go_enter func214,ntmps214
 go_wp2_with fail
 clear g;refine(T3 w.heap.size (w.heap.size+1) a n b l s W m.out u d (by omega) (by omega) c1 r).mono ?_;rintro e v ⟨p,rfl,i,q⟩;have t:=c.trans (q.mono c.size);have o:Hid (Plc l s p):=i;clear i;go_wp2
 go_ret;exact⟨p,rfl,o.out,t⟩
def L8(l:List Vt)(p:Nat)(s:Int):Bool:=match l[p]? with|some v=>decide (v.an=s)|none=>false
theorem Jf(h:l[p]?=some v):L8 l p s=decide (v.an=s):=by unfold L8;rw[h]
theorem NB(h:l[p]?=none):L8 l p s=false:=by unfold L8;rw[h]
theorem NC(h:L8 l p s=true):∃ v,l[p]?=some v/\v.an=s:=by
 cases hu:l[p]? with
 | none=>rw[NB hu]at h;cases h
 | some v=>rw[Jf hu]at h;exact⟨v,rfl,nX h⟩
theorem L9(h:L8 l p s=false):∀ v,l[p]?=some v->v.an≠s:=by
 intro v a;rw[Jf a]at h
 exact of_decide_eq_false h
theorem JP(x:Value)(l:List Vt)(p:Nat)(s:Int)(w:World)(h:Sv w x l) :
  Calls prog 215 #[x,.int .i64 (p:Int),.int .i64 s] w λe w'=>e=.returned (.bool (L8 l p s))/\w'=w:=by
 obtain⟨a,g,rfl⟩:=h.shape;obtain⟨n,c⟩:∃ n,l.length=n:=⟨_,rfl⟩;rw[c]at h ⊢
 by_cases j:p<n
 .obtain⟨v,hv⟩:∃ v,l[p]?=some v:=⟨_,H' (by omega)⟩;obtain⟨b,f,rfl,m,k⟩:=h.first p v hv;have i:=Jp b f n g p j;have d:(p:Int)<(n:Int):=by omega
  rw[Jf hv];clear c hv h;go_enter func215,ntmps215
  go_wp2
  go_ret;exact⟨Aj (by first|rfl|simp),rfl⟩
 .have hv:l[p]?=none:=oC (by omega);have d:¬ (p:Int)<(n:Int):=by omega
  rw[NB hv];clear c hv h;go_enter func215,ntmps215
  go_wp2
  go_ret;exact⟨rfl,rfl⟩
theorem Sv.rA(h:Sv w (.slice a n cap) l)(d f:Nat)(j:d<=f)(g:f<=l.length):Sv w (sliced a d f cap 8) ((l.take f).drop d):=by
 obtain⟨⟨r,k,e,t,q,o⟩,p⟩:=h;simp only[Value.slice.injEq]at e;obtain⟨rfl,rfl,rfl⟩:=e;have m:((l.take f).drop d).length=f-d:=by rw[mJ,mH];omega
 cases a with
 | none =>
  have c0:=q rfl;subst c0;have s:l.length=0:=by omega
  refine⟨⟨_,_,by rw[m];rfl,by omega,λ_=>by omega,.inl (mG (by omega))⟩,by omega⟩
 | some ad =>
  refine⟨⟨_,_,by rw[m];rfl,by omega,(by intro h;split at h<;>simp at h),?_⟩,by omega⟩;rcases Nat.eq_or_lt_of_le j with he|hlt
  .exact .inl (mG (by omega))
  .rcases o with rfl|⟨b,off,e2,hbs,hcell⟩
   .simp at g;omega
   .simp only[P']at e2;subst e2;refine .inr ⟨b,off+d*8,?_,hbs,λi v c=>?_⟩
    .rw[if_neg (by omega)];simp[Addr.add]
    .rw[nN,nQ]at c
     split at c
     .have:=hcell (d+i) v c
      rwa [show off+8*(d+i)=off+d*8+8*i by omega]at this
     .cases c
theorem Sv.gm(h:Sv w (.slice a n cap) l)(b:Nat)(c:b<=l.length) :
  ∃ a' c',(∀ W,(Instr.slice 124 (.slice a n cap) none (some (.int .i64 (b:Int))) none).run prog W=.ok (.slice a' b c') W)/\Sv w (.slice a' b c') (l.take b):=by
 have g:=h.rA 0 b (by omega) c;obtain⟨⟨a',d,e,j,k,i⟩,f⟩:=h;simp only[Value.slice.injEq]at e;obtain⟨rfl,rfl,rfl⟩:=e;refine⟨_,_,λW=>?_,by simpa[sliced]using g⟩;rw[run_slice_h (P:=prog) W 124 a _ cap underlying124 .i64 _ (by omega) (by omega)];rw[RW,T4];simp[Result.andThen,sliced]
theorem Sv.from(h:Sv w (.slice a n cap) l)(b:Nat)(c:b<=l.length) :
  ∃ a' c',(∀ W,(Instr.slice 124 (.slice a n cap) (some (.int .i64 (b:Int))) none none).run prog W=.ok (.slice a' (n-b) c') W)/\Sv w (.slice a' (n-b) c') (l.drop b):=by
 have g:=h.rA b l.length c (A' _);obtain⟨⟨a',d,e,j,k,i⟩,f⟩:=h;simp only[Value.slice.injEq]at e;obtain⟨rfl,rfl,rfl⟩:=e;refine⟨_,_,λW=>?_,by simpa[sliced]using g⟩;rw[run_slice_l (P:=prog) W 124 a _ cap underlying124 .i64 _ (by omega) (by omega)];rw[RW,T4];simp[Result.andThen,sliced]
theorem EX(w:World){f:Array Oper}{rest:List Oper}{o:Oper}{a:Act}{Q:Exit->Act->World->Prop}(v:o.guard=none)(l c:Operand)(t:TypeId)(g:o.op=Op.makeSlice t l c)(b:Nat)(e:TypeId)(q:P.underlying t=some (.slice e))(d:(P.info? e).map (λi=>(i.zero,i.size,i.bytes))=some (some zVt,8,64))(C:Int)(n:Nat)(y:a.eval l=.int .i64 0)(u:a.eval c=.int .i64 C)(r:C=(n:Int))(B:n<=2199023255500)(m:b<=w.heap.size)(s:∀ w',Hid (w'.ownsRow b e 8 (.slice (some ⟨w.heap.size,0,none⟩) 0 n) ([]:List Vt).length (vtL []))->w.grownBy w' none->wpList P f Q rest (a.put o.dst (.slice (some ⟨w.heap.size,0,none⟩) 0 n)) w'):wpList P f Q (o::rest) a w:=by
 obtain⟨z,x,h,j,k⟩:=info_parts d;exact wpList_make_own w v l c t g b e z zVt 8 q x h j _ _ C n y u r (by rw[k];omega) (by unfold maxLen;omega) m (λw' A p=>s w' A p)
theorem Pv(x:Value)(l:List Vt)(v:Vt)(w:World)(hr:BH l)(h:Sv w x l) :
  Calls prog 185 #[x,.agg (vtA v)] w λe w'=>∃ x',e=.returned x'/\w'.ownsRow w.heap.size 184 8 x' (BA l v).length (vtL (BA l v))/\Bw w w':=by
 have Z:=h.len;obtain⟨a,cp,rfl⟩:=h.shape;obtain⟨n,hn⟩:∃ n,l.length=n:=⟨_,rfl⟩;rw[hn]at h Z ⊢
 have R:Hid (l.length=n):=hn;clear hn;have P:Bw w (w.alloc (.cells (vtA v) 184)):=(Below.refl _ _).alloc (A' _) _;have B:=heap_alloc_new w (.cells (vtA v) 184);have M:=j6 v;have HU:Hid (∀ p,Plc l v.an p->L8 l p v.an=true->BA l v=l.take p++[v]++l.drop (p+1)/\p+1<=l.length):=λp E D=>by
  obtain⟨u,hu,he⟩:=NC D;exact⟨by rw[E.has hu he];simp,by have:=(Q'.1 hu).1;omega⟩
 have HN:Hid (∀ p,Plc l v.an p->L8 l p v.an=false->BA l v=l.take p++[v]++l.drop p/\p<=l.length):=λp E D=>⟨by rw[E.no (L9 D)];simp,E.le⟩;obtain⟨c,⟨m,i⟩,⟨f,d,j,g,o⟩⟩:=v;simp only[vtA,vtC]at P B M ⊢;generalize hW:w.alloc (.cells [.int .i64 c,.int .i64 m,.int .i64 i,.int .i64 f,.int .i64 d,.int .i64 j,.int .i64 g,.int .i64 o].toArray 184)=W at P B;have a3:w.heap.size<W.heap.size:=(D'.1 B).1;have c0:W.cell? ⟨w.heap.size,0,none⟩=some (.int .i64 c):=cell_of_row _ _ 0 _ _ _ B;go_enter func185,ntmps185
 go_wp2_with fail
 clear hW;refine(JZ _ l c W hr (h.ab P)).mono ?_;rintro e w1 ⟨p,rfl,E,b1⟩;have C:=P.trans (b1.mono P.size);have F:w.heap.size<w1.heap.size:=X' a3 b1.size;replace B:=(b1.block _ a3).trans B;have c0:w1.cell? ⟨w.heap.size,0,none⟩=some (.int .i64 c):=cell_of_row _ _ 0 _ _ _ B;have Q:=h.ab C;have a5:p<=n:=by have:=E.le;have:=R.out;omega
 have HP:Hid (Plc l c p):=E;clear b1 P E;go_wp2_with fail
 refine(JP _ l p c w1 Q).mono ?_;rintro e b ⟨rfl,rfl⟩;obtain⟨a1,k1,u1,su⟩:=Q.gm p HP.out.le;have a0:(l.take p).length<=n:=by rw[mH];omega
 have hz:=C.size;generalize D:L8 l p c=bh;cases bh
 .obtain⟨HI0,hk0⟩:=HN.out p HP.out D;have G:Hid (BA l ⟨c,⟨m,i⟩,⟨f,d,j,g,o⟩⟩=l.take p++([⟨c,⟨m,i⟩,⟨f,d,j,g,o⟩⟩]:List Vt)++l.drop (p)):=HI0;obtain⟨a2,k2,u2,sd⟩:=Q.from (p) hk0;have t:(l.take p).length+(l.drop (p)).length<=n:=by rw[mH,mJ];have:=R.out;omega
  have T:Hid (∀ w',Bw b w'->Sv w' (.slice a1 p k1) (l.take p)):=λw' L=>su.ab L;have S:Hid (∀ w',Bw b w'->Sv w' (.slice a2 (n-(p)) k2) (l.drop (p))):=λw' L=>sd.ab L;clear HI0 HU HN D su sd Q h hr;generalize l.take p=LP at G T a0 t;generalize l.drop (p)=LD at G S t;have a4:(p)<=n:=by have:=R.out;omega
  go_wp2_with ((with_reducible (refine CA ?_));at_make;refine EX _ rfl _ _ 124 rfl b.heap.size 184 underlying124 E2 _ (n+1) rfl rfl (by first|rfl|omega) (by omega) (A' _) ?_)
  intro w3 N U;have I:Bw b w3:=(Below.refl _ _).grown U (A' _) (λk s=>by cases s);have z3:=I.size;clear U;go_wp2_with ((with_reducible (refine CA ?_));at_builtin;refine Bh _ rfl _ _ 124 rfl b.heap.size 184 zVt underlying124 E2 rfl _ _ rfl rfl [] (LP) N.out (T.out w3 I) (by simp;omega) (by omega) ?_)
  intro v4 w4 o4 V;have J:Bw b w4:=I.grown V (by omega) (λk s=>(N.out.lt k s).1);have z4:=J.size;have q:Hid (w4.ownsRow b.heap.size 184 8 v4 (LP).length (vtL (LP))):=by unfold Hid;simpa using o4
  have y:=q.out.lt;have A:=(J.block _ F).trans B;clear o4 V N;go_wp2_with ((with_reducible (refine CA ?_));first|(refine wpList_load_row rfl 184 _ rfl w.heap.size rfl 184 _ (0,0) _ A underlying184 rfl M ?_)|(at_builtin;refine Bh _ rfl _ _ 124 rfl b.heap.size 184 zVt underlying124 E2 rfl _ _ rfl rfl (LP) ([⟨c,⟨m,i⟩,⟨f,d,j,g,o⟩⟩]:List Vt) (q.out.alloc _) (Sv.one _ ⟨c,⟨m,i⟩,⟨f,d,j,g,o⟩⟩ _ rfl) (by simp;omega) (by simp;omega) ?_))
  intro v5 O o5 X;have K:Bw b O:=(J.alloc (by omega) _).grown X (by simp;omega) (λk s=>(y k s).1);have z5:=K.size;have r:Hid (O.ownsRow b.heap.size 184 8 v5 (LP++([⟨c,⟨m,i⟩,⟨f,d,j,g,o⟩⟩]:List Vt)).length (vtL (LP++([⟨c,⟨m,i⟩,⟨f,d,j,g,o⟩⟩]:List Vt)))):=by unfold Hid;rw[I'];exact o5
  have z:=r.out.lt;clear o5 X q y A;go_wp2_with ((with_reducible (refine CA ?_));at_builtin;refine Bh _ rfl _ _ 124 rfl b.heap.size 184 zVt underlying124 E2 rfl _ _ rfl rfl (LP++([⟨c,⟨m,i⟩,⟨f,d,j,g,o⟩⟩]:List Vt)) (LD) r.out (S.out O K) (by rw[I'];simp;omega) (by omega) ?_)
  intro v6 w6 o6 Y;have b6:Bw b w6:=K.grown Y (by omega) (λk s=>(z k s).1);have H:Hid (w6.ownsRow b.heap.size 184 8 v6 (LP++([⟨c,⟨m,i⟩,⟨f,d,j,g,o⟩⟩]:List Vt)++LD).length (vtL (LP++([⟨c,⟨m,i⟩,⟨f,d,j,g,o⟩⟩]:List Vt)++LD))):=by unfold Hid;simpa using o6
  have d6:=C.trans (b6.mono C.size);clear o6 Y r z;go_wp2
  go_ret;refine⟨v6,rfl,?_,d6⟩;rw[G.out];exact Fs H.out C.size
 .obtain⟨HI0,hk0⟩:=HU.out p HP.out D;have G:Hid (BA l ⟨c,⟨m,i⟩,⟨f,d,j,g,o⟩⟩=l.take p++([⟨c,⟨m,i⟩,⟨f,d,j,g,o⟩⟩]:List Vt)++l.drop (p+1)):=HI0;obtain⟨a2,k2,u2,sd⟩:=Q.from (p+1) hk0;rw[show((p+1:Nat):Int)=(p:Int)+1 by omega]at u2
  have t:(l.take p).length+(l.drop (p+1)).length<=n:=by rw[mH,mJ];have:=R.out;omega
  have T:Hid (∀ w',Bw b w'->Sv w' (.slice a1 p k1) (l.take p)):=λw' L=>su.ab L;have S:Hid (∀ w',Bw b w'->Sv w' (.slice a2 (n-(p+1)) k2) (l.drop (p+1))):=λw' L=>sd.ab L;clear HI0 HU HN D su sd Q h hr;generalize l.take p=LP at G T a0 t;generalize l.drop (p+1)=LD at G S t;have a4:(p+1)<=n:=by have:=R.out;omega
  go_wp2_with ((with_reducible (refine CA ?_));at_make;refine EX _ rfl _ _ 124 rfl b.heap.size 184 underlying124 E2 _ (n+1) rfl rfl (by first|rfl|omega) (by omega) (A' _) ?_)
  intro w3 N U;have I:Bw b w3:=(Below.refl _ _).grown U (A' _) (λk s=>by cases s);have z3:=I.size;clear U;go_wp2_with ((with_reducible (refine CA ?_));at_builtin;refine Bh _ rfl _ _ 124 rfl b.heap.size 184 zVt underlying124 E2 rfl _ _ rfl rfl [] (LP) N.out (T.out w3 I) (by simp;omega) (by omega) ?_)
  intro v4 w4 o4 V;have J:Bw b w4:=I.grown V (by omega) (λk s=>(N.out.lt k s).1);have z4:=J.size;have q:Hid (w4.ownsRow b.heap.size 184 8 v4 (LP).length (vtL (LP))):=by unfold Hid;simpa using o4
  have y:=q.out.lt;have A:=(J.block _ F).trans B;clear o4 V N;go_wp2_with ((with_reducible (refine CA ?_));first|(refine wpList_load_row rfl 184 _ rfl w.heap.size rfl 184 _ (0,0) _ A underlying184 rfl M ?_)|(at_builtin;refine Bh _ rfl _ _ 124 rfl b.heap.size 184 zVt underlying124 E2 rfl _ _ rfl rfl (LP) ([⟨c,⟨m,i⟩,⟨f,d,j,g,o⟩⟩]:List Vt) (q.out.alloc _) (Sv.one _ ⟨c,⟨m,i⟩,⟨f,d,j,g,o⟩⟩ _ rfl) (by simp;omega) (by simp;omega) ?_))
  intro v5 O o5 X;have K:Bw b O:=(J.alloc (by omega) _).grown X (by simp;omega) (λk s=>(y k s).1);have z5:=K.size;have r:Hid (O.ownsRow b.heap.size 184 8 v5 (LP++([⟨c,⟨m,i⟩,⟨f,d,j,g,o⟩⟩]:List Vt)).length (vtL (LP++([⟨c,⟨m,i⟩,⟨f,d,j,g,o⟩⟩]:List Vt)))):=by unfold Hid;rw[I'];exact o5
  have z:=r.out.lt;clear o5 X q y A;go_wp2_with ((with_reducible (refine CA ?_));at_builtin;refine Bh _ rfl _ _ 124 rfl b.heap.size 184 zVt underlying124 E2 rfl _ _ rfl rfl (LP++([⟨c,⟨m,i⟩,⟨f,d,j,g,o⟩⟩]:List Vt)) (LD) r.out (S.out O K) (by rw[I'];simp;omega) (by omega) ?_)
  intro v6 w6 o6 Y;have b6:Bw b w6:=K.grown Y (by omega) (λk s=>(z k s).1);have H:Hid (w6.ownsRow b.heap.size 184 8 v6 (LP++([⟨c,⟨m,i⟩,⟨f,d,j,g,o⟩⟩]:List Vt)++LD).length (vtL (LP++([⟨c,⟨m,i⟩,⟨f,d,j,g,o⟩⟩]:List Vt)++LD))):=by unfold Hid;simpa using o6
  have d6:=C.trans (b6.mono C.size);clear o6 Y r z;go_wp2
  go_ret;refine⟨v6,rfl,?_,d6⟩;rw[G.out];exact Fs H.out C.size
def Fa.fo(B:Nat)(e:TypeId)(sz:Nat)(x:Value)(n:Nat)(vs:List Value):Fa:=⟨none,λg w=>w.ownsRow B e sz x n vs/\∀ k,x.ownBlock=some k->k<w.heap.size/\g.t k=.z,λhz _ c h=>⟨Tc h.1 λk hk=>c.zc hz (h.2 k hk).1 (h.2 k hk).2,λk hk=>⟨X' (h.2 k hk).1 c.size,(c.tag (h.2 k hk).1 λe=>by rw[(h.2 k hk).2]at e;cases e).trans (h.2 k hk).2⟩⟩⟩
theorem Yr{g:Gh}{a:Nat}(h:w.ownsRow B e sz y n xs)(d:a<=B)(G:∀ b,B<=b->g.t b=.z):w.ownsRow a e sz y n xs/\∀ k,y.ownBlock=some k->k<w.heap.size/\g.t k=.z:=by
 refine⟨Fs h d,λk c=>?_⟩;rcases h.2 with⟨rfl,_⟩|⟨b,cap,cur,rfl,hb,hh,_⟩
 .cases c
 .cases c;exact⟨(D'.1 hh).1,G _ hb⟩
theorem Zt(h:w.ownsRow B e sz y n xs):∃ z:S3,y=z.v:=by
 rcases h.2 with⟨rfl,_⟩|⟨b,cap,cur,rfl,_⟩
 .exact⟨s30,rfl⟩
 .exact⟨⟨some ⟨b,0,none⟩,n,cap⟩,rfl⟩
theorem Uo{y:S3}(h:Sv w y.v l) :
  Calls prog 180 #[y.v] w λe w'=>∃ z:S3,e=.returned z.v/\w'.ownsRow w.heap.size 184 8 z.v l.length (vtL l)/\Bw w w' :=
 (RR y.v l w h).mono λe w' ⟨x,b,a,c⟩=>by obtain⟨z,rfl⟩:=Zt a;exact⟨z,b,a,c⟩
theorem fG{y:S3}(g:BH l)(h:Sv w y.v l) :
  Calls prog 185 #[y.v,.agg #[iv v.an,iv v.b.r,iv v.b.n,iv v.w.k,iv v.w.c,iv v.w.s,iv v.w.n,iv v.w.v]] w λe w'=>∃ z:S3,e=.returned z.v/\w'.ownsRow w.heap.size 184 8 z.v (BA l v).length (vtL (BA l v))/\Bw w w' :=
 (Pv y.v l v w g h).mono λe w' ⟨x,d,a,f⟩=>by obtain⟨z,rfl⟩:=Zt a;exact⟨z,d,a,f⟩
end
section
variable{p:Bal}{l:List Vt}{w w':World}
theorem OZ{b:Bal}{E:Int}(a:CN ⟨p,l⟩ b=E)(c:E≠0)(f:Bw w w'):∃ y z,(Ending.returned (.tuple #[.agg #[iv 0,iv 0,sn],sn,iv E]):Ending)=.returned (.tuple #[.agg (acA (EM ⟨p,l⟩ b) y),z,.int .i64 (CN ⟨p,l⟩ b)])/\w'.ownsRow w.heap.size 184 8 y (Dv ⟨p,l⟩ b).length (vtL (Dv ⟨p,l⟩ b))/\w'.ownsRow w.heap.size 184 8 z (Dv ⟨p,l⟩ b).length (vtL (Dv ⟨p,l⟩ b))/\Bw w w':=by
 have d:EM ⟨p,l⟩ b=⟨0,0⟩:=if_neg (by rw[a];exact c);have e:Dv ⟨p,l⟩ b=[]:=if_neg (by rw[a];exact c);rw[d,e,a];exact⟨sn,sn,rfl,World.ownsRow_nil _ _ _ _,World.ownsRow_nil _ _ _ _,f⟩
theorem eh{b:Bal}{y z:S3}(e:Av ⟨p,l⟩)(f:Ac b)(h:¬ b.lt p)(j:w'.ownsRow w.heap.size 184 8 y.v l.length (vtL l))(k:w'.ownsRow w.heap.size 184 8 z.v l.length (vtL l))(i:Bw w w'):∃ y' z',(Ending.returned (.tuple #[.agg #[iv b.r,iv b.n,y.v],z.v,iv 0]):Ending)=.returned (.tuple #[.agg (acA (EM ⟨p,l⟩ b) y'),z',.int .i64 (CN ⟨p,l⟩ b)])/\w'.ownsRow w.heap.size 184 8 y' (Dv ⟨p,l⟩ b).length (vtL (Dv ⟨p,l⟩ b))/\w'.ownsRow w.heap.size 184 8 z' (Dv ⟨p,l⟩ b).length (vtL (Dv ⟨p,l⟩ b))/\Bw w w':=by
 have a:CN ⟨p,l⟩ b=0:=(if_neg (λg=>g e)).trans ((if_neg (λg=>g f)).trans (if_neg h));have c:EM ⟨p,l⟩ b=b:=if_pos a;have d:Dv ⟨p,l⟩ b=l:=if_pos a;rw[c,d,a];exact⟨y.v,z.v,rfl,j,k,i⟩
end
theorem CK(p:Bal)(x:Value)(l:List Vt)(b:Bal)(w:World)(h:Sv w x l)(J:NTab w) :
  Calls prog 137 #[.agg (acA p x),.agg (baA b)] w λe w'=>∃ y z,e=.returned (.tuple #[.agg (acA (EM ⟨p,l⟩ b) y),z,.int .i64 (CN ⟨p,l⟩ b)])/\w'.ownsRow w.heap.size 184 8 y (Dv ⟨p,l⟩ b).length (vtL (Dv ⟨p,l⟩ b))/\w'.ownsRow w.heap.size 184 8 z (Dv ⟨p,l⟩ b).length (vtL (Dv ⟨p,l⟩ b))/\Bw w w':=by
 obtain⟨y,rfl⟩:=h.s3;show Calls prog 137 #[.agg #[iv p.r,iv p.n,S3.v y],.agg #[iv b.r,iv b.n]] w _;refine tIn [] func137 trivial (tR 12 [0,0,0,0,1,0,0] λc _ _=>tC1 1 (λF C=>IY p y.v l _ (h.ab (CgQ.ab C)) (J.ab (CgQ.ab C))) λ_=>tR 7 [] λK _ _=>?_);by_cases d:Av ⟨p,l⟩
 .have hE:Fb ⟨p,l⟩=0:=if_pos d;refine tI (((Fb ⟨p,l⟩) != 0)) false (by rw[hE];decide) (tR 5 [1] λL _ _=>?_);by_cases f:Ac b
  .refine tC1 1 (λF C=>It (b:=b) (r:=true) (N' f)) λ_=>tR 10 [1,0] λM _ _=>?_;by_cases k:b.lt p
   .refine tC1 3 (λF C=>DL (a:=b) (b:=p) (r:=true) (N' k)) λ_=>tR 9 [2,0] λN _ _=>tX λF C=>qE3 4 5 6 126 2 (c 2) #[iv 0,iv 0,sn] sn (iv 7) λ_=>OZ ((if_neg (λg=>g d)).trans ((if_neg (λg=>g f)).trans (if_pos k))) (by decide) (CgQ.ab C)
   .refine tC1 3 (λF C=>DL (a:=b) (b:=p) (r:=false) (G' k)) λ_=>tR 10 [8,0,1,2,4,0,10,12,0] λD _ _=>tF λ_ m=>?_;have i:=m.size;refine tC 3 (λF C=>Uo (h.ab (CgQ.ab C))) λo=>?_;rintro _ _ ⟨A,rfl,t,q⟩;refine⟨_,Fa.fo w.heap.size 184 8 A.v l.length (vtL l)::_,rfl,q,λF=>⟨Yr t i o,F⟩,?_⟩;refine tR 1 [8] λE _ _=>tF λ_ m=>?_;have j:=m.size;refine tC 7 (λF C=>Uo (h.ab (CgQ.ab C))) λo=>?_;rintro _ _ ⟨B,rfl,u,s⟩;refine⟨_,Fa.fo w.heap.size 184 8 B.v l.length (vtL l)::_,rfl,s,λF=>⟨Yr u j o,F⟩,?_⟩;refine tR 4 [17,2,0,18,20] λG _ _=>tX λF C=>qE3 4 5 6 126 2 (c 2) #[iv b.r,iv b.n,S3.v A] (S3.v B) (iv 0) λ_=>eh d f k F.2.1.1 F.1.1 (CgQ.ab C)
  .refine tC1 1 (λF C=>It (b:=b) (r:=false) (G' f)) λ_=>tR 10 [2,0] λH _ _=>tX λF C=>qE3 4 5 6 126 2 (c 2) #[iv 0,iv 0,sn] sn (iv 2) λ_=>OZ ((if_neg (λg=>g d)).trans (if_pos f)) (by decide) (CgQ.ab C)
 .have hE:Fb ⟨p,l⟩=5:=if_neg d;refine tI (((Fb ⟨p,l⟩) != 0)) true (by rw[hE];decide) ?_;refine tR 8 [2,0] λI _ _=>tX λF C=>qE3 4 5 6 126 2 (c 2) #[iv 0,iv 0,sn] sn (iv (Fb ⟨p,l⟩)) λ_=>by rw[hE];exact OZ (if_pos d) (by decide) (CgQ.ab C)
theorem C1(a:Acc)(b:Bal):(Dv a b).length<=a.vs.length:=by unfold Dv;split<;>simp
theorem QH(p:Bal)(x:Value)(l:List Vt)(b:Bal)(w:World)(h:Sv w x l)(d:NTab w) :
  Calls prog 137 #[.agg (acA p x),.agg (baA b)] w λe w'=>∃ y z,e=.returned (.tuple #[.agg (acA (EM ⟨p,l⟩ b) y),z,.int .i64 (CN ⟨p,l⟩ b)])/\Sv w' y (Dv ⟨p,l⟩ b)/\Sv w' z (Dv ⟨p,l⟩ b)/\Bw w w' :=
 (CK p x l b w h d).mono λe w' ⟨y,z,c,f,g,a⟩=>⟨y,z,c,Sv.eD f (mI (C1 ⟨p,l⟩ b) h.len),Sv.eD g (mI (C1 ⟨p,l⟩ b) h.len),a⟩
section
variable{p:Bal}{l:List Vt}{w w':World}{v:Vt}
theorem i7{p:Bal}{l:List Vt}{v:Vt}(a:Av ⟨p,l⟩)(b:Al v):(BA l v).length<=40:=by
 rw[<- dg 40 a.2.2 (λu c=>by have:=(a.2.1 u c).1.1;omega) (by have:=b.1;omega)];exact Yy _ a.2.2 40
theorem Oz{E:Int}(a:B1 ⟨p,l⟩ v=E)(b:E≠0)(e:Bw w w'):∃ y,(Ending.returned (.tuple #[.agg #[iv 0,iv 0,sn],iv E]):Ending)=.returned (.tuple #[.agg (acA (Ch ⟨p,l⟩ v) y),.int .i64 (B1 ⟨p,l⟩ v)])/\w'.ownsRow w.heap.size 184 8 y (CM ⟨p,l⟩ v).length (vtL (CM ⟨p,l⟩ v))/\(CM ⟨p,l⟩ v).length<=40/\Bw w w':=by
 have c:Ch ⟨p,l⟩ v=⟨0,0⟩:=if_neg (by rw[a];exact b);have d:CM ⟨p,l⟩ v=[]:=if_neg (by rw[a];exact b);rw[c,d,a];exact⟨sn,rfl,World.ownsRow_nil _ _ _ _,by simp,e⟩
theorem bQ{y:S3}(c:Av ⟨p,l⟩)(d:Al v)(h:¬ v.b.lt p)(j:w'.ownsRow w.heap.size 184 8 y.v (BA l v).length (vtL (BA l v)))(i:Bw w w'):∃ y',(Ending.returned (.tuple #[.agg #[iv v.b.r,iv v.b.n,y.v],iv 0]):Ending)=.returned (.tuple #[.agg (acA (Ch ⟨p,l⟩ v) y'),.int .i64 (B1 ⟨p,l⟩ v)])/\w'.ownsRow w.heap.size 184 8 y' (CM ⟨p,l⟩ v).length (vtL (CM ⟨p,l⟩ v))/\(CM ⟨p,l⟩ v).length<=40/\Bw w w':=by
 have a:B1 ⟨p,l⟩ v=0:=(if_neg (λg=>g c)).trans ((if_neg (λg=>g d)).trans (if_neg h));have e:Ch ⟨p,l⟩ v=v.b:=if_pos a;have f:CM ⟨p,l⟩ v=BA l v:=if_pos a;rw[e,f,a];exact⟨y.v,rfl,j,i7 c d,i⟩
end
section
theorem BX(p:Bal)(x:Value)(l:List Vt)(v:Vt)(w:World)(h:Sv w x l)(q:NTab w) :
  Calls prog 139 #[.agg (acA p x),.agg (vtA v)] w λe w'=>∃ y,e=.returned (.tuple #[.agg (acA (Ch ⟨p,l⟩ v) y),.int .i64 (B1 ⟨p,l⟩ v)])/\w'.ownsRow w.heap.size 184 8 y (CM ⟨p,l⟩ v).length (vtL (CM ⟨p,l⟩ v))/\(CM ⟨p,l⟩ v).length<=40/\Bw w w':=by
 obtain⟨y,rfl⟩:=h.s3;show Calls prog 139 #[.agg #[iv p.r,iv p.n,S3.v y],.agg #[iv v.an,iv v.b.r,iv v.b.n,iv v.w.k,iv v.w.c,iv v.w.s,iv v.w.n,iv v.w.v]] w _;refine tIn [] func139 trivial (tR 11 [0,0,0,0,1,0,0] λd _ _=>tC1 1 (λF C=>IY p y.v l _ (h.ab (CgQ.ab C)) (q.ab (CgQ.ab C))) λ_=>tR 7 [] λH _ _=>?_);by_cases f:Av ⟨p,l⟩
 .have hE:Fb ⟨p,l⟩=0:=if_pos f;refine tI (((Fb ⟨p,l⟩) != 0)) false (by rw[hE];decide) (tR 5 [1] λI _ _=>?_);by_cases i:Al v
  .refine tC1 1 (λF C=>G0 (v:=v) (q.ab (CgQ.ab C)) (r:=true) (N' i)) λ_=>tR 11 [1,0] λJ _ _=>?_;by_cases m:v.b.lt p
   .refine tC1 4 (λF C=>DL (a:=v.b) (b:=p) (r:=true) (N' m)) λ_=>tR 8 [2,0] λK _ _=>tX λF C=>qE2 4 5 126 2 (d 2) #[iv 0,iv 0,sn] (iv 7) λ_=>Oz ((if_neg (λg=>g f)).trans ((if_neg (λg=>g i)).trans (if_pos m))) (by decide) (CgQ.ab C)
   .refine tC1 4 (λF C=>DL (a:=v.b) (b:=p) (r:=false) (G' m)) λ_=>tR 10 [7,0,2,1,4,6,0,8,1] λz _ _=>tF λ_ E=>?_;have j:=E.size;refine tC 5 (λF C=>fG (v:=v) f.2.2 (h.ab (CgQ.ab C))) λG=>?_;rintro _ _ ⟨u,rfl,t,o⟩;refine⟨_,Fa.fo w.heap.size 184 8 u.v (BA l v).length (vtL (BA l v))::_,rfl,o,λF=>⟨Yr t j G,F⟩,?_⟩;refine tR 4 [12,15,2,0,16] λA _ _=>tX λF C=>qE2 4 5 126 2 (d 2) #[iv v.b.r,iv v.b.n,S3.v u] (iv 0) λ_=>bQ f i m F.1.1 (CgQ.ab C)
  .refine tC1 1 (λF C=>G0 (v:=v) (q.ab (CgQ.ab C)) (r:=false) (G' i)) λ_=>tR 9 [2,0] λB _ _=>tX λF C=>qE2 4 5 126 2 (d 2) #[iv 0,iv 0,sn] (iv 2) λ_=>Oz ((if_neg (λg=>g f)).trans (if_pos i)) (by decide) (CgQ.ab C)
 .have hE:Fb ⟨p,l⟩=5:=if_neg f;refine tI (((Fb ⟨p,l⟩) != 0)) true (by rw[hE];decide) ?_;refine tR 7 [2,0] λD _ _=>tX λF C=>qE2 4 5 126 2 (d 2) #[iv 0,iv 0,sn] (iv (Fb ⟨p,l⟩)) λ_=>by rw[hE];exact Oz (if_pos f) (by decide) (CgQ.ab C)
theorem R7(p:Bal)(x:Value)(l:List Vt)(v:Vt)(w:World)(h:Sv w x l)(c:NTab w) :
  Calls prog 139 #[.agg (acA p x),.agg (vtA v)] w λe w'=>∃ y,e=.returned (.tuple #[.agg (acA (Ch ⟨p,l⟩ v) y),.int .i64 (B1 ⟨p,l⟩ v)])/\Sv w' y (CM ⟨p,l⟩ v)/\Bw w w' :=
 (BX p x l v w h c).mono λe w' ⟨y,b,d,f,a⟩=>⟨y,b,Sv.eD d (by omega),a⟩
structure Base(w0:World)(g:Gh)(w:World):Prop where
 b:Bw w0 w
 z:∀ k,k<w0.heap.size->g.t k=.z
variable{B:Nat}{a:Acc}{g:Gh}{w w' w0:World}{y:Value}
theorem Base.ch{T:List Tg}{d:Gh}(h:Base w0 g w)(c:Cg B T g w d w')(f:Tg.z∉T:=by simp):Base w0 d w' :=
 have e:∀ k,k<w0.heap.size->k<w.heap.size:=λk a=>X' a h.b.size
 ⟨⟨c.os.trans h.b.os,c.tape.trans h.b.tape,c.output.trans h.b.output,mI h.b.size c.size,λk a=>(c.zc f (e k a) (h.z k a)).trans (h.b.block k a)⟩,λk a=>(c.tag (e k a) (by rw[h.z k a];intro h;cases h)).trans (h.z k a)⟩
structure Tabs(w:World):Prop where
 t:AD w
 n:NTab w
 q:Cm w
theorem Base.tt(h:Base w0 g w)(t:Tabs w0):AD w:=t.t.ab h.b
theorem Base.tn(h:Base w0 g w)(t:Tabs w0):NTab w:=t.n.ab h.b
theorem Base.tq(h:Base w0 g w)(t:Tabs w0):Cm w:=t.q.ab t.q.pos h.b
theorem DA{l:List Vt}(h:w'.ownsRow B 184 8 y l.length (vtL l))(e:∀ b,B<=b->g.t b=.z)(f:l.length<=2199023255488):∃ y3:S3,y=y3.v/\y3.n=l.length/\FSv g w' y3 l:=by
 have d:=Sv.eD h f;rcases h.2 with⟨rfl,h0⟩|⟨b,cap,cur,rfl,hb,_⟩
 .exact⟨s30,rfl,h0.symm,d,λi=>absurd (mG h0) i⟩
 .exact⟨⟨some ⟨b,0,none⟩,l.length,cap⟩,rfl,rfl,d,λ_ a c=>by simp only[P']at c;subst c;exact e b hb⟩
theorem eb{l:List Int}(h:w'.ownsRow B 5 1 y l.length (l.map (Value.int .u8)))(k:∀ b,B<=b->g.t b=.z)(m:l.length<=140737488351232)(j:∀ x∈l,0<=x/\x<256):∃ y3:S3,y=y3.v/\y3.n=l.length/\FSl g w' y3 l:=by
 rcases h.2 with⟨rfl,h0⟩|⟨b,cap,cur,rfl,hbb,hh,hc,_,hcs,ht⟩
 .have d:l=[]:=mG h0;subst d;exact⟨s30,rfl,rfl,⟨⟨none,0,rfl,A' _,λ_=>rfl,.inl rfl⟩,by simp,by simp⟩,λd=>absurd rfl d⟩
 .refine⟨⟨some ⟨b,0,none⟩,l.length,cap⟩,rfl,rfl,⟨⟨_,_,rfl,hc,λh=>(by cases h),.inr ⟨b,0,rfl,rl hh,λi f=>?_⟩⟩,m,j⟩,λ_ a e=>by simp only[P']at e;subst e;exact k b hbb⟩;have c:(l.map (Value.int .u8))[i]?=some (.int .u8 (l.getD i 0)):=by rw[ny,H' f,nc,H' f];rfl
  rw[<- ht,nQ]at c
  split at c
  .rw[cell_of_row _ _ _ _ _ _ hh,nn];simpa using c
  .cases c
theorem iT{b:Bal}(h:CN a b=0):EM a b=b/\Dv a b=a.vs:=⟨if_pos h,if_pos h⟩
theorem Ua{v:Vt}(h:B1 a v=0):Ch a v=v.b/\CM a v=BA a.vs v:=⟨if_pos h,if_pos h⟩
def lpA(g:Nat):Array Value:=#[.pointer (some ⟨g,1,none⟩),.pointer (some ⟨g,2,none⟩),.pointer (some ⟨g,3,none⟩)]
theorem dH(g:Nat):(lpA g).all (·.oneCell')=true:=by simp[lpA,Value.oneCell']
def SP:Array Value:=#[.pointer none,.pointer none,.pointer none]
theorem iF(g:Nat):(prog.info? 78).map (·.size)=some (lpA g).size:=by show _=some 3;kernel_rfl
theorem Qq(g:Nat)(j:Nat)(a:j<3):∀ W,(Instr.index 78 (.agg (lpA g)) (.int .i64 (j:Int))).run prog W=.ok (.pointer (some ⟨g,j+1,none⟩)) W:=by
 intro W;rcases(by omega:j=0\/j=1\/j=2)with rfl|rfl|rfl
 all_goals kernel_rfl
theorem Ip(g:Nat)(w:World) :
  Calls prog 20 #[.pointer (some ⟨g,0,none⟩)] w λe w'=>e=.returned (.agg (lpA g))/\Bw w w':=by
 have d:Bw w (w.alloc (.cells SP 78)):=(Below.refl _ _).alloc (A' _) _;have i:=heap_alloc_new w (.cells SP 78);have c:=iF g;go_enter func20,ntmps20
 go_wp2_with fail
 refine Ah 10 (by kernel_rfl) (by kernel_rfl) ?_;simp only[nC,nM,nE,oc]
 repeat (go_big_quiet_step (fail))
 refine wpQuiet_nil ?_;have a:(w.alloc (.cells SP 78)).drew.heap[w.heap.size]?=some (.cells SP 78):=i;have b:Bw w (w.alloc (.cells SP 78)).drew:=d.drew;have f:SP=#[.pointer none,.pointer none,.pointer none]:=rfl;rw[<- f];generalize (w.alloc (.cells SP 78)).drew=W at a b;go_wp2_with (refine wpList_store_row rfl 78 (.tmp 2) (.tmp 12) rfl w.heap.size (lpA g) rfl rfl 78 _ a c rfl (dH g) ?_)
 have h:=setRow_heap W w.heap.size _ (lpA g) 78 _ a;exact bodyPost_ret (v:=.agg (lpA g)) (results_cell_row rfl _ _ w.heap.size 78 _ (0,0) _ rfl h underlying78 rfl c) rfl ⟨rfl,Aq b (A' _) _⟩
end
end
section
section
theorem Y7(c:Int):hxV c<16:=by
 unfold hxV;split
 .omega
 .split<;>omega
variable{B k:Int}{d s y:List Int}{j:Nat}
theorem Sy(h:∀ c∈d,0<=c/\c<256):∀ c∈Bm d,0<=hxV c:=by
 induction d with
 | nil=>intro c hc;simp[Bm]at hc
 | cons x r ih =>
  intro c hc;have b:=h x (by simp);simp only[Bm,mK]at hc;rcases hc with rfl|rfl|hc
  .rw[Gz (by omega) (by omega)];omega
  .rw[Gz (by omega) (by omega)];omega
  .exact ih (λy a=>h y (by simp[a])) c hc
theorem Rp{c:Int}(f:c∈y)(h:hxV c<0):D2 y=none:=by
 cases e:D2 y with
 | none=>rfl
 | some d =>
  obtain⟨a,b⟩:=EG e;have:=Sy b c (by rw[a];exact f);omega
theorem bk(h:y.length%2≠0):D2 y=none:=by
 cases e:D2 y with
 | none=>rfl
 | some d =>
  obtain⟨a,b⟩:=EG e;rw[<- a,Dt]at h
  omega
theorem ND(d:List Int)(c:Int):Bm (d++[c])=Bm d++[hxD (c/16),hxD (c%16)]:=by rw[Qf];rfl
theorem VO(i:Bm d=y.take (2*j))(a:2*j+1<y.length)(p:0<=hxV (y.getD (2*j) 0))(o:0<=hxV (y.getD (2*j+1) 0)):Bm (d++[16*hxV (y.getD (2*j) 0)+hxV (y.getD (2*j+1) 0)])=y.take (2*(j+1)):=by
 have f:y.take (2*(j+1))=y.take (2*j)++[y.getD (2*j) 0,y.getD (2*j+1) 0]:=by
  have g:y.take (2*j)++[y[2*j]'(by omega)]=y.take (2*j+1):=List.take_append_getElem (by omega);have h:y.take (2*j+1)++[y[2*j+1]'a]=y.take (2*j+1+1):=List.take_append_getElem a;rw[show 2*(j+1)=2*j+1+1 by omega,<- h,<- g,As (by omega),As a,mN];rfl
 obtain⟨b,k,l⟩:=KN (c:=y.getD (2*j) 0) (by omega);obtain⟨e,m,n⟩:=KN (c:=y.getD (2*j+1) 0) (by omega);rw[ND,i,f]
 congr 1
 rw[show(16*hxV (y.getD (2*j) 0)+hxV (y.getD (2*j+1) 0))/16=hxV (y.getD (2*j) 0)by omega,show(16*hxV (y.getD (2*j) 0)+hxV (y.getD (2*j+1) 0))%16=hxV (y.getD (2*j+1) 0)by omega,b,e]
theorem Y4(a:Bm d=y)(h:∀ c∈d,0<=c/\c<256):D2 y=some d:=by rw[<- a];exact Om h
theorem Mk(s:List Int):∀ x∈splitB s,∀ c∈x,c∈s:=by
 induction s with
 | nil=>simp[splitB]
 | cons a r ih =>
  rw[splitB];split
  .intro x hx;rcases mK.1 hx with rfl|hx
   .simp
   .intro c hc;exact V' _ (ih x hx c hc)
  .obtain⟨y,t,e⟩:=np (BP r);rw[e]at ih ⊢
   simp only;intro x hx;rcases mK.1 hx with rfl|hx
   .intro c hc;rcases mK.1 hc with rfl|hc
    .simp
    .exact V' _ (ih y (by simp) c hc)
   .intro c hc;exact V' _ (ih x (by simp[hx]) c hc)
theorem WP(s:List Int):∀ x∈splitB s,x.length<=s.length:=by
 induction s with
 | nil=>simp[splitB]
 | cons a r ih =>
  rw[splitB];split
  .intro x hx;rcases mK.1 hx with rfl|hx
   .simp
   .have:=ih x hx;simp;omega
  .obtain⟨y,t,e⟩:=np (BP r);rw[e]at ih ⊢
   simp only;intro x hx;rcases mK.1 hx with rfl|hx
   .have:=ih y (by simp);simp;omega
   .have:=ih x (by simp[hx]);simp;omega
theorem SC{w:List Int}(h:∀ j,1<=j->j<10->AF j≠w):AM w=0:=by
 by_cases e:AM w=0
 .exact e
 .obtain⟨h1,h2,h3⟩:=De e;exact absurd h1 (h _ h2 (by omega))
def BC(s:List Int)(B:Int):Prop:=0<=whV s/\whV s<=B
theorem Wi(e:B<10000000):BC s B↔(s≠[]/\(s[0]?=some 48->s.length=1)/\(∀ c∈s,48<=c/\c<=57)/\dv s<=B):=by
 constructor
 .intro h;unfold BC whV at h;split at h
  .rename_i h1
   exact⟨h1.1,h1.2.2.1,h1.2.2.2,h.2⟩
  .omega
 .rintro⟨h1,h2,h3,h4⟩;have a:=ED h3;have b:=Up h1 h3 h2;have d:s.length<=7:=by
   have:=Ic 6 (n:=(dv s).toNat) (by omega);rw[b]at this
   omega
  unfold BC whV;rw[if_pos ⟨h1,d,h2,h3⟩];exact⟨a,h4⟩
theorem Zl(h:BC s B):whV s=dv s:=by
 unfold BC at h;unfold whV at h ⊢;split at h
 .rename_i h1
  rw[if_pos h1]
 .omega
theorem cO(h:∀ c∈s,48<=c/\c<=57)(i:Nat):dv (s.take i)<=dv s:=by
 have key:∀ (t:List Int) (x:List Int),(∀ c∈x++t,48<=c/\c<=57)->dv x<=dv (x++t):=by
  intro t;induction t with
  | nil=>intro x _;simp
  | cons c t ih =>
   intro x b;have a:=ih (x++[c]) (by simpa using b);have e:=b c (by simp);have f:=ED (s:=x) (λy d=>b y (by simp[d]));rw[If]at a
   rw[mN]at a
   simp only[List.singleton_append]at a;omega
 have:=key (s.drop i) (s.take i) (by rw[oq];exact h)
 rwa [oq]at this
def Cr(k:Int)(j:Nat):Nat:=(if 0<j/\Aw k=true then 1 else 0)+(if 1<j/\AA k=true then 1 else 0)+(if 2<j/\AC k=true then 1 else 0)
def Ci(k:Int)(ps:List (List Int))(j:Nat):Int:=if Cc j k=true then whV (ps.getD (Cr k j) [])else 0
structure GoodPc(k:Int)(ps:List (List Int))(x:Lac):Prop where
 hk:x.k=k
 hn:x.n=Ci k ps 0
 ha:x.a=Ci k ps 1
 hp:x.p=Ci k ps 2
 ok:∀ j,j<3->Cc j k=true->BC (ps.getD (Cr k j) []) (Eu j)
 d1:k=1->D2 (ps.getD 1 [])=some x.d
 d0:k≠1->x.d=[]
 dl:x.d.length<=2000
theorem Nq(h:j<3):Cr k (j+1)=Cr k j+(if Cc j k=true then 1 else 0):=by
 unfold Cr Cc
 match j,h with
 | 0,_=>simp
 | 1,_=>simp
 | 2,_=>simp
theorem Vz(k:Int):Cr k 0=0:=by simp[Cr]
theorem kD(k:Int):npc k=1+(Cr k 3:Int)+(if k=1 then 1 else 0):=by
 unfold npc Cr AN;cases Aw k<;>cases AA k<;>cases AC k<;>by_cases h:k=1<;>simp[h]<;>omega
theorem cG(h:j<3)(a:Cc j k=true):Cr k j<Cr k 3:=by
 unfold Cr;unfold Cc at a
 match j,h,a with
 | 0,_,a=>simp at a;simp[a];omega
 | 1,_,a=>simp at a;simp[a];omega
 | 2,_,a=>simp at a;simp[a]
theorem W6{B:List Int}{m:List (List Int)}(M:splitB s=B::m)(r:AM B=k)(o:1<=k)(L:k<=9)(l:(m.length:Int)+1=npc k)(x:Lac):rdL s=some x↔GoodPc k m x:=by
 obtain⟨q,w,v,A,u⟩:=x;have H:∀ (y:Lac),rdL s=some y↔CF (B::m)=some y/\YL y=0:=by
  intro y;unfold rdL;rw[M];cases CF (B::m)with
  | none=>simp
  | some z =>
   simp only[P'];constructor
   .intro h;split at h
    .rename_i t
     simp only[P']at h;subst h;exact⟨rfl,t⟩
    .cases h
   .rintro⟨rfl,t⟩;rw[if_pos t]
 rw[H,Iq];clear H;have E:Ci k m 0=if Aw k=true then whV (m.getD 0 [])else 0:=by simp[Ci,Cc,Cr]
 have F:Ci k m 1=if AA k=true then whV (m.getD (if Aw k=true then 1 else 0) [])else 0:=by simp[Ci,Cc,Cr]
 have G:Ci k m 2=if AC k=true then whV (m.getD ((if Aw k=true then 1 else 0)+(if AA k=true then 1 else 0)) [])else 0:=by simp[Ci,Cc,Cr]
 have K:(∀ j,j<3->Cc j k=true->BC (m.getD (Cr k j) []) (Eu j))↔(Aw k=true->BC (m.getD 0 []) 4)/\(AA k=true->BC (m.getD (if Aw k=true then 1 else 0) []) 1048576)/\(AC k=true->BC (m.getD ((if Aw k=true then 1 else 0)+(if AA k=true then 1 else 0)) []) 100000):=by
  constructor
  .intro h;have t:=h 0 (by omega);have o:=h 1 (by omega);have C:=h 2 (by omega);simp[Cc,Cr,Eu]at t o C
   exact⟨t,o,C⟩
  .rintro⟨t,o,C⟩ j hj;have D:j=0\/j=1\/j=2:=by omega
   rcases D with rfl|rfl|rfl
   .simpa[Cc,Cr,Eu]using t
   .simpa[Cc,Cr,Eu]using o
   .simpa[Cc,Cr,Eu]using C
 have I:GoodPc k m ⟨q,w,v,A,u⟩↔q=k/\w=Ci k m 0/\v=Ci k m 1/\A=Ci k m 2/\(∀ j,j<3->Cc j k=true->BC (m.getD (Cr k j) []) (Eu j))/\(k=1->D2 (m.getD 1 [])=some u)/\(k≠1->u=[])/\u.length<=2000 :=
  ⟨λh=>⟨h.hk,h.hn,h.ha,h.hp,h.ok,h.d1,h.d0,h.dl⟩,λ⟨a,b,c,d,e,f,g,h⟩=>⟨a,b,c,d,e,f,g,h⟩⟩
 have J:LacOk ⟨q,w,v,A,u⟩↔(1<=q/\q<=9)/\(Aw q=true->0<=w/\w<=4)/\(AA q=true->0<=v/\v<=1048576)/\(AC q=true->0<=A/\A<=100000)/\u.length<=2000/\(Aw q=false->w=0)/\(AA q=false->v=0)/\(AC q=false->A=0)/\(q≠1->u=[]) :=
  ⟨λh=>⟨h.k,h.n,h.a,h.p,h.d,h.n0,h.a0,h.p0,h.d0⟩,λ⟨a,b,c,d,e,f,g,h,i⟩=>⟨a,b,c,d,e,f,g,h,i⟩⟩
 rw[I,K,E,F,G,J];clear I K E F G J;unfold BC;rcases NI ⟨o,L⟩with rfl|rfl|rfl|rfl|rfl|rfl|rfl|rfl|rfl
 .match m,l with
  | [a,b],_ =>
   cases hu:D2 b with
   | none=>simp[CF,r,Aw,AA,AC,hu]
   | some d =>
    simp[CF,r,Aw,AA,AC,hu];constructor
    .rintro⟨⟨rfl,rfl,rfl,rfl,rfl⟩,h⟩;simp at h;simp;omega
    .rintro⟨rfl,rfl,rfl,rfl,o,rfl,h3⟩;simp;omega
  | [],l=>simp[npc,AN,Aw,AA,AC]at l
  | [_],l=>simp[npc,AN,Aw,AA,AC]at l
  | _::_::_::_,l=>simp[npc,AN,Aw,AA,AC]at l;omega
 .match m,l with
  | [a],_ =>
   simp[CF,r,Aw,AA,AC];constructor
   .rintro⟨⟨rfl,rfl,rfl,rfl,rfl⟩,h⟩;simp at h;simp;omega
   .rintro⟨rfl,rfl,rfl,rfl,o,rfl,_⟩;simp;omega
  | [],l=>simp[npc,AN,Aw,AA,AC]at l
  | _::_::_,l=>simp[npc,AN,Aw,AA,AC]at l;omega
 .match m,l with
  | [a],_ =>
   simp[CF,r,Aw,AA,AC];constructor
   .rintro⟨⟨rfl,rfl,rfl,rfl,rfl⟩,h⟩;simp at h;simp;omega
   .rintro⟨rfl,rfl,rfl,rfl,o,rfl,_⟩;simp;omega
  | [],l=>simp[npc,AN,Aw,AA,AC]at l
  | _::_::_,l=>simp[npc,AN,Aw,AA,AC]at l;omega
 .match m,l with
  | [a],_ =>
   simp[CF,r,Aw,AA,AC];constructor
   .rintro⟨⟨rfl,rfl,rfl,rfl,rfl⟩,h⟩;simp at h;simp;omega
   .rintro⟨rfl,rfl,rfl,rfl,o,rfl,_⟩;simp;omega
  | [],l=>simp[npc,AN,Aw,AA,AC]at l
  | _::_::_,l=>simp[npc,AN,Aw,AA,AC]at l;omega
 .match m,l with
  | [a],_ =>
   simp[CF,r,Aw,AA,AC];constructor
   .rintro⟨⟨rfl,rfl,rfl,rfl,rfl⟩,h⟩;simp at h;simp;omega
   .rintro⟨rfl,rfl,rfl,rfl,o,rfl,_⟩;simp;omega
  | [],l=>simp[npc,AN,Aw,AA,AC]at l
  | _::_::_,l=>simp[npc,AN,Aw,AA,AC]at l;omega
 .match m,l with
  | [a],_ =>
   simp[CF,r,Aw,AA,AC];constructor
   .rintro⟨⟨rfl,rfl,rfl,rfl,rfl⟩,h⟩;simp at h;simp;omega
   .rintro⟨rfl,rfl,rfl,rfl,o,rfl,_⟩;simp;omega
  | [],l=>simp[npc,AN,Aw,AA,AC]at l
  | _::_::_,l=>simp[npc,AN,Aw,AA,AC]at l;omega
 .match m,l with
  | [],_ =>
   simp[CF,r,Aw,AA,AC];constructor
   .rintro⟨⟨rfl,rfl,rfl,rfl,rfl⟩,h⟩;simp
   .rintro⟨rfl,rfl,rfl,rfl,rfl,_⟩;simp
  | _::_,l=>simp[npc,AN,Aw,AA,AC]at l;omega
 .match m,l with
  | [a,b],_ =>
   simp[CF,r,Aw,AA,AC];constructor
   .rintro⟨⟨rfl,rfl,rfl,rfl,rfl⟩,h⟩;simp at h;simp;omega
   .rintro⟨rfl,rfl,rfl,rfl,o,rfl,_⟩;simp;omega
  | [],l=>simp[npc,AN,Aw,AA,AC]at l
  | [_],l=>simp[npc,AN,Aw,AA,AC]at l
  | _::_::_::_,l=>simp[npc,AN,Aw,AA,AC]at l;omega
 .match m,l with
  | [a],_ =>
   simp[CF,r,Aw,AA,AC];constructor
   .rintro⟨⟨rfl,rfl,rfl,rfl,rfl⟩,h⟩;simp at h;simp;omega
   .rintro⟨rfl,rfl,rfl,rfl,o,rfl,_⟩;simp;omega
  | [],l=>simp[npc,AN,Aw,AA,AC]at l
  | _::_::_,l=>simp[npc,AN,Aw,AA,AC]at l;omega
end
end
section
open Go.RowKit
section
theorem NJ(k:Int)(w:World) :
  Calls prog 30 #[.int .i64 k] w λe w'=>e=.returned (.bool (decide (1<=k/\k<=9)))/\w'=w:=by
 by_cases a:1<=k
 .by_cases h9:k<10
  .rw[N' ⟨a,by omega⟩];go_enter func30,ntmps30
   go_wp2
   go_ret;exact⟨Aj (by simp),rfl⟩
  .rw[G' (by omega)];go_enter func30,ntmps30
   go_wp2
   go_ret;exact⟨Aj (by simp),rfl⟩
 .rw[G' (by omega)];go_enter func30,ntmps30
  go_wp2
  go_ret;exact⟨Aj (by simp),rfl⟩
theorem Jh(k:Int)(w:World) :
  Calls prog 23 #[.int .i64 k] w λe w'=>e=.returned (.bool (k==1))/\w'=w:=by
 go_enter func23,ntmps23
 go_wp2
 go_ret;exact⟨rfl,rfl⟩
variable{a b s:List Int}
theorem jr(c:∀ x∈a,0<=x/\x<256)(d:∀ x∈b,0<=x/\x<256):((strOfNums a).toList==(strOfNums b).toList)=decide (a=b):=by
 rw[pG,decide_eq_true_iff,<- Nd c d,beq_iff_eq];exact⟨λe=>ByteArray.ext (oP (by rw[<- IU,<- IU,e])),λe=>by rw[e]⟩
theorem js(c:∀ x∈a,0<=x/\x<256)(d:∀ x∈b,0<=x/\x<256)(h:¬ a=b):((strOfNums a).toList==(strOfNums b).toList)=false:=by rw[jr c d,G' h]
theorem G7(s:List Int):(strOfNums s).toList=[]↔s=[]:=by
 rw[IU];constructor
 .intro h;have:=congrArg List.length h;simp[strOfNums]at this
  exact this
 .intro h;rw[h];rfl
theorem US(h:s=[]):(strOfNums s).toList.isEmpty=true:=by rw[List.isEmpty_iff];exact(G7 s).2 h
theorem UT(h:¬ s=[]):(strOfNums s).toList.isEmpty=false:=by rw[List.isEmpty_eq_false_iff];exact λe=>h ((G7 s).1 e)
theorem aN(a:List Int):((strOfNums a).toList==(strOfNums a).toList)=true:=by simp
theorem Gk(k:Int):∀ x∈AF k,0<=x/\x<256:=λx a=>by have:=E7 k x a;omega
theorem SA(s:List Int)(p:∀ x∈s,0<=x/\x<256)(w:World)(q:LWTab w) :
  Calls prog 29 #[.string (strOfNums s)] w λe w'=>e=.returned (.int .i64 (AM s))/\w'=w:=by
 go_enter func29,ntmps29
 go_wp2_with fail
 go_loopw [3] (λi wr=>∃ k:Nat,1<=k/\k<=10/\i=.int .i64 (k:Int)/\Hid (∀ j:Int,1<=j->j<(k:Int)->AF j≠s)/\wr=w) (λi _=>(10-intOf i).toNat)
 case atStart=>exact⟨1,by omega,by omega,rfl,λj _ _=>by omega,rfl⟩
 case round =>
  obtain⟨k,v,r,rfl,b,h⟩:=hrel;subst h;go_wp2_with fail
  refine(NJ _ _).mono ?_;rintro e w' ⟨rfl,g⟩;subst g;by_cases c:k<10
  .rw[N' (show(1:Int)<=(k:Int)/\(k:Int)<=9 by omega)];have u:=EQ k c;have l:=q.text k c;by_cases a:AF (k:Int)=s
   .have HK:Hid (AM s=(k:Int)):=by unfold Hid;rw[<- a];exact He ⟨by omega,by omega⟩
    rw[a]at l
    have m:=aN s;clear a b;go_wp2
    go_ret;rw[HK.out];exact⟨rfl,rfl⟩
   .have m:=js (Gk (k:Int)) p a;have d:Hid (∀ j:Int,1<=j->j<((k+1:Nat):Int)->AF j≠s):=λj o t=>by
     by_cases e:j=(k:Int)
     .rw[e];exact a
     .exact b.out j o (by omega)
    clear b a;obtain⟨y,f⟩:∃ x,AF (k:Int)=x:=⟨_,rfl⟩;rw[f]at l m
    clear f;go_wp2
    go_roundw
    case rel=>exact⟨k+1,by omega,by omega,by go_num,d,trivial⟩
    case measure=>simp[intOf];omega
  .obtain rfl:k=10:=by omega
   rw[G' (show ¬ ((1:Int)<=((10:Nat):Int)/\((10:Nat):Int)<=9)by omega)];have n:Hid (AM s=0):=SC b.out;clear b c;go_wp2
   go_ret;rw[n.out];exact⟨rfl,rfl⟩
def Jz(b0 b1 b2:Bool)(i:Nat):Int:=(if 0<i then AN b0 else 0)+(if 1<i then AN b1 else 0)+(if 2<i then AN b2 else 0)
def QC(b0 b1 b2:Bool)(i:Nat):Bool:=if i=0 then b0 else if i=1 then b1 else b2
theorem WS(b0 a b:Bool)(i:Nat)(h:i<3):Jz b0 a b (i+1)=Jz b0 a b i+AN (QC b0 a b i):=by
 unfold Jz QC
 match i,h with
 | 0,_=>simp
 | 1,_=>simp
 | 2,_=>simp
theorem LT(b:Bool):0<=AN b/\AN b<=1:=by cases b<;>simp[AN]
theorem eS(b0 a b:Bool)(i:Nat):0<=Jz b0 a b i/\Jz b0 a b i<=3:=by
 have c:=LT b0;have d:=LT a;have e:=LT b;unfold Jz;split<;>split<;>split<;>omega
theorem WK(b0 a b:Bool)(i:Nat)(h:i<3)(w:World):(Instr.index 73 (.agg #[.bool b0,.bool a,.bool b]) (.int .i64 (i:Int))).run prog w=.ok (.bool (QC b0 a b i)) w:=by
 have c:i=0\/i=1\/i=2:=by omega
 rcases c with rfl|rfl|rfl<;>rfl
theorem mg:(prog.info? 73).map (·.size)=some 3:=by kernel_rfl
theorem OY(k:Nat)(G:1<=k)(y:k<10)(w:World)(E:LWTab w) :
  Calls prog 31 #[.int .i64 (k:Int)] w λe w'=>e=.returned (.int .i64 (npc (k:Int)))/\w'=w:=by
 have H:=EQ k y;obtain⟨b0,r⟩:∃ b,Aw (k:Int)=b:=⟨_,rfl⟩;obtain⟨a,s⟩:∃ b,AA (k:Int)=b:=⟨_,rfl⟩;obtain⟨c,t⟩:∃ b,AC (k:Int)=b:=⟨_,rfl⟩;have D:w.rangeAt 0 (4*k+1) [.bool b0,.bool a,.bool c]:=λj u d=>by
  have o:j<3:=(Q'.1 d).1;have h:=E.has k j y o
  match j,o,d,h with
  | 0,_,d,h=>simp at d;subst d;rw[<- r];exact h
  | 1,_,d,h=>simp at d;subst d;rw[<- s];exact h
  | 2,_,d,h=>simp at d;subst d;rw[<- t];exact h
 have m:Hid (npc (k:Int)=1+Jz b0 a c 3+AN ((k:Int)==1)):=by
  unfold Hid npc Jz;rw[r,s,t];simp;omega
 clear r s t;go_enter func31,ntmps31
 go_wp2_with ((with_reducible (refine Bo ?_));refine wpList_load_mid rfl 73 (.tmp 8) rfl 0 (4*k+1) rfl [.bool b0,.bool a,.bool c] _ D underlying73 rfl mg ?_)
 go_loopw [3,10] (λB iv wr=>∃ i:Nat,i<=3/\iv=.int .i64 (i:Int)/\B=.int .i64 (1+Jz b0 a c i)/\wr=w) (λ_ iv _=>(3-intOf iv).toNat)
 case atStart=>exact⟨0,by omega,rfl,rfl,rfl⟩
 case round =>
  obtain⟨i,C,rfl,rfl,x⟩:=hrel;subst x;obtain⟨S,l⟩:∃ S,Jz b0 a c i=S:=⟨_,rfl⟩;have n:=eS b0 a c i;rw[l]at n
  obtain⟨I,s3⟩:=n;by_cases p:i<3
  .have hlI:(i:Int)<3:=by omega
   have F:=WK b0 a c i p;have q:Hid (Jz b0 a c (i+1)=S+AN (QC b0 a c i)):=by unfold Hid;rw[WS _ _ _ _ p,l]
   rw[l];clear l;obtain⟨b,z⟩:∃ b,QC b0 a c i=b:=⟨_,rfl⟩;rw[z]at F q
   clear z;cases b with
   | true =>
    have g:Hid (1+Jz b0 a c (i+1)=1+S+1):=by unfold Hid;rw[q.out];simp[AN];omega
    go_wp2
    go_roundw
    case rel=>exact⟨i+1,by omega,by go_num,by rw[g.out],trivial⟩
    case measure=>simp[intOf];omega
   | false =>
    have g:Hid (1+Jz b0 a c (i+1)=1+S):=by unfold Hid;rw[q.out];simp[AN]
    go_wp2
    go_roundw
    case rel=>exact⟨i+1,by omega,by go_num,by rw[g.out],trivial⟩
    case measure=>simp[intOf];omega
  .obtain rfl:i=3:=by omega
   rw[l];rw[l]at m
   clear l;go_wp2_with fail
   refine(Jh _ _).mono ?_;rintro e w' ⟨rfl,v⟩;subst v;by_cases A:(k:Int)=1
   .rw[Yj A]at m ⊢
    have f:Hid (npc (k:Int)=1+S+1):=by unfold Hid;rw[m.out];simp[AN]
    go_wp2
    go_ret;rw[f.out];exact⟨rfl,rfl⟩
   .rw[SM A]at m ⊢
    have f:Hid (npc (k:Int)=1+S):=by unfold Hid;rw[m.out];simp[AN]
    go_wp2
    go_ret;rw[f.out];exact⟨rfl,rfl⟩
end
end
end Go.Proofs.YtdjfdfpkkenjbabGreatDoor
