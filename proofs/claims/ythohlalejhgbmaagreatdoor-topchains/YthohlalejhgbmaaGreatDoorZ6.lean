/- Part 6 of the walk. -/
import Derived.Test.YthohlalejhgbmaaGreatDoorZ5
set_option maxRecDepth 100000
set_option maxHeartbeats 4000000
open Go.Proofs.Tryz
set_option linter.unusedVariables false
namespace Go.Proofs.YthohlalejhgbmaaGreatDoor
section
open Go.RowKit
section
variable{B cap e n p sz:Nat}{P:Program}{a:Option Addr}{l:List Vt}{s:Int}{v:Vt}{w:World}{xs:List Value}{y:Value}
theorem Sv.cells{ad:Addr}{m:List Vt}(h:Sv w (.slice (some ad) n cap) m):∀ j u,(vtL m)[j]?=some u->w.cell? (ad.add j)=some u:=by
 intro j u d;obtain⟨⟨a,l,e,o,p,f⟩,_⟩:=h;simp only[Value.slice.injEq]at e;obtain⟨rfl,rfl,rfl⟩:=e;rcases f with rfl|⟨b,off,hab,_,hcell⟩
 .simp[vtL]at d
 .obtain rfl:ad=⟨b,off,none⟩:=by simpa using hab
  obtain⟨v,g,i⟩:=Zd m j u d;have c:(⟨b,off,none⟩:Addr).add j=⟨b,off+j,none⟩:=by unfold Addr.add;split<;>simp_all
  rw[c];have k:=hcell (j/8) v g (j%8) u i
  rwa [show off+8*(j/8)+j%8=off+j by omega]at k
theorem Qh(w:World)(b s B C e:Nat)(t:P.underlying s=some (.slice e))(o:(P.info? e).map (·.size)=some 8)(g n:Nat)(D:List Value)(f:w.ownsRow b e 8 (.slice (some ⟨g,0,none⟩) n n) n D)(u:Value)(m:List Vt)(c:m.length=n)(v:Sv w u m) :
  ∃ w',(Builtin.copy_ #[s,B] C #[.slice (some ⟨g,0,none⟩) n n,u]).run P w=.ok (goInt n) w'/\w'.ownsRow b e 8 (.slice (some ⟨g,0,none⟩) n n) n (vtL m)/\Below g w w':=by
 obtain⟨i,h,y⟩:∃ i,P.info? e=some i/\i.size=8:=by
  cases h:P.info? e with
  | none=>rw[h]at o;cases o
  | some i=>rw[h]at o;exact⟨i,rfl,by simpa using o⟩
 rcases f.2 with⟨h0,_⟩|⟨g',cap,cur,hvv,hbg,hg,hnc,hcm,hcs,ht⟩
 .cases h0
 .simp only[Value.slice.injEq,V',Addr.mk.injEq]at hvv;obtain⟨⟨rfl,_⟩,_,rfl⟩:=hvv;have l:=v;obtain⟨⟨a,x,rfl,F,A,E⟩,_⟩:=v;rw[c]at l ⊢
  cases a with
  | none =>
   have p:=A rfl;subst p;have q:n=0:=by omega
   subst q;have r:m=[]:=Z' c;subst r;refine⟨w,?_,⟨rfl,.inr ⟨g,0,cur,rfl,hbg,hg,hnc,hcm,hcs,by simp[vtL]⟩⟩,Below.refl _ _⟩;simp[Builtin.copy_,run_underlying t,Builtin.lenOf,Builtin.firstCells,sizeOf,typeInfo,h,storeCells]
  | some ad =>
   have z:=run_firstCells_some (P:=P) w 8 n ad n x (vtL m) (by rw[CH,c]) l.cells;have j:=run_storeCells_at P g 0 e (vtL m) 0 cur w hg (by rw[CH,c];omega) (TH m);have d:(cur.toList.take (0+0)++vtL m++cur.toList.drop (0+0+(vtL m).length))=vtL m:=by
    rw[CH,c,kD (by rw[lf];omega)];simp
   rw[d]at j
   refine⟨w.setRow g (vtL m).toArray,?_,⟨by rw[CH,c],.inr ⟨g,n,(vtL m).toArray,rfl,hbg,setRow_heap w g cur _ e _ hg,A' _,hcm,by simp[CH,c],?_⟩⟩,?_⟩
   .simp[Builtin.copy_,run_underlying t,Builtin.lenOf,sizeOf,typeInfo,h,y,z,j]
   .rw[jS (by simp[CH,c])]
   .exact⟨rfl,rfl,rfl,by simp,λk G=>setRow_other w g k _ (by omega)⟩
theorem Mh(w:World){j:Array Oper}{c:List Oper}{o:Oper}{a:Act}{Q:Exit->Act->World->Prop}(l:o.guard=none)(d s:Operand)(k q:TypeId)(y:o.op=.call { callee:=.builtin .copy,args:=#[d,s],argTypes:=#[k,q] })(b e:Nat)(A:P.underlying k=some (.slice e))(z:(P.info? e).map (·.size)=some 8)(g n:Nat)(r:List Value)(v:a.eval d=.slice (some ⟨g,0,none⟩) n n)(f:w.ownsRow b e 8 (.slice (some ⟨g,0,none⟩) n n) n r)(u:Value)(p:a.eval s=u)(m:List Vt)(x:m.length=n)(B:Sv w u m)(h:∀ w',w'.ownsRow b e 8 (.slice (some ⟨g,0,none⟩) n n) n (vtL m)->Below g w w'->wpList P j Q c (a.put o.dst (goInt n)) w'):wpList P j Q (o::c) a w:=by
 refine wpList_plain l λK t=>?_;obtain⟨w',i,C,D⟩:=Qh (P:=P) w b k q o.type e A z g n r f u m x B;unfold Oper.wp execOp;simp only[y,resolve,invoke,builtin,Sem.run_bind,Sem.run_pure,Result.andThen_ok,mn,kf,lh,v,p,i];exact t _ _ (h w' C D)
theorem Mj(w:World){g:Array Oper}{d:List Oper}{o:Oper}{a:Act}{Q:Exit->Act->World->Prop}(v:o.guard=none)(l c:Operand)(t:TypeId)(h:o.op=Op.makeSlice t l c)(b:Nat)(e:TypeId)(r:P.underlying t=some (.slice e))(f:(P.info? e).map (λi=>(i.zero,i.size,i.bytes))=some (some zVt,8,64))(n:Nat)(y:a.eval l=.int .i64 (n:Int))(u:a.eval c=.int .i64 (n:Int))(B:n<=2199023255488)(p:b<=w.heap.size)(s:∀ w',Hid (∃ xs,w'.ownsRow b e 8 (.slice (some ⟨w.heap.size,0,none⟩) n n) n xs)->w.grownBy w' none->wpList P g Q d (a.put o.dst (.slice (some ⟨w.heap.size,0,none⟩) n n)) w'):wpList P g Q (o::d) a w:=by
 obtain⟨z,x,j,k,m⟩:=info_parts f;refine wpList_make_full w v l c t h b e z zVt 8 r x j k _ _ _ _ n y u rfl rfl (by rw[m];omega) (by unfold maxLen;omega) p (λw' A q=>s w' ⟨_,A⟩ q)
theorem Fg{b a c:Nat}{v:Value}(h:w.ownsRow b e c v n xs)(d:a<=b):w.ownsRow a e c v n xs:=by
 refine⟨h.1,?_⟩;rcases h.2 with h2|⟨g,cap,cur,hv,hbg,hr⟩
 .exact .inl h2
 .exact .inr ⟨g,cap,cur,hv,jG d hbg,hr⟩
theorem vt8:(prog.info? 148).map (·.size)=some 8:=by kernel_rfl
theorem QY(x:Value)(l:List Vt)(w:World)(h:Sv w x l) :
  Calls prog 135 #[x] w λe w'=>∃ x',e=.returned x'/\w'.ownsRow w.heap.size 148 8 x' l.length (vtL l)/\Bw w w':=by
 have b:=h.len;obtain⟨a,v,rfl⟩:=h.shape;obtain⟨N,f⟩:∃ N,l.length=N:=⟨_,rfl⟩;have n:Hid (l.length=N):=f;rw[f]at h b ⊢
 clear f;go_enter func135,ntmps135
 go_wp2_with ((with_reducible (refine CF ?_));at_make;refine Mj _ rfl _ _ 89 rfl w.heap.size 148 underlying89 Et N rfl rfl b (A' _) ?_)
 intro m c q;have i:Bw w m:=(Below.refl _ _).grown q (A' _) (λk s=>by cases s);have r:=h.ab i;obtain⟨u,c⟩:=c.out;have g:Hid (m.ownsRow w.heap.size 148 8 (.slice (some ⟨w.heap.size,0,none⟩) N N) N u):=c;clear c;go_wp2_with ((with_reducible (refine CF ?_));refine Mh _ rfl _ _ 89 89 rfl w.heap.size 148 underlying89 vt8 w.heap.size N _ rfl g.out _ rfl l n.out r ?_)
 intro t j o;have d:Hid (t.ownsRow w.heap.size 148 8 (.slice (some ⟨w.heap.size,0,none⟩) N N) N (vtL l)):=j;have p:=i.trans o;clear j g;go_wp2
 go_ret;exact⟨_,rfl,d.out,p⟩
theorem Sv.first(h:Sv w (.slice a n cap) l)(i:Nat)(v:Vt)(e:l[i]?=some v):∃ b off,a=some ⟨b,off,none⟩/\b<w.heap.size/\w.cell? ⟨b,off+8*i,none⟩=some (.int .i64 v.au):=by
 obtain⟨b,off,c,d,f⟩:=h.spot i v e;exact⟨b,off,c,d,f 0 _ rfl⟩
theorem Sg(f g:Nat)(a:Option Addr)(n c:Nat)(l:List Vt)(s:Int)(i:Nat)(v:Vt)(w:World)(t:l.length=n)(j:l[i]?=some v)(h:Sv w (.slice a n c) l)(c1:w.cell? ⟨f,0,none⟩=some (.slice a n c))(p:w.cell? ⟨g,0,none⟩=some (.int .i64 s)) :
  Calls prog 182 #[.int .i64 (i:Int),.pointer (some ⟨f,0,none⟩),.pointer (some ⟨g,0,none⟩)] w λe w'=>e=.returned (.bool (decide (s<=v.au)))/\Bw w w':=by
 obtain⟨b,d,rfl,r,q⟩:=h.first i v j;have hin:i<n:=by have:=(U'.1 j).1;omega
 have o:=IS b d n c i hin;have k:=Below.refl w.heap.size w;go_enter func182,ntmps182
 go_wp2_with fail
 go_quiet (fail)
 have m:Bw w (w.drewN nq):=Am k nq;go_wp2
 go_ret;exact⟨Al (by simp),m⟩
theorem Su(o q:Nat)(a:Option Addr)(n f:Nat)(l:List Vt)(s:Int)(w:World)(C:l.length=n)(M:B2 l)(h:Sv w (.slice a n f) l)(N:o<w.heap.size)(O:q<w.heap.size)(c1:w.cell? ⟨o,0,none⟩=some (.slice a n f))(H:w.cell? ⟨q,0,none⟩=some (.int .i64 s)) :
  Calls prog 181 #[.int .i64 (n:Int),.func (.func 182) #[] #[.pointer (some ⟨o,0,none⟩),.pointer (some ⟨q,0,none⟩)]] w λe w'=>∃ p:Nat,e=.returned (.int .i64 (p:Int))/\Plc l s p/\Bw w w':=by
 have t:=h.len;rw[C]at t
 have y:Hid (l.length=n):=C;clear C;go_enter func181,ntmps181
 go_wp2_with fail
 go_loopw [5,6] (λiv D wr=>∃ i j:Nat,i<=j/\j<=n/\iv=.int .i64 (i:Int)/\D=.int .i64 (j:Int)/\(∀ (k:Nat) (v:Vt),k<i->l[k]?=some v->v.au<s)/\(∀ (k:Nat) (v:Vt),j<=k->l[k]?=some v->s<=v.au)/\Bw w wr) (λiv D _=>(intOf D-intOf iv).toNat)
 case atStart=>exact⟨0,n,by omega,by omega,rfl,rfl,λk v K=>by omega,λk v K g=>by have:=(U'.1 g).1;have:=y.out;omega,Below.refl _ _⟩
 case round =>
  obtain⟨i,j,I,J,rfl,rfl,u,r,b⟩:=hrel;have d:Hid (∀ (k:Nat) (v:Vt),k<i->l[k]?=some v->v.au<s):=u;have c:Hid (∀ (k:Nat) (v:Vt),j<=k->l[k]?=some v->s<=v.au):=r;clear u r;by_cases L:i<j
  .have hlt':(i:Int)<(j:Int):=by omega
   go_wp2_with fail
   obtain⟨m,F⟩:∃ m:Nat,((i:Int)+(j:Int))/2=(m:Int):=⟨(i+j)/2,by omega⟩;rw[F];have P:i<=m:=by omega
   have Q:m<j:=by omega
   clear F;obtain⟨v,g⟩:∃ v,l[m]?=some v:=⟨_,E' (by have:=y.out;omega)⟩;refine(Sg o q a n f l s m v wr y.out g (h.ab b) ((b.cell (p:=⟨o,0,none⟩) N).trans c1) ((b.cell (p:=⟨q,0,none⟩) O).trans H)).mono ?_;rintro e R ⟨rfl,G⟩;have E:=b.trans (G.mono b.size);obtain⟨A,B⟩:=Plc.half M g d.out c.out;by_cases x:s<=v.au
   .rw[I' x];have z:Hid (∀ (k:Nat) (v:Vt),m<=k->l[k]?=some v->s<=v.au):=B x;clear A B g x;go_wp2
    go_roundw
    case rel=>exact⟨i,m,by omega,by omega,rfl,rfl,d.out,z.out,E⟩
    case measure=>simp[intOf];omega
   .rw[D' x];have z:Hid (∀ (k:Nat) (v:Vt),k<m+1->l[k]?=some v->v.au<s):=A (by omega);clear A B g x;go_wp2
    go_roundw
    case rel=>exact⟨m+1,j,by omega,by omega,by go_num,rfl,z.out,c.out,E⟩
    case measure=>simp[intOf];omega
  .obtain rfl:i=j:=by omega
   go_wp2
   go_ret;exact⟨i,rfl,⟨by have:=y.out;omega,d.out,c.out⟩,b⟩
theorem Jz(x:Value)(l:List Vt)(s:Int)(w:World)(u:B2 l)(h:Sv w x l) :
  Calls prog 164 #[x,.int .i64 s] w λe w'=>∃ p:Nat,e=.returned (.int .i64 (p:Int))/\Plc l s p/\Bw w w':=by
 obtain⟨a,b,rfl⟩:=h.shape;obtain⟨n,f⟩:∃ n,l.length=n:=⟨_,rfl⟩;rw[f]at h ⊢
 have m:Hid (l.length=n):=f;clear f;have j:=heap_alloc2_old w (.cells #[.slice a n b] 89) (.cells #[.int .i64 s] 3);have k:=heap_alloc2_new w (.cells #[.slice a n b] 89) (.cells #[.int .i64 s] 3);have c:Bw w ((w.alloc (.cells #[.slice a n b] 89)).alloc (.cells #[.int .i64 s] 3)):=((Below.refl _ _).alloc (A' _) _).alloc (by simp) _;generalize g:(w.alloc (.cells #[.slice a n b] 89)).alloc (.cells #[.int .i64 s] 3)=W at j k c;have z:W.heap.size=w.heap.size+2:=by rw[<- g];simp
 have c1:W.cell? ⟨w.heap.size,0,none⟩=some (.slice a n b):=cell_of_row _ _ 0 _ _ _ j;have r:W.cell? ⟨w.heap.size+1,0,none⟩=some (.int .i64 s):=cell_of_row _ _ 0 _ _ _ k;have d:=h.ab c;go_enter func164,ntmps164
 go_wp2_with fail
 clear g;refine(Su w.heap.size (w.heap.size+1) a n b l s W m.out u d (by omega) (by omega) c1 r).mono ?_;rintro e v ⟨p,rfl,i,q⟩;have t:=c.trans (q.mono c.size);have o:Hid (Plc l s p):=i;clear i;go_wp2
 go_ret;exact⟨p,rfl,o.out,t⟩
def KZ(l:List Vt)(p:Nat)(s:Int):Bool:=match l[p]? with|some v=>decide (v.au=s)|none=>false
theorem IE(h:l[p]?=some v):KZ l p s=decide (v.au=s):=by unfold KZ;rw[h]
theorem MY(h:l[p]?=none):KZ l p s=false:=by unfold KZ;rw[h]
theorem MZ(h:KZ l p s=true):∃ v,l[p]?=some v/\v.au=s:=by
 cases hu:l[p]? with
 | none=>rw[MY hu]at h;cases h
 | some v=>rw[IE hu]at h;exact⟨v,rfl,kr h⟩
theorem La(h:KZ l p s=false):∀ v,l[p]?=some v->v.au≠s:=by
 intro v a;rw[IE a]at h
 exact of_decide_eq_false h
theorem Jr(x:Value)(l:List Vt)(p:Nat)(s:Int)(w:World)(h:Sv w x l) :
  Calls prog 165 #[x,.int .i64 (p:Int),.int .i64 s] w λe w'=>e=.returned (.bool (KZ l p s))/\w'=w:=by
 obtain⟨a,g,rfl⟩:=h.shape;obtain⟨n,c⟩:∃ n,l.length=n:=⟨_,rfl⟩;rw[c]at h ⊢
 by_cases j:p<n
 .obtain⟨v,hv⟩:∃ v,l[p]?=some v:=⟨_,E' (by omega)⟩;obtain⟨b,f,rfl,m,k⟩:=h.first p v hv;have i:=IS b f n g p j;have d:(p:Int)<(n:Int):=by omega
  rw[IE hv];clear c hv h;go_enter func165,ntmps165
  go_wp2
  go_ret;exact⟨Al (by first|rfl|simp),rfl⟩
 .have hv:l[p]?=none:=lC (by omega);have d:¬ (p:Int)<(n:Int):=by omega
  rw[MY hv];clear c hv h;go_enter func165,ntmps165
  go_wp2
  go_ret;exact⟨rfl,rfl⟩
theorem Sv.oD(h:Sv w (.slice a n cap) l)(d f:Nat)(j:d<=f)(g:f<=l.length):Sv w (sliced a d f cap 8) ((l.take f).drop d):=by
 obtain⟨⟨r,k,e,t,q,o⟩,p⟩:=h;simp only[Value.slice.injEq]at e;obtain⟨rfl,rfl,rfl⟩:=e;have m:((l.take f).drop d).length=f-d:=by rw[jL,X'];omega
 cases a with
 | none =>
  have c0:=q rfl;subst c0;have s:l.length=0:=by omega
  refine⟨⟨_,_,by rw[m];rfl,by omega,λ_=>by omega,.inl (Z' (by omega))⟩,by omega⟩
 | some ad =>
  refine⟨⟨_,_,by rw[m];rfl,by omega,(by intro h;split at h<;>simp at h),?_⟩,by omega⟩;rcases Nat.eq_or_lt_of_le j with he|hlt
  .exact .inl (Z' (by omega))
  .rcases o with rfl|⟨b,off,e2,hbs,hcell⟩
   .simp at g;omega
   .simp only[V']at e2;subst e2;refine .inr ⟨b,off+d*8,?_,hbs,λi v c=>?_⟩
    .rw[if_neg (by omega)];simp[Addr.add]
    .rw[kA,kJ]at c
     split at c
     .have:=hcell (d+i) v c
      rwa [show off+8*(d+i)=off+d*8+8*i by omega]at this
     .cases c
theorem Sv.ni(h:Sv w (.slice a n cap) l)(b:Nat)(c:b<=l.length) :
  ∃ a' c',(∀ W,(Instr.slice 89 (.slice a n cap) none (some (.int .i64 (b:Int))) none).run prog W=.ok (.slice a' b c') W)/\Sv w (.slice a' b c') (l.take b):=by
 have g:=h.oD 0 b (by omega) c;obtain⟨⟨a',d,e,j,k,i⟩,f⟩:=h;simp only[Value.slice.injEq]at e;obtain⟨rfl,rfl,rfl⟩:=e;refine⟨_,_,λW=>?_,by simpa[sliced]using g⟩;rw[run_slice_h (P:=prog) W 89 a _ cap underlying89 .i64 _ (by omega) (by omega)];rw[Re,Sw];simp[Result.andThen,sliced]
theorem Sv.from(h:Sv w (.slice a n cap) l)(b:Nat)(c:b<=l.length) :
  ∃ a' c',(∀ W,(Instr.slice 89 (.slice a n cap) (some (.int .i64 (b:Int))) none none).run prog W=.ok (.slice a' (n-b) c') W)/\Sv w (.slice a' (n-b) c') (l.drop b):=by
 have g:=h.oD b l.length c (A' _);obtain⟨⟨a',d,e,j,k,i⟩,f⟩:=h;simp only[Value.slice.injEq]at e;obtain⟨rfl,rfl,rfl⟩:=e;refine⟨_,_,λW=>?_,by simpa[sliced]using g⟩;rw[run_slice_l (P:=prog) W 89 a _ cap underlying89 .i64 _ (by omega) (by omega)];rw[Re,Sw];simp[Result.andThen,sliced]
theorem EM(w:World){g:Array Oper}{d:List Oper}{o:Oper}{a:Act}{Q:Exit->Act->World->Prop}(x:o.guard=none)(l c:Operand)(t:TypeId)(h:o.op=Op.makeSlice t l c)(b:Nat)(e:TypeId)(r:P.underlying t=some (.slice e))(f:(P.info? e).map (λi=>(i.zero,i.size,i.bytes))=some (some zVt,8,64))(C:Int)(n:Nat)(z:a.eval l=.int .i64 0)(v:a.eval c=.int .i64 C)(s:C=(n:Int))(D:n<=2199023255500)(p:b<=w.heap.size)(u:∀ w',Hid (w'.ownsRow b e 8 (.slice (some ⟨w.heap.size,0,none⟩) 0 n) ([]:List Vt).length (vtL []))->w.grownBy w' none->wpList P g Q d (a.put o.dst (.slice (some ⟨w.heap.size,0,none⟩) 0 n)) w'):wpList P g Q (o::d) a w:=by
 obtain⟨A,y,j,k,m⟩:=info_parts f;exact wpList_make_own w x l c t h b e A zVt 8 r y j k _ _ C n z v s (by rw[m];omega) (by unfold maxLen;omega) p (λw' B q=>u w' B q)
theorem OI(x:Value)(l:List Vt)(v:Vt)(w:World)(hr:B2 l)(h:Sv w x l) :
  Calls prog 140 #[x,.agg (vtA v)] w λe w'=>∃ x',e=.returned x'/\w'.ownsRow w.heap.size 148 8 x' (Ba l v).length (vtL (Ba l v))/\Bw w w':=by
 have Z:=h.len;obtain⟨a,cp,rfl⟩:=h.shape;obtain⟨n,hn⟩:∃ n,l.length=n:=⟨_,rfl⟩;rw[hn]at h Z ⊢
 have R:Hid (l.length=n):=hn;clear hn;have P:Bw w (w.alloc (.cells (vtA v) 148)):=(Below.refl _ _).alloc (A' _) _;have B:=heap_alloc_new w (.cells (vtA v) 148);have M:=gp v;have HU:Hid (∀ p,Plc l v.au p->KZ l p v.au=true->Ba l v=l.take p++[v]++l.drop (p+1)/\p+1<=l.length):=λp E D=>by
  obtain⟨u,hu,he⟩:=MZ D;exact⟨by rw[E.has hu he];simp,by have:=(U'.1 hu).1;omega⟩
 have HN:Hid (∀ p,Plc l v.au p->KZ l p v.au=false->Ba l v=l.take p++[v]++l.drop p/\p<=l.length):=λp E D=>⟨by rw[E.no (La D)];simp,E.le⟩;obtain⟨c,⟨m,i⟩,⟨f,d,j,g,o⟩⟩:=v;simp only[vtA,vtC]at P B M ⊢;generalize hW:w.alloc (.cells [.int .i64 c,.int .i64 m,.int .i64 i,.int .i64 f,.int .i64 d,.int .i64 j,.int .i64 g,.int .i64 o].toArray 148)=W at P B;have a3:w.heap.size<W.heap.size:=(H'.1 B).1;have c0:W.cell? ⟨w.heap.size,0,none⟩=some (.int .i64 c):=cell_of_row _ _ 0 _ _ _ B;go_enter func140,ntmps140
 go_wp2_with fail
 clear hW;refine(Jz _ l c W hr (h.ab P)).mono ?_;rintro e w1 ⟨p,rfl,E,b1⟩;have C:=P.trans (b1.mono P.size);have F:w.heap.size<w1.heap.size:=Y' a3 b1.size;replace B:=(b1.block _ a3).trans B;have c0:w1.cell? ⟨w.heap.size,0,none⟩=some (.int .i64 c):=cell_of_row _ _ 0 _ _ _ B;have Q:=h.ab C;have a5:p<=n:=by have:=E.le;have:=R.out;omega
 have HP:Hid (Plc l c p):=E;clear b1 P E;go_wp2_with fail
 refine(Jr _ l p c w1 Q).mono ?_;rintro e b ⟨rfl,rfl⟩;obtain⟨a1,k1,u1,su⟩:=Q.ni p HP.out.le;have a0:(l.take p).length<=n:=by rw[X'];omega
 have hz:=C.size;generalize D:KZ l p c=bh;cases bh
 .obtain⟨HI0,hk0⟩:=HN.out p HP.out D;have G:Hid (Ba l ⟨c,⟨m,i⟩,⟨f,d,j,g,o⟩⟩=l.take p++([⟨c,⟨m,i⟩,⟨f,d,j,g,o⟩⟩]:List Vt)++l.drop (p)):=HI0;obtain⟨a2,k2,u2,sd⟩:=Q.from (p) hk0;have t:(l.take p).length+(l.drop (p)).length<=n:=by rw[X',jL];have:=R.out;omega
  have T:Hid (∀ w',Bw b w'->Sv w' (.slice a1 p k1) (l.take p)):=λw' L=>su.ab L;have S:Hid (∀ w',Bw b w'->Sv w' (.slice a2 (n-(p)) k2) (l.drop (p))):=λw' L=>sd.ab L;clear HI0 HU HN D su sd Q h hr;generalize l.take p=LP at G T a0 t;generalize l.drop (p)=LD at G S t;have a4:(p)<=n:=by have:=R.out;omega
  go_wp2_with ((with_reducible (refine CF ?_));at_make;refine EM _ rfl _ _ 89 rfl b.heap.size 148 underlying89 Et _ (n+1) rfl rfl (by first|rfl|omega) (by omega) (A' _) ?_)
  intro w3 N U;have I:Bw b w3:=(Below.refl _ _).grown U (A' _) (λk s=>by cases s);have z3:=I.size;clear U;go_wp2_with ((with_reducible (refine CF ?_));at_builtin;refine Bj _ rfl _ _ 89 rfl b.heap.size 148 zVt underlying89 Et rfl _ _ rfl rfl [] (LP) N.out (T.out w3 I) (by simp;omega) (by omega) ?_)
  intro v4 w4 o4 V;have J:Bw b w4:=I.grown V (by omega) (λk s=>(N.out.lt k s).1);have z4:=J.size;have q:Hid (w4.ownsRow b.heap.size 148 8 v4 (LP).length (vtL (LP))):=by unfold Hid;simpa using o4
  have y:=q.out.lt;have A:=(J.block _ F).trans B;clear o4 V N;go_wp2_with ((with_reducible (refine CF ?_));first|(refine wpList_load_row rfl 148 _ rfl w.heap.size rfl 148 _ (0,0) _ A underlying148 rfl M ?_)|(at_builtin;refine Bj _ rfl _ _ 89 rfl b.heap.size 148 zVt underlying89 Et rfl _ _ rfl rfl (LP) ([⟨c,⟨m,i⟩,⟨f,d,j,g,o⟩⟩]:List Vt) (q.out.alloc _) (Sv.one _ ⟨c,⟨m,i⟩,⟨f,d,j,g,o⟩⟩ _ rfl) (by simp;omega) (by simp;omega) ?_))
  intro v5 O o5 X;have K:Bw b O:=(J.alloc (by omega) _).grown X (by simp;omega) (λk s=>(y k s).1);have z5:=K.size;have r:Hid (O.ownsRow b.heap.size 148 8 v5 (LP++([⟨c,⟨m,i⟩,⟨f,d,j,g,o⟩⟩]:List Vt)).length (vtL (LP++([⟨c,⟨m,i⟩,⟨f,d,j,g,o⟩⟩]:List Vt)))):=by unfold Hid;rw[M'];exact o5
  have z:=r.out.lt;clear o5 X q y A;go_wp2_with ((with_reducible (refine CF ?_));at_builtin;refine Bj _ rfl _ _ 89 rfl b.heap.size 148 zVt underlying89 Et rfl _ _ rfl rfl (LP++([⟨c,⟨m,i⟩,⟨f,d,j,g,o⟩⟩]:List Vt)) (LD) r.out (S.out O K) (by rw[M'];simp;omega) (by omega) ?_)
  intro v6 w6 o6 Y;have b6:Bw b w6:=K.grown Y (by omega) (λk s=>(z k s).1);have H:Hid (w6.ownsRow b.heap.size 148 8 v6 (LP++([⟨c,⟨m,i⟩,⟨f,d,j,g,o⟩⟩]:List Vt)++LD).length (vtL (LP++([⟨c,⟨m,i⟩,⟨f,d,j,g,o⟩⟩]:List Vt)++LD))):=by unfold Hid;simpa using o6
  have d6:=C.trans (b6.mono C.size);clear o6 Y r z;go_wp2
  go_ret;refine⟨v6,rfl,?_,d6⟩;rw[G.out];exact Fg H.out C.size
 .obtain⟨HI0,hk0⟩:=HU.out p HP.out D;have G:Hid (Ba l ⟨c,⟨m,i⟩,⟨f,d,j,g,o⟩⟩=l.take p++([⟨c,⟨m,i⟩,⟨f,d,j,g,o⟩⟩]:List Vt)++l.drop (p+1)):=HI0;obtain⟨a2,k2,u2,sd⟩:=Q.from (p+1) hk0;rw[show((p+1:Nat):Int)=(p:Int)+1 by omega]at u2
  have t:(l.take p).length+(l.drop (p+1)).length<=n:=by rw[X',jL];have:=R.out;omega
  have T:Hid (∀ w',Bw b w'->Sv w' (.slice a1 p k1) (l.take p)):=λw' L=>su.ab L;have S:Hid (∀ w',Bw b w'->Sv w' (.slice a2 (n-(p+1)) k2) (l.drop (p+1))):=λw' L=>sd.ab L;clear HI0 HU HN D su sd Q h hr;generalize l.take p=LP at G T a0 t;generalize l.drop (p+1)=LD at G S t;have a4:(p+1)<=n:=by have:=R.out;omega
  go_wp2_with ((with_reducible (refine CF ?_));at_make;refine EM _ rfl _ _ 89 rfl b.heap.size 148 underlying89 Et _ (n+1) rfl rfl (by first|rfl|omega) (by omega) (A' _) ?_)
  intro w3 N U;have I:Bw b w3:=(Below.refl _ _).grown U (A' _) (λk s=>by cases s);have z3:=I.size;clear U;go_wp2_with ((with_reducible (refine CF ?_));at_builtin;refine Bj _ rfl _ _ 89 rfl b.heap.size 148 zVt underlying89 Et rfl _ _ rfl rfl [] (LP) N.out (T.out w3 I) (by simp;omega) (by omega) ?_)
  intro v4 w4 o4 V;have J:Bw b w4:=I.grown V (by omega) (λk s=>(N.out.lt k s).1);have z4:=J.size;have q:Hid (w4.ownsRow b.heap.size 148 8 v4 (LP).length (vtL (LP))):=by unfold Hid;simpa using o4
  have y:=q.out.lt;have A:=(J.block _ F).trans B;clear o4 V N;go_wp2_with ((with_reducible (refine CF ?_));first|(refine wpList_load_row rfl 148 _ rfl w.heap.size rfl 148 _ (0,0) _ A underlying148 rfl M ?_)|(at_builtin;refine Bj _ rfl _ _ 89 rfl b.heap.size 148 zVt underlying89 Et rfl _ _ rfl rfl (LP) ([⟨c,⟨m,i⟩,⟨f,d,j,g,o⟩⟩]:List Vt) (q.out.alloc _) (Sv.one _ ⟨c,⟨m,i⟩,⟨f,d,j,g,o⟩⟩ _ rfl) (by simp;omega) (by simp;omega) ?_))
  intro v5 O o5 X;have K:Bw b O:=(J.alloc (by omega) _).grown X (by simp;omega) (λk s=>(y k s).1);have z5:=K.size;have r:Hid (O.ownsRow b.heap.size 148 8 v5 (LP++([⟨c,⟨m,i⟩,⟨f,d,j,g,o⟩⟩]:List Vt)).length (vtL (LP++([⟨c,⟨m,i⟩,⟨f,d,j,g,o⟩⟩]:List Vt)))):=by unfold Hid;rw[M'];exact o5
  have z:=r.out.lt;clear o5 X q y A;go_wp2_with ((with_reducible (refine CF ?_));at_builtin;refine Bj _ rfl _ _ 89 rfl b.heap.size 148 zVt underlying89 Et rfl _ _ rfl rfl (LP++([⟨c,⟨m,i⟩,⟨f,d,j,g,o⟩⟩]:List Vt)) (LD) r.out (S.out O K) (by rw[M'];simp;omega) (by omega) ?_)
  intro v6 w6 o6 Y;have b6:Bw b w6:=K.grown Y (by omega) (λk s=>(z k s).1);have H:Hid (w6.ownsRow b.heap.size 148 8 v6 (LP++([⟨c,⟨m,i⟩,⟨f,d,j,g,o⟩⟩]:List Vt)++LD).length (vtL (LP++([⟨c,⟨m,i⟩,⟨f,d,j,g,o⟩⟩]:List Vt)++LD))):=by unfold Hid;simpa using o6
  have d6:=C.trans (b6.mono C.size);clear o6 Y r z;go_wp2
  go_ret;refine⟨v6,rfl,?_,d6⟩;rw[G.out];exact Fg H.out C.size
def Fa.fo(B:Nat)(e:TypeId)(sz:Nat)(x:Value)(n:Nat)(vs:List Value):Fa:=⟨none,λg w=>w.ownsRow B e sz x n vs/\∀ k,x.ownBlock=some k->k<w.heap.size/\g.t k=.z,λhz _ c h=>⟨RU h.1 λk hk=>c.zc hz (h.2 k hk).1 (h.2 k hk).2,λk hk=>⟨Y' (h.2 k hk).1 c.size,(c.tag (h.2 k hk).1 λe=>by rw[(h.2 k hk).2]at e;cases e).trans (h.2 k hk).2⟩⟩⟩
theorem WR{g:Gh}{a:Nat}(h:w.ownsRow B e sz y n xs)(d:a<=B)(G:∀ b,B<=b->g.t b=.z):w.ownsRow a e sz y n xs/\∀ k,y.ownBlock=some k->k<w.heap.size/\g.t k=.z:=by
 refine⟨Fg h d,λk c=>?_⟩;rcases h.2 with⟨rfl,_⟩|⟨b,cap,cur,rfl,hb,hh,_⟩
 .cases c
 .cases c;exact⟨(H'.1 hh).1,G _ hb⟩
theorem XR(h:w.ownsRow B e sz y n xs):∃ z:S3,y=z.v:=by
 rcases h.2 with⟨rfl,_⟩|⟨b,cap,cur,rfl,_⟩
 .exact⟨s30,rfl⟩
 .exact⟨⟨some ⟨b,0,none⟩,n,cap⟩,rfl⟩
theorem SS{y:S3}(h:Sv w y.v l) :
  Calls prog 135 #[y.v] w λe w'=>∃ z:S3,e=.returned z.v/\w'.ownsRow w.heap.size 148 8 z.v l.length (vtL l)/\Bw w w' :=
 (QY y.v l w h).mono λe w' ⟨x,b,a,c⟩=>by obtain⟨z,rfl⟩:=XR a;exact⟨z,b,a,c⟩
theorem dj{y:S3}(g:B2 l)(h:Sv w y.v l) :
  Calls prog 140 #[y.v,.agg #[iv v.au,iv v.b.r,iv v.b.n,iv v.w.k,iv v.w.c,iv v.w.s,iv v.w.n,iv v.w.v]] w λe w'=>∃ z:S3,e=.returned z.v/\w'.ownsRow w.heap.size 148 8 z.v (Ba l v).length (vtL (Ba l v))/\Bw w w' :=
 (OI y.v l v w g h).mono λe w' ⟨x,d,a,f⟩=>by obtain⟨z,rfl⟩:=XR a;exact⟨z,d,a,f⟩
end
section
variable{p:Bal}{l:List Vt}{w w':World}
theorem Oy{b:Bal}{E:Int}(a:Cl ⟨p,l⟩ b=E)(c:E≠0)(f:Bw w w'):∃ y z,(Ending.returned (.tuple #[.agg #[iv 0,iv 0,sn],sn,iv E]):Ending)=.returned (.tuple #[.agg (acA (ED ⟨p,l⟩ b) y),z,.int .i64 (Cl ⟨p,l⟩ b)])/\w'.ownsRow w.heap.size 148 8 y (Du ⟨p,l⟩ b).length (vtL (Du ⟨p,l⟩ b))/\w'.ownsRow w.heap.size 148 8 z (Du ⟨p,l⟩ b).length (vtL (Du ⟨p,l⟩ b))/\Bw w w':=by
 have d:ED ⟨p,l⟩ b=⟨0,0⟩:=if_neg (by rw[a];exact c);have e:Du ⟨p,l⟩ b=[]:=if_neg (by rw[a];exact c);rw[d,e,a];exact⟨sn,sn,rfl,World.ownsRow_nil _ _ _ _,World.ownsRow_nil _ _ _ _,f⟩
theorem bJ{b:Bal}{y z:S3}(e:Ah ⟨p,l⟩)(f:Ad b)(h:¬ b.lt p)(j:w'.ownsRow w.heap.size 148 8 y.v l.length (vtL l))(k:w'.ownsRow w.heap.size 148 8 z.v l.length (vtL l))(i:Bw w w'):∃ y' z',(Ending.returned (.tuple #[.agg #[iv b.r,iv b.n,y.v],z.v,iv 0]):Ending)=.returned (.tuple #[.agg (acA (ED ⟨p,l⟩ b) y'),z',.int .i64 (Cl ⟨p,l⟩ b)])/\w'.ownsRow w.heap.size 148 8 y' (Du ⟨p,l⟩ b).length (vtL (Du ⟨p,l⟩ b))/\w'.ownsRow w.heap.size 148 8 z' (Du ⟨p,l⟩ b).length (vtL (Du ⟨p,l⟩ b))/\Bw w w':=by
 have a:Cl ⟨p,l⟩ b=0:=(if_neg (λg=>g e)).trans ((if_neg (λg=>g f)).trans (if_neg h));have c:ED ⟨p,l⟩ b=b:=if_pos a;have d:Du ⟨p,l⟩ b=l:=if_pos a;rw[c,d,a];exact⟨y.v,z.v,rfl,j,k,i⟩
end
theorem CN(p:Bal)(x:Value)(l:List Vt)(b:Bal)(w:World)(h:Sv w x l)(J:NTab w) :
  Calls prog 103 #[.agg (acA p x),.agg (baA b)] w λe w'=>∃ y z,e=.returned (.tuple #[.agg (acA (ED ⟨p,l⟩ b) y),z,.int .i64 (Cl ⟨p,l⟩ b)])/\w'.ownsRow w.heap.size 148 8 y (Du ⟨p,l⟩ b).length (vtL (Du ⟨p,l⟩ b))/\w'.ownsRow w.heap.size 148 8 z (Du ⟨p,l⟩ b).length (vtL (Du ⟨p,l⟩ b))/\Bw w w':=by
 obtain⟨y,rfl⟩:=h.s3;show Calls prog 103 #[.agg #[iv p.r,iv p.n,S3.v y],.agg #[iv b.r,iv b.n]] w _;refine tIn [] func103 trivial (tR 12 [0,0,0,0,1,0,0] λc _ _=>tC1 1 (λF C=>IA p y.v l _ (h.ab (CgQ.ab C)) (J.ab (CgQ.ab C))) λ_=>tR 7 [] λK _ _=>?_);by_cases d:Ah ⟨p,l⟩
 .have hE:EP ⟨p,l⟩=0:=if_pos d;refine tI (((EP ⟨p,l⟩) != 0)) false (by rw[hE];decide) (tR 5 [1] λL _ _=>?_);by_cases f:Ad b
  .refine tC1 1 (λF C=>H9 (b:=b) (r:=true) (I' f)) λ_=>tR 10 [1,0] λM _ _=>?_;by_cases k:b.lt p
   .refine tC1 3 (λF C=>DG (a:=b) (b:=p) (r:=true) (I' k)) λ_=>tR 9 [2,0] λN _ _=>tX λF C=>qE3 4 5 6 91 2 (c 2) #[iv 0,iv 0,sn] sn (iv 7) λ_=>Oy ((if_neg (λg=>g d)).trans ((if_neg (λg=>g f)).trans (if_pos k))) (by decide) (CgQ.ab C)
   .refine tC1 3 (λF C=>DG (a:=b) (b:=p) (r:=false) (D' k)) λ_=>tR 10 [8,0,1,2,4,0,10,12,0] λD _ _=>tF λ_ m=>?_;have i:=m.size;refine tC 3 (λF C=>SS (h.ab (CgQ.ab C))) λo=>?_;rintro _ _ ⟨A,rfl,t,q⟩;refine⟨_,Fa.fo w.heap.size 148 8 A.v l.length (vtL l)::_,rfl,q,λF=>⟨WR t i o,F⟩,?_⟩;refine tR 1 [8] λE _ _=>tF λ_ m=>?_;have j:=m.size;refine tC 7 (λF C=>SS (h.ab (CgQ.ab C))) λo=>?_;rintro _ _ ⟨B,rfl,u,s⟩;refine⟨_,Fa.fo w.heap.size 148 8 B.v l.length (vtL l)::_,rfl,s,λF=>⟨WR u j o,F⟩,?_⟩;refine tR 4 [17,2,0,18,20] λG _ _=>tX λF C=>qE3 4 5 6 91 2 (c 2) #[iv b.r,iv b.n,S3.v A] (S3.v B) (iv 0) λ_=>bJ d f k F.2.1.1 F.1.1 (CgQ.ab C)
  .refine tC1 1 (λF C=>H9 (b:=b) (r:=false) (D' f)) λ_=>tR 10 [2,0] λH _ _=>tX λF C=>qE3 4 5 6 91 2 (c 2) #[iv 0,iv 0,sn] sn (iv 2) λ_=>Oy ((if_neg (λg=>g d)).trans (if_pos f)) (by decide) (CgQ.ab C)
 .have hE:EP ⟨p,l⟩=5:=if_neg d;refine tI (((EP ⟨p,l⟩) != 0)) true (by rw[hE];decide) ?_;refine tR 8 [2,0] λI _ _=>tX λF C=>qE3 4 5 6 91 2 (c 2) #[iv 0,iv 0,sn] sn (iv (EP ⟨p,l⟩)) λ_=>by rw[hE];exact Oy (if_pos d) (by decide) (CgQ.ab C)
theorem CD(a:Acc)(b:Bal):(Du a b).length<=a.vs.length:=by unfold Du;split<;>simp
theorem PW(p:Bal)(x:Value)(l:List Vt)(b:Bal)(w:World)(h:Sv w x l)(d:NTab w) :
  Calls prog 103 #[.agg (acA p x),.agg (baA b)] w λe w'=>∃ y z,e=.returned (.tuple #[.agg (acA (ED ⟨p,l⟩ b) y),z,.int .i64 (Cl ⟨p,l⟩ b)])/\Sv w' y (Du ⟨p,l⟩ b)/\Sv w' z (Du ⟨p,l⟩ b)/\Bw w w' :=
 (CN p x l b w h d).mono λe w' ⟨y,z,c,f,g,a⟩=>⟨y,z,c,Sv.kc f (jG (CD ⟨p,l⟩ b) h.len),Sv.kc g (jG (CD ⟨p,l⟩ b) h.len),a⟩
section
variable{p:Bal}{l:List Vt}{w w':World}{v:Vt}
theorem eZ{p:Bal}{l:List Vt}{v:Vt}(a:Ah ⟨p,l⟩)(b:Ak v):(Ba l v).length<=40:=by
 rw[<- aF 40 a.2.2 (λu c=>by have:=(a.2.1 u c).1.1;omega) (by have:=b.1;omega)];exact WY _ a.2.2 40
theorem NO{E:Int}(a:AV ⟨p,l⟩ v=E)(b:E≠0)(e:Bw w w'):∃ y,(Ending.returned (.tuple #[.agg #[iv 0,iv 0,sn],iv E]):Ending)=.returned (.tuple #[.agg (acA (BG ⟨p,l⟩ v) y),.int .i64 (AV ⟨p,l⟩ v)])/\w'.ownsRow w.heap.size 148 8 y (Bu ⟨p,l⟩ v).length (vtL (Bu ⟨p,l⟩ v))/\(Bu ⟨p,l⟩ v).length<=40/\Bw w w':=by
 have c:BG ⟨p,l⟩ v=⟨0,0⟩:=if_neg (by rw[a];exact b);have d:Bu ⟨p,l⟩ v=[]:=if_neg (by rw[a];exact b);rw[c,d,a];exact⟨sn,rfl,World.ownsRow_nil _ _ _ _,by simp,e⟩
theorem Zm{y:S3}(c:Ah ⟨p,l⟩)(d:Ak v)(h:¬ v.b.lt p)(j:w'.ownsRow w.heap.size 148 8 y.v (Ba l v).length (vtL (Ba l v)))(i:Bw w w'):∃ y',(Ending.returned (.tuple #[.agg #[iv v.b.r,iv v.b.n,y.v],iv 0]):Ending)=.returned (.tuple #[.agg (acA (BG ⟨p,l⟩ v) y'),.int .i64 (AV ⟨p,l⟩ v)])/\w'.ownsRow w.heap.size 148 8 y' (Bu ⟨p,l⟩ v).length (vtL (Bu ⟨p,l⟩ v))/\(Bu ⟨p,l⟩ v).length<=40/\Bw w w':=by
 have a:AV ⟨p,l⟩ v=0:=(if_neg (λg=>g c)).trans ((if_neg (λg=>g d)).trans (if_neg h));have e:BG ⟨p,l⟩ v=v.b:=if_pos a;have f:Bu ⟨p,l⟩ v=Ba l v:=if_pos a;rw[e,f,a];exact⟨y.v,rfl,j,eZ c d,i⟩
end
section
theorem BY(p:Bal)(x:Value)(l:List Vt)(v:Vt)(w:World)(h:Sv w x l)(q:NTab w) :
  Calls prog 105 #[.agg (acA p x),.agg (vtA v)] w λe w'=>∃ y,e=.returned (.tuple #[.agg (acA (BG ⟨p,l⟩ v) y),.int .i64 (AV ⟨p,l⟩ v)])/\w'.ownsRow w.heap.size 148 8 y (Bu ⟨p,l⟩ v).length (vtL (Bu ⟨p,l⟩ v))/\(Bu ⟨p,l⟩ v).length<=40/\Bw w w':=by
 obtain⟨y,rfl⟩:=h.s3;show Calls prog 105 #[.agg #[iv p.r,iv p.n,S3.v y],.agg #[iv v.au,iv v.b.r,iv v.b.n,iv v.w.k,iv v.w.c,iv v.w.s,iv v.w.n,iv v.w.v]] w _;refine tIn [] func105 trivial (tR 11 [0,0,0,0,1,0,0] λd _ _=>tC1 1 (λF C=>IA p y.v l _ (h.ab (CgQ.ab C)) (q.ab (CgQ.ab C))) λ_=>tR 7 [] λH _ _=>?_);by_cases f:Ah ⟨p,l⟩
 .have hE:EP ⟨p,l⟩=0:=if_pos f;refine tI (((EP ⟨p,l⟩) != 0)) false (by rw[hE];decide) (tR 5 [1] λI _ _=>?_);by_cases i:Ak v
  .refine tC1 1 (λF C=>Gq (v:=v) (q.ab (CgQ.ab C)) (r:=true) (I' i)) λ_=>tR 11 [1,0] λJ _ _=>?_;by_cases m:v.b.lt p
   .refine tC1 4 (λF C=>DG (a:=v.b) (b:=p) (r:=true) (I' m)) λ_=>tR 8 [2,0] λK _ _=>tX λF C=>qE2 4 5 91 2 (d 2) #[iv 0,iv 0,sn] (iv 7) λ_=>NO ((if_neg (λg=>g f)).trans ((if_neg (λg=>g i)).trans (if_pos m))) (by decide) (CgQ.ab C)
   .refine tC1 4 (λF C=>DG (a:=v.b) (b:=p) (r:=false) (D' m)) λ_=>tR 10 [7,0,2,1,4,6,0,8,1] λz _ _=>tF λ_ E=>?_;have j:=E.size;refine tC 5 (λF C=>dj (v:=v) f.2.2 (h.ab (CgQ.ab C))) λG=>?_;rintro _ _ ⟨u,rfl,t,o⟩;refine⟨_,Fa.fo w.heap.size 148 8 u.v (Ba l v).length (vtL (Ba l v))::_,rfl,o,λF=>⟨WR t j G,F⟩,?_⟩;refine tR 4 [12,15,2,0,16] λA _ _=>tX λF C=>qE2 4 5 91 2 (d 2) #[iv v.b.r,iv v.b.n,S3.v u] (iv 0) λ_=>Zm f i m F.1.1 (CgQ.ab C)
  .refine tC1 1 (λF C=>Gq (v:=v) (q.ab (CgQ.ab C)) (r:=false) (D' i)) λ_=>tR 9 [2,0] λB _ _=>tX λF C=>qE2 4 5 91 2 (d 2) #[iv 0,iv 0,sn] (iv 2) λ_=>NO ((if_neg (λg=>g f)).trans (if_pos i)) (by decide) (CgQ.ab C)
 .have hE:EP ⟨p,l⟩=5:=if_neg f;refine tI (((EP ⟨p,l⟩) != 0)) true (by rw[hE];decide) ?_;refine tR 7 [2,0] λD _ _=>tX λF C=>qE2 4 5 91 2 (d 2) #[iv 0,iv 0,sn] (iv (EP ⟨p,l⟩)) λ_=>by rw[hE];exact NO (if_pos f) (by decide) (CgQ.ab C)
theorem QC(p:Bal)(x:Value)(l:List Vt)(v:Vt)(w:World)(h:Sv w x l)(c:NTab w) :
  Calls prog 105 #[.agg (acA p x),.agg (vtA v)] w λe w'=>∃ y,e=.returned (.tuple #[.agg (acA (BG ⟨p,l⟩ v) y),.int .i64 (AV ⟨p,l⟩ v)])/\Sv w' y (Bu ⟨p,l⟩ v)/\Bw w w' :=
 (BY p x l v w h c).mono λe w' ⟨y,b,d,f,a⟩=>⟨y,b,Sv.kc d (by omega),a⟩
structure Base(w0:World)(g:Gh)(w:World):Prop where
 b:Bw w0 w
 z:∀ k,k<w0.heap.size->g.t k=.z
variable{B:Nat}{a:Acc}{g:Gh}{w w' w0:World}{y:Value}
theorem Base.ch{T:List Tg}{d:Gh}(h:Base w0 g w)(c:Cg B T g w d w')(f:Tg.z∉T:=by simp):Base w0 d w' :=
 have e:∀ k,k<w0.heap.size->k<w.heap.size:=λk a=>Y' a h.b.size
 ⟨⟨c.os.trans h.b.os,c.tape.trans h.b.tape,c.output.trans h.b.output,jG h.b.size c.size,λk a=>(c.zc f (e k a) (h.z k a)).trans (h.b.block k a)⟩,λk a=>(c.tag (e k a) (by rw[h.z k a];intro h;cases h)).trans (h.z k a)⟩
structure Tabs(w:World):Prop where
 t:Ax w
 n:NTab w
 q:Cp w
theorem Base.tt(h:Base w0 g w)(t:Tabs w0):Ax w:=t.t.ab h.b
theorem Base.tn(h:Base w0 g w)(t:Tabs w0):NTab w:=t.n.ab h.b
theorem Base.tq(h:Base w0 g w)(t:Tabs w0):Cp w:=t.q.ab t.q.pos h.b
theorem D6{l:List Vt}(h:w'.ownsRow B 148 8 y l.length (vtL l))(e:∀ b,B<=b->g.t b=.z)(f:l.length<=2199023255488):∃ y3:S3,y=y3.v/\y3.n=l.length/\FSv g w' y3 l:=by
 have d:=Sv.kc h f;rcases h.2 with⟨rfl,h0⟩|⟨b,cap,cur,rfl,hb,_⟩
 .exact⟨s30,rfl,h0.symm,d,λi=>absurd (Z' h0) i⟩
 .exact⟨⟨some ⟨b,0,none⟩,l.length,cap⟩,rfl,rfl,d,λ_ a c=>by simp only[V']at c;subst c;exact e b hb⟩
theorem bF{l:List Int}(h:w'.ownsRow B 5 1 y l.length (l.map (Value.int .u8)))(k:∀ b,B<=b->g.t b=.z)(m:l.length<=140737488351232)(j:∀ x∈l,0<=x/\x<256):∃ y3:S3,y=y3.v/\y3.n=l.length/\FSl g w' y3 l:=by
 rcases h.2 with⟨rfl,h0⟩|⟨b,cap,cur,rfl,hbb,hh,hc,_,hcs,ht⟩
 .have d:l=[]:=Z' h0;subst d;exact⟨s30,rfl,rfl,⟨⟨none,0,rfl,A' _,λ_=>rfl,.inl rfl⟩,by simp,by simp⟩,λd=>absurd rfl d⟩
 .refine⟨⟨some ⟨b,0,none⟩,l.length,cap⟩,rfl,rfl,⟨⟨_,_,rfl,hc,λh=>(by cases h),.inr ⟨b,0,rfl,rl hh,λi f=>?_⟩⟩,m,j⟩,λ_ a e=>by simp only[V']at e;subst e;exact k b hbb⟩;have c:(l.map (Value.int .u8))[i]?=some (.int .u8 (l.getD i 0)):=by rw[kh,E' f,kb,E' f];rfl
  rw[<- ht,kJ]at c
  split at c
  .rw[cell_of_row _ _ _ _ _ _ hh,kl];simpa using c
  .cases c
theorem Jh{d:List Int}{s:Int}{may:Prop}[Decidable may]{b:List Int}(h:CQ d s may b=0):AZ d s/\d.length+(b.length+5)<=100000/\may:=by
 unfold CQ at h;by_cases c:Hc d s (b.length+5)≠0
 .rw[if_pos c]at h;exact absurd h c
 .rw[if_neg c]at h
  have e:may:=kP λe=>by rw[if_neg e]at h;cases h
  have a:Hc d s (b.length+5)=0:=by simpa using c
  unfold Hc at a;by_cases f:AZ d s
  .rw[if_neg (λg=>g f)]at a
   refine⟨f,?_,e⟩;rcases kt 100000 (d.length+(b.length+5))with h2|h2
   .rw[if_pos h2]at a;cases a
   .exact h2
  .rw[if_pos f]at a;cases a
theorem fF{b:Bal}(h:Cl a b=0):ED a b=b/\Du a b=a.vs:=⟨if_pos h,if_pos h⟩
theorem DS{v:Vt}(h:AV a v=0):BG a v=v.b/\Bu a v=Ba a.vs v:=⟨if_pos h,if_pos h⟩
end
end
section
open Go.ChangeShapes Go.WideShapes Go.ChangeAt Go.RowKit
theorem jA{W:World}(h:laidMetH prog Rows.topChainsRow.laid W):Tabs W/\LWTab W/\LBTab W:=by
 have u:laidMet prog Rows.topChainsRow.laid W:=h;obtain⟨C,⟨w,G,r,d,z,D,k,n,a,g,⟨x,H,s,e,A,E,l,o,b,i,⟨y,I,t,f,B,F,m,p,c,j,v,_⟩,_⟩,_⟩,_⟩:=u;have q:=cM v;obtain rfl:=kK (WU.symm.trans k);obtain rfl:=kK (Rt.symm.trans n);obtain rfl:=kK (ig.symm.trans l);obtain rfl:=kK (WV.symm.trans o);obtain rfl:=kK (dw.symm.trans m);obtain rfl:=kK (Up.symm.trans p);exact⟨⟨Yr b i,bf c j,Yf a g⟩,q.1,q.2⟩
def I5(os:Os)(W:World):Prop :=
 W={ World.holding prog os ⟨#[],#[],[]⟩with heap:=(((((World.holding prog os ⟨#[],#[],[]⟩).heap.modify 4 (Xx Va)).modify 3 (Xx (R6.map (Value.int .u32)).toArray)).modify 2 (Xx (Nk.map (Value.int .i64)).toArray)).modify 1 (Xt OU)).modify 0 (Xt QK) }
theorem ah(a:Os):∃ W,I5 a W:=⟨_,rfl⟩
end
section
open Go.RowKit
section
def cmG(c:Cmd):Value:=.agg #[iv c.k,iv c.c,iv c.s,iv c.n,iv c.v]
theorem Tm(x:Cmd × Bal × Nat):(mkA x).key=cmG x.1:=rfl
theorem WJ(u v:Cmd)(w:World):(Op.equal 47 (cmG u) (cmG v)).run prog w=.ok (decide (u=v)) w:=by
 have a:=SV u.k u.c u.s u.n u.v v.k v.c v.s v.n v.v w;rw[SP]at a
 rw[run_eql_struct]at a
 show(Op.equalIn 10000 _ _ _).run _ _=_;simp only[cmG];cases hr:(Op.equalIn 10000 47 (.agg #[iv u.k,iv u.c,iv u.s,iv u.n,iv u.v]) (.agg #[iv v.k,iv v.c,iv v.s,iv v.n,iv v.v])).run prog w with
 | ok b w'=>simp only[hr]at a;simp[Result.andThen]at a;rw[a.1,a.2]
 | _=>simp only[hr]at a;simp[Result.andThen]at a
abbrev Ask:=Cmd × Bal × Nat
def KU(v:Cmd):List Ask->Nat->Option (Nat × Value)
 | [],_=>none
 | x::c,i=>if v=x.1 then some (i,(mkA x).val)else KU v c (i+1)
theorem MI(v:Cmd)(w:World):∀ (c:List Ask) (i:Nat),(Instr.findAsking 47 (cmG v) (c.map mkA) i).run prog w=.ok (KU v c i) w
 | [],i=>by simp[Instr.findAsking,KU]
 | x::c,i=>by
  have h:=WJ v x.1 w;rw[kf,Instr.findAsking,Sem.run_bind];rw[Tm,h,Result.andThen_ok,KU];by_cases e:v=x.1
  .rw[I' e,if_pos e];rfl
  .rw[D' e,if_neg e];simpa using MI v w c (i+1)
theorem Gl(v:Cmd)(w:World)(c:List Ask):(Instr.findKey 47 (cmG v) (c.map mkA)).run prog w=.ok (KU v c 0) w:=by
 rw[Instr.findKey,Sem.run_bind,run_underlying underlying47 w,Result.andThen_ok];cases c with
 | nil=>simp[Instr.findNow,KU]
 | cons x c =>
  show Sem.run _ (match(none:Option (Option (Nat × Value)))with|some r=>pure r|none=>Instr.findAsking 47 (cmG v) ((x::c).map mkA)) w=_;exact MI v w (x::c) 0
theorem E5(a:Bool)(v:Cmd)(w:World):(Instr.checkKey a 10000 47 (cmG v)).run prog w=.ok () w:=by
 obtain⟨k,c,q,m,x⟩:=v;kernel_rfl
theorem cx(v:Cmd)(n:Nat):Instr.sameBits (n+1) (cmG v) (cmG v)=true:=by simp[Instr.sameBits,cmG]
theorem YA(v:Cmd)(w:World):(Instr.keyThatStays (cmG v) (cmG v)).run prog w=.ok (cmG v) w:=by
 rw[Instr.keyThatStays,if_pos (cx v 9999)];rfl
def Fy(c:List Ask)(v:Cmd):Option Bal:=(c.find? λx=>decide (v=x.1)).map (·.2.1)
theorem Ko(v:Cmd):∀ (c:List Ask) (i:Nat),(KU v c i=none/\Fy c v=none/\∀ x∈c,v≠x.1)\/∃ a x b,c=a++x::b/\x.1=v/\(∀ y∈a,v≠y.1)/\KU v c i=some (i+a.length,(mkA x).val)/\Fy c v=some x.2.1
 | [],i=>.inl ⟨rfl,rfl,λx hx=>by cases hx⟩
 | x::c,i=>by
  by_cases e:v=x.1
  .refine .inr ⟨[],x,c,rfl,e.symm,λy hy=>(N' hy).elim,?_,?_⟩
   .rw[KU,if_pos e];rfl
   .simp[Fy,e]
  .rcases Ko v c (i+1)with⟨h1,h2,h3⟩|⟨a,y,b,rfl,hy,h3,h4,h5⟩
   .refine .inl ⟨by rw[KU,if_neg e,h1],?_,λy hy=>?_⟩
    .rw[<- h2];simp[Fy,e]
    .rcases jQ.1 hy with rfl|hy
     .exact e
     .exact h3 y hy
   .refine .inr ⟨x::a,y,b,rfl,hy,λz hz=>?_,?_,?_⟩
    .rcases jQ.1 hz with rfl|hz
     .exact e
     .exact h3 z hz
    .rw[KU,if_neg e,h4];simp;omega
    .rw[<- h5];simp[Fy,e]
def JG(b:Bal):Value:=.agg #[iv b.r,iv b.n]
variable{b:Nat}{f:Cmd->Option Bal}{g:Gh}{w:World}{τ:Tg}
theorem dI(h:AskAt g w τ b f)(v:Cmd)(ok:Bool):(Instr.lookup 96 (.map (some b)) (cmG v) ok).run prog w=.ok (if ok then .tuple #[JG ((f v).getD Bh),.bool (f v).isSome]else JG ((f v).getD Bh)) w:=by
 obtain⟨_,_,c,k,j,_,_,_,l⟩:=h;have e:f v=Fy c v:=l v;have i:(getObj b).run prog w=.ok (.map (c.map mkA).toArray k) w:=by simp[getObj,Sem.run,j]
 rcases Ko v c 0 with⟨h1,h2,_⟩|⟨a,x,d,_,_,_,h1,h2⟩
 .rw[h2]at e
  cases ok<;>simp[Instr.lookup,run_underlying underlying96,i,E5,Gl,h1,e,JG,Bh]
 .rw[h2]at e
  cases ok<;>simp[Instr.lookup,run_underlying underlying96,i,E5,Gl,h1,e,mkA,JG]
theorem Cg.block{B:Nat}{T:List Tg}{m:Array MapEntry}{k:Nat}(f:w.heap[b]?=some (.map m k))(r:g.t b=τ)(q:g.k b=0)(d:τ∈T)(o:Obj):Cg B T g w g (ChangeMaps.setBlock w b o) :=
 have c:∀ a,g.t a∉T->a≠b:=λa h e=>h (by rw[e,r];exact d)
 ⟨rfl,rfl,rfl,by simp[ChangeMaps.setBlock],λ_ _=>.inl rfl,λ_ _=>A' _,λ_ _ _ _=>rfl,λa _ h _=>ChangeMaps.heap_setBlock_other f o (c a h),
  λa _ j p=>World.cell?_of_block (w:=w) (ChangeMaps.heap_setBlock_other f o (λe=>by have i:a=b:=e;rw[i,q]at p;omega))⟩
theorem Uo(c:List Ask)(v u:Cmd)(x:Bal)(k:Nat)(h:∀ y∈c,v≠y.1):Fy (c++[(v,x,k)]) u=if u=v then some x else Fy c u:=by
 unfold Fy;rw[lz];by_cases e:u=v
 .subst e;have a:c.find? (λy=>decide (u=y.1))=none:=by
   rw[lF];intro y b;simp[h y b]
  simp[a]
 .rw[if_neg e];simp[e]
theorem WM(a d:List Ask)(v u:Cmd)(x y:Bal)(k:Nat)(h:∀ y∈a,v≠y.1):Fy (a++(v,y,k)::d) u=if u=v then some y else Fy (a++(v,x,k)::d) u:=by
 unfold Fy;rw[lz,lz,mi,mi];by_cases e:u=v
 .subst e;have b:a.find? (λy=>decide (u=y.1))=none:=by
   rw[lF];intro y c;simp[h y c]
  simp[b]
 .rw[if_neg e];simp[e]
theorem WO(a d:List Ask)(v u:Cmd)(x:Bal)(k:Nat)(h:∀ y∈a,v≠y.1)(f:∀ y∈d,v≠y.1):Fy (a++d) u=if u=v then none else Fy (a++(v,x,k)::d) u:=by
 unfold Fy;rw[lz,lz,mi];by_cases e:u=v
 .subst e;have g:a.find? (λy=>decide (u=y.1))=none:=by
   rw[lF];intro y c;simp[h y c]
  have b:d.find? (λy=>decide (u=y.1))=none:=by
   rw[lF];intro y c;simp[f y c]
  simp[g,b]
 .rw[if_neg e];simp[e]
theorem Zy(h:AskAt g w τ b f)(v:Cmd)(x:Bal):∃ w',(Instr.mapUpdate 96 (.map (some b)) (cmG v) (JG x)).run prog w=.ok () w'/\AskAt g w' τ b (Ez f v (some x))/\(∀ B T,τ∈T->Cg B T g w g w')/\w'.heap.size=w.heap.size:=by
 obtain⟨s,j,c,k,l,m,n,o,E⟩:=h;have F:(getObj b).run prog w=.ok (.map (c.map mkA).toArray k) w:=by simp[getObj,Sem.run,l]
 rcases Ko v c 0 with⟨h1,h2,h3⟩|⟨a,y,d,rfl,hy,h3,h1,h2⟩
 .have C:=MapKept.run_setObj_map (P:=prog) (w:=w) (.map ((c++[(v,x,k)]).map mkA).toArray (k+1)) l;refine⟨_,?_,⟨s,j,c++[(v,x,k)],k+1,ChangeMaps.heap_setBlock_same l (.map ((c++[(v,x,k)]).map mkA).toArray (k+1)),?_,?_,?_,?_⟩,λB T t=>Cg.block l s j t _,by simp[ChangeMaps.setBlock]⟩
  .have z:((c.map mkA).toArray.push { key:=cmG v,val:=JG x,born:=k })=((c++[(v,x,k)]).map mkA).toArray:=by simp[mkA,cmG,JG,cmV]
   rw[Instr.mapUpdate];simp only[Sem.run_bind,run_underlying underlying96,Result.andThen_ok,F,E5,Gl,h1,z,C];rfl
  .intro y hy;rcases Q'.1 hy with hy|hy
   .have:=m y hy;omega
   .obtain rfl:y=(v,x,k):=by simpa using hy
    show k<k+1;omega
  .rw[jW,nu];refine⟨n,by simp,?_⟩;intro p A q r;obtain⟨y,hy,rfl⟩:=kn.1 A;obtain rfl:q=k:=by simpa using r
   have:=m y hy;omega
  .rw[jW,nu];refine⟨o,by simp,?_⟩;intro p A q r;obtain⟨y,hy,rfl⟩:=kn.1 A;obtain rfl:q=v:=by simpa using r
   exact λe=>h3 y hy e.symm
  .intro u;rw[show(List.find? (λx=>decide (u=x.1)) (c++[(v,x,k)])).map (·.2.1)=Fy (c++[(v,x,k)]) u from rfl,Uo c v u x k h3];unfold Ez;split
   .rfl
   .exact E u
 .obtain⟨yv,yb,yk⟩:=y;simp only at hy;subst hy;have C:=MapKept.run_setObj_map (P:=prog) (w:=w) (.map ((a++(yv,x,yk)::d).map mkA).toArray k) l;refine⟨_,?_,⟨s,j,a++(yv,x,yk)::d,k,ChangeMaps.heap_setBlock_same l (.map ((a++(yv,x,yk)::d).map mkA).toArray k),?_,?_,?_,?_⟩,λB T t=>Cg.block l s j t _,by simp[ChangeMaps.setBlock]⟩
  .have hx:((a++(yv,yb,yk)::d).map mkA).toArray[a.length]?=some (mkA (yv,yb,yk)):=by simp
   have z:(((a++(yv,yb,yk)::d).map mkA).toArray.modify a.length λe=>{ e with key:=cmG yv,val:=JG x })=((a++(yv,x,yk)::d).map mkA).toArray:=by
    apply l9;intro i;rw[mS];split
    .rename_i hi
     subst hi;simp[mkA,cmG,JG,cmV]
    .rename_i hi
     simp only[ky,jW,kf];rcases kt i a.length with g|g
     .rw[jO (by simpa using g),jO (by simpa using g)]
     .rw[jP (by simpa using g),jP (by simpa using g)];obtain⟨q,r⟩:∃ q,i-(a.map mkA).length=q+1:=⟨i-a.length-1,by simp;omega⟩;rw[r];rfl
   have D:=YA yv w;rw[Instr.mapUpdate];simp only[Sem.run_bind,run_underlying underlying96,Result.andThen_ok,F,E5,Gl,h1,kl,hx,ku,mV];rw[Tm,D,Result.andThen_ok,z,C];rfl
  .intro y hy;rcases Q'.1 hy with hy|hy
   .exact m y (ks _ hy)
   .rcases jQ.1 hy with rfl|hy
    .exact m (yv,yb,yk) (by simp)
    .exact m y (kw _ (O' _ hy))
  .simpa using n
  .simpa using o
  .intro u;rw[show(List.find? (λx=>decide (u=x.1)) (a++(yv,x,yk)::d)).map (·.2.1)=Fy (a++(yv,x,yk)::d) u from rfl,WM a d yv u yb x yk h3];unfold Ez;split
   .rfl
   .exact E u
theorem Zx(h:AskAt g w τ b f)(v:Cmd)(A:TypeId):∃ w',(Builtin.delete_ #[96,47] A #[.map (some b),cmG v]).run prog w=.ok (.tuple #[]) w'/\AskAt g w' τ b (Ez f v none)/\(∀ B T,τ∈T->Cg B T g w g w')/\w'.heap.size=w.heap.size:=by
 obtain⟨n,j,c,k,l,p,m,i,s⟩:=h;have t:(getObj b).run prog w=.ok (.map (c.map mkA).toArray k) w:=by simp[getObj,Sem.run,l]
 rcases Ko v c 0 with⟨h1,h2,h3⟩|⟨a,y,d,rfl,hy,h3,h1,h2⟩
 .have q:=MapKept.run_setObj_map (P:=prog) (w:=w) (.map (c.map mkA).toArray k) l;refine⟨_,?_,⟨n,j,c,k,ChangeMaps.heap_setBlock_same l (.map (c.map mkA).toArray k),p,m,i,?_⟩,λB T o=>Cg.block l n j o _,by simp[ChangeMaps.setBlock]⟩
  .simp[Builtin.delete_,run_underlying underlying96,t,E5,Gl,h1,q];rfl
  .intro u;unfold Ez;split
   .rename_i e;rw[e];exact h2.symm
   .exact s u
 .obtain⟨yv,yb,yk⟩:=y;simp only at hy;subst hy;have q:=MapKept.run_setObj_map (P:=prog) (w:=w) (.map ((a++d).map mkA).toArray k) l;have z:∀ y∈d,yv≠y.1:=by
   intro y hy e;rw[jW,kf,nu]at i
   exact(List.nodup_cons.1 i.2.1).1 (kn.2 ⟨y,hy,e.symm⟩)
  refine⟨_,?_,⟨n,j,a++d,k,ChangeMaps.heap_setBlock_same l (.map ((a++d).map mkA).toArray k),?_,?_,?_,?_⟩,λB T o=>Cg.block l n j o _,by simp[ChangeMaps.setBlock]⟩
  .have he:(((a++(yv,yb,yk)::d).map mkA).toArray.eraseIdxIfInBounds a.length)=((a++d).map mkA).toArray:=by
    rw[Array.eraseIdxIfInBounds,dif_pos (by simp)];simp[List.eraseIdx_append_of_length_le]
   have r:=Gl yv w (a++(yv,yb,yk)::d);rw[h1,kl]at r
   simp only[Builtin.delete_,ky,kY,mC,Sem.run_bind,run_underlying underlying96,Result.andThen_ok,t,E5,r,he,q];rfl
  .intro y hy;rcases Q'.1 hy with hy|hy
   .exact p y (ks _ hy)
   .exact p y (kw _ (O' _ hy))
  .rw[jW,kf]at m
   rw[jW];exact m.sublist (List.Sublist.append_left (List.sublist_cons_self _ _) _)
  .rw[jW,kf]at i
   rw[jW];exact i.sublist (List.Sublist.append_left (List.sublist_cons_self _ _) _)
  .intro u;rw[show(List.find? (λx=>decide (u=x.1)) (a++d)).map (·.2.1)=Fy (a++d) u from rfl,WO a d yv u yb yk h3 z];unfold Ez;split
   .rfl
   .exact s u
end
section
variable{fn:Func}{R:Ending->World->Prop}{B:Nat}{T:List Tg}{g:Gh}{w:World}
section
variable{b:Nat}{f:Cmd->Option Bal}{g:Gh}{s:Xs}{w:World}{τ:Tg}
theorem Yg(h:AskAt g w τ b f)(v:Cmd):(Instr.lookup 96 (.map (some b)) (cmG v) true).run prog w=.ok (.tuple #[JG ((f v).getD Bh),.bool (f v).isSome]) w:=dI h v true
theorem fK(h:AskAt g w τ b f)(v:Cmd):(Instr.lookup 96 (.map (some b)) (cmG v) false).run prog w=.ok (JG ((f v).getD Bh)) w:=dI h v false
theorem SZ(c:Nat){τ:Tg}{b:Nat}{f:Cmd->Option Bal}(v:Cmd)(x:Bal)(h:AskAt g w τ b f)(a:Dd s c=some (Instr.mapUpdate 96 (.map (some b)) (cmG v) (JG x)>>=λ_=>pure .skip))(d:(nxt s c undef s.L).o.map Ob.l'=(nxt s c undef s.L).o.map Ob.r')(r:s.L.all (λy=>[τ].all λt=>y.t.ne t)=true)(u:∀ w',AskAt g w' τ b (Ez f v (some x))->(∀ B T,τ∈T->Cg B T g w g w')->GG prog fn R B T (nxt s c undef s.L).s g w'):GG prog fn R B T s g w:=by
 refine JM c s.L d (BE a) λk C i o e=>?_;obtain⟨w',A,p,j,q⟩:=Zy h v x;refine⟨undef,w',g,.inr ⟨?_,rfl⟩,k.ch (j _ [τ] (G'.2 rfl)) (λb m=>k.new b (by rw[q]at m;exact m)) r,u w' p j⟩;rw[CY a e,Sem.run_bind,A,Result.andThen_ok];rfl
theorem aA(c:Nat){τ:Tg}{b:Nat}{f:Cmd->Option Bal}(v:Cmd)(p:TypeId)(h:AskAt g w τ b f)(a:Dd s c=some (Builtin.delete_ #[96,47] p #[.map (some b),cmG v]>>=λv=>pure (.value v)))(d:(nxt s c undef s.L).o.map Ob.l'=(nxt s c undef s.L).o.map Ob.r')(u:s.L.all (λy=>[τ].all λt=>y.t.ne t)=true)(x:∀ w',AskAt g w' τ b (Ez f v none)->(∀ B T,τ∈T->Cg B T g w g w')->GG prog fn R B T (nxt s c (.tuple #[]) s.L).s g w'):GG prog fn R B T s g w:=by
 refine JM c s.L d (BE a) λk C i o e=>?_;obtain⟨w',A,q,j,r⟩:=Zx h v p;refine⟨.tuple #[],w',g,.inl ?_,k.ch (j _ [τ] (G'.2 rfl)) (λb m=>k.new b (by rw[r]at m;exact m)) u,x w' q j⟩;rw[CY a e,Sem.run_bind,A,Result.andThen_ok];rfl
end
end
section
def TO:List Tg:=[.n 50 0,.n 51 0,.n 52 0]
variable{c:Cmd}{g:Gh}{i j k nb ob:Nat}{l:Let}{ls:List Let}{p:Nod}{ts:List Tol}{v:Vt}{w:World}{x:S3}
theorem Yz{x:NX}{lt s:S3}(C:NodeAt g w i nb ob x p)(q:OutAt g w ob lt s ls ts)(D:I4 g w)(Q:ls.length<100000000)(l:Let)(k m:S3)(E:FSv g w k l.ln)(F:Rc g w m l.ed)(t:Nat) :
  Calls prog 89 #[pt nb 0,iv (t:Int),.agg (EX l k m)] w λe w'=>∃ g' lt',e=.returned (.tuple #[])/\OutAt g' w' ob lt' s (ls++[{ l with src:=i,dst:=t }]) ts/\Cg w.heap.size TO g w g' w'/\I4 g' w':=by
 obtain⟨B,u,h⟩:=q.bt;have j:lt.n=ls.length:=by have:=u.len;have:=h.len;simp at *;omega
 refine gI (fn:=f89) TO g func89 D (qN C (qO q (qR [] 29 [0,0,0,2,0,2,0,15,0,2,4,6,0,8,10,12,14,0,16,18,20,1,23,0,0] λc N S c1=>JL 12 (x:=lt) 78 78 151 1 8 (.pointer none) ⟨(c 1),0,none⟩ 1 1 [pt (c 0) 0] (u.ch c1) (by kernel_rfl) (by kernel_rfl) (by kernel_rfl) underlying78 (by kernel_rfl) (by kernel_rfl) (by decide) (by decide) rfl (by simp[Value.oneCell']) (λK=>Cw K 3 (c 1) [pt (c 0) 0] 151 .z true (by kernel_rfl)) (by rw[j];unfold maxLen;omega) (by rw[j];omega) ?_)));intro y O T A R o M;have d:=o w.heap.size [.n 51 0] (G'.2 rfl);refine qR [.n 50 0] 4 [26,28,31,1,1] λs3 P U a=>qE (.tuple #[]) λK=>?_;obtain⟨G,H,I⟩:=K.oH 1 ob (.cells #[S3.v y,S3.v s] 80) 50 0 (by kernel_rfl);obtain⟨J,L⟩:=K.oG 2 (c 0) (.cells (EX { l with src:=i,dst:=t } k m) 150) false (by kernel_rfl);have b:∀ r,Tg.z∉[Tg.n r 0]:=λr=>by simp
 refine⟨_,y,rfl,⟨G,H,I,⟨B++[(c 0)],?_,?_⟩,(((q.cF.ch c1).ch d).ch a)⟩,(((c1.nil TO).trans (d.mono (by simp[TO]))).trans (a.mono (by simp[TO]))),K.new⟩
 .rw[jW];exact A.ch a
 .refine(((h.ch c1).ch d (b _)).ch a (b _)).snoc ⟨k,m,⟨J,L⟩,(((E.ch c1).ch d (b _)).ch a (b _)),(((F.ch c1).ch d (b _)).ch a (b _))⟩
theorem AK(h:NS i nb ob g w p ls ts)(J:p.bn.length<100000000)(e:Fn)(d:Array Value)(q:Pend)(B:Kz g w nb (.func e #[] d) q) :
  Calls prog 59 #[pt nb 0,.func e #[] d] w (NP i nb ob g w (.tuple #[]) (p.wait q) ls ts):=by
 obtain⟨x,lt,C,b,s,A⟩:=h;obtain⟨D,t,j⟩:=b.bn;have u:x.synced.n=p.bn.length:=by have:=t.len;have:=j.len;simp at *;omega
 refine gI (fn:=f59) (TN i) g func59 A (qN b (qO s (qR [] 9 [0,0,0] λv G M c1=>JL 8 (x:=x.synced) 92 92 1 1 8 (.nilFunc) ⟨(v 0),0,none⟩ 1 1 [.func e #[] d] (t.ch c1) (by kernel_rfl) (by kernel_rfl) (by kernel_rfl) underlying92 (by kernel_rfl) (by kernel_rfl) (by decide) (by decide) rfl (by simp[Value.oneCell']) (λK=>Cw K 2 (v 0) [.func e #[] d] 1 .z true (by kernel_rfl)) (by rw[u];unfold maxLen;omega) (by rw[u];omega) ?_)));intro E H N y L o F;have r:=o w.heap.size [.n 1 i] (G'.2 rfl);refine qR [.n 0 i] 5 [0,1] λs3 I O k=>qE (.tuple #[]) λK=>?_;have a:=((c1.nil ([.n 1 i,.n 0 i]:List Tg)).m r).m k;have c:Tg.z∉([.n 1 i,.n 0 i]:List Tg):=by simp
 exact⟨_,rfl,⟨{ x with synced:=E },lt,C,K.nd 0 (b.tape.ch a c) (b.ln.ch a c) (Bl b.al a c) ⟨D++[.func e #[] d],y.ch k,(j.ch a c).snoc (B.ch a c)⟩ (b.dW.ch a) (b.ae.ch a) (b.an.ch a) (b.bw.ch a) b.oO,s.ch a c (by simp<;>omega),K.new⟩,(((c1.nil (TN i)).trans (r.mono (by simp[TN]))).trans (k.mono (by simp[TN])))⟩
theorem Qv(h:NS i nb ob g w p ls ts)(H:ts.length<100000000)(c:Cmd)(b a:Int) :
  Calls prog 56 #[pt nb 0,.agg (cmC c),.agg #[iv b,iv a]] w (NP i nb ob g w (.tuple #[]) p ls (ts++[⟨i,c.c,c.s,b,a⟩])):=by
 obtain⟨x,lt,u,q,d,B⟩:=h;have r:u.n=ts.length:=by have A:=d.cF.len;rw[FW]at A;omega
 refine gI (fn:=f56) (TN i) g func56 B (qN q (qO d (qR [] 28 [0,0,0,0,25,0,2,4,6,0,8,10,12,14,0,16,18,20,1,22,24,26,28,0,30,32,2,34,36,2,38,3,40,43,0,0] λt E J c1=>JL 22 (x:=u) 26 26 109 5 40 (.agg #[iv 0,iv 0,iv 0,iv 0,iv 0]) ⟨(t 2),0,none⟩ 1 1 [iv (i:Int),iv c.c,iv c.s,iv b,iv a] (d.cF.ch c1) (by kernel_rfl) (by kernel_rfl) (by kernel_rfl) underlying26 (by kernel_rfl) (by kernel_rfl) (by decide) (by decide) rfl (by simp[Value.oneCell']) (λK=>Cw K 4 (t 2) [iv (i:Int),iv c.c,iv c.s,iv b,iv a] 109 .z true (by kernel_rfl)) (by rw[r];unfold maxLen;omega) (by rw[r];omega) ?_)));intro C F L y I j D;have o:=j w.heap.size [.n 52 0] (G'.2 rfl);refine qR [.n 50 0] 4 [46,48,51,1,1] λs3 G M e=>qE (.tuple #[]) λK=>?_;have k:=((c1.nil ([.n 52 0,.n 50 0]:List Tg)).m o).m e;have v:Tg.z∉([.n 52 0,.n 50 0]:List Tg):=by simp
 exact⟨_,rfl,⟨x,lt,C,K.pA 0 q k,K.od 1 (D5 d.bt k v (by simp)) (by rw[List.flatMap_append];exact y.ch e),K.new⟩,(((c1.nil (TN i)).trans (o.mono (by simp[TN]))).trans (e.mono (by simp[TN])))⟩
theorem Kb(h:NS i nb ob g w p ls ts)(b:Nat)(l:Let)(m:Cx g w b l) :
  Calls prog 49 #[pt nb 0,pt b 0] w (NP i nb ob g w (.tuple #[]) { p with cn:=max p.cn l.fv.r } ls ts):=by
 obtain⟨x,lt,s,e,j,k⟩:=h;refine gI (fn:=f49) (TN i) g func49 k (qN e (qO j ?_));obtain⟨A,D,a,o,q⟩:=m;refine BU ⟨b,_,.z,false⟩ (λ_=>⟨a.r,a.z,λh=>(by cases h),λh=>absurd rfl h⟩) (by kernel_rfl) ?_;refine qR [] 12 [15,0,2,4,6,8,10,0,12,14,16,18,20,2] λv t B c1=>qT 11 (iv (max p.cn l.fv.r)) (λ_=>(iE #[3,3] 3 p.cn l.fv.r)) (qR [.n 0 i] 5 [24,26,28,31,0,1] λy u C d=>qE (.tuple #[]) λK=>?_);have c:=(c1.nil ([.n 0 i]:List Tg)).trans (d);exact⟨_,rfl,⟨x,lt,s,K.pA 0 e c,j.ch c (hn:=by simp<;>omega),K.new⟩,((c1.nil (TN i)).trans (d.mono (by simp[TN])))⟩
theorem Fl(h:NS i nb ob g w p ls ts)(q:ls.length<100000000)(l:Let)(c d:S3)(t:FSv g w c l.ln)(u:Rc g w d l.ed)(b:Nat) :
  Calls prog 89 #[pt nb 0,iv (b:Int),.agg (EX l c d)] w (NP i nb ob g w (.tuple #[]) p (ls++[{ l with src:=i,dst:=b }]) ts):=by
 obtain⟨x,lt,v,j,o,s⟩:=h;refine(Yz j o s q l c d t u b).mono ?_;rintro e z ⟨k,a,rfl,m,f,n⟩;exact⟨k,rfl,⟨x,a,v,j.ch f (by simp[TO]) (λr y=>by simp[TO];omega),m,n⟩,f.mono (by simp[TO,TN])⟩
def BW(i:Nat)(l:Let)(k:Nat):List Let:=((List.range k).filter λj=>decide (j≠i)).map λto=>{ l with src:=i,dst:=to }
theorem Y3(h:k≠i):BW i l (k+1)=BW i l k++[{ l with src:=i,dst:=k }]:=by unfold BW;rw[lJ,ma,jW];simp[h]
theorem Y1(h:k=i):BW i l (k+1)=BW i l k:=by unfold BW;rw[lJ,ma,jW];simp[h]
theorem Y2(i:Nat)(l:Let)(k:Nat):(BW i l k).length<=k:=by unfold BW;rw[ka];exact jG (List.length_filter_le _ _) (by simp)
theorem DP(h:NS i nb ob g w p ls ts)(hb:ls.length<90000000)(l:Let)(D E:S3)(hv:FSv g w D l.ln)(hw:Rc g w E l.ed) :
  Calls prog 62 #[pt nb 0,.agg (EX l D E)] w (NP i nb ob g w (.tuple #[]) p (ls++BW i l 5) ts):=by
 obtain⟨x,lt,tl,U,V,hg⟩:=h;refine gI (fn:=f62) (TN i) g func62 hg (qN U (qO V (qR [] 9 [0,0] λG g1 w1 c1=>BL 19 [(0,pt nb 0),(3,pt (G 0) 0),(5,iv 0)] [false,false,true] [⟨(G 0),.cells #[iv (l.kind:Int),iv (l.src:Int),iv (l.dst:Int),iv l.fv.r,iv l.fv.n,iv l.bN.au,iv l.bN.b.r,iv l.bN.b.n,iv l.bN.w.k,iv l.bN.w.c,iv l.bN.w.s,iv l.bN.w.n,iv l.bN.w.v,S3.v D,iv (l.au:Int),S3.v E] 150,.z,false⟩] (λk S W e L=>∃ j:Nat,k=5-j/\j<=5/\e=[(0,pt nb 0),(3,pt (G 0) 0),(5,iv (j:Int))]/\L=[⟨(G 0),.cells #[iv (l.kind:Int),iv (l.src:Int),iv (l.dst:Int),iv l.fv.r,iv l.fv.n,iv l.bN.au,iv l.bN.b.r,iv l.bN.b.n,iv l.bN.w.k,iv l.bN.w.c,iv l.bN.w.s,iv l.bN.w.n,iv l.bN.w.v,S3.v D,iv (l.au:Int),S3.v E] 150,.z,false⟩]/\NS i nb ob S W p (ls++BW i l j) ts/\Cg w.heap.size (TN i) g w S W) (by kernel_rfl) (by kernel_rfl) (by kernel_rfl) (by kernel_rfl) 5 (λK=>?_) ?_)))
 .have C2:=c1;refine⟨0,rfl,by omega,rfl,rfl,?_,c1.nil _⟩;rw[show BW i l 0=[]from rfl,ki];exact(nsC U V C2 K)
 .rintro k gr wr _ zr _ ⟨j,rfl,hj,rfl,rfl,hM,hC⟩ J hJ;have hs:=Y2 i l j;obtain⟨xr,a3,a8,a,d,a1⟩:=hM;refine qN a (qO d (qR [] 5 [] λs3 g3 w3 m=>?_));by_cases h1:j<5
  .refine qI (decide ((j:Int)<5)) true (I' (by omega)) (qR [] 17 [1] λs4 g4 w4 y=>?_);by_cases T:(j:Int)≠(i:Int)
   .refine qI (((j:Int) != (i:Int))) true (by simpa using T) (qR [] 4 [0] λs5 g5 w5 M=>?_);have P:=(((hC.n m).n y).n M);refine Ae λK=>?_;have X:NS i nb ob g5 w5 p (ls++BW i l j) ts:=(nsC a d ((m.n y).n M) K);refine qG 3 (TN i) [true,false,false] (Fl X (by simp;omega) l D E (hv.ch P (Bg i)) (hw.ch P (Bg i)) j) ?_;rintro e' w6 ⟨g6,rfl,I,F⟩;refine⟨_,g6,rfl,F,I.new,?_⟩;replace F:=F.ret (B:=w.heap.size);rw[jI,<- Y3 (by omega)]at I
    obtain⟨x6,a2,a7,A,C,a0⟩:=I;refine qN A (qO C (qR [] 3 [] λs8 g8 w8 Q=>qV 0 (iv ((j:Int)+1)) (AR 5 (j:Int) underlying3 (by omega)) (qR [] 2 [] λs9 g9 w9 R=>qB [true,false,false] λz H K=>hJ (5-(j+1)) _ _ _ z _ (by omega) ⟨j+1,rfl,by omega,rfl,rfl,?_,((((((hC.n m).n y).n M).trans F).n Q).n R)⟩ K)));have o:NS i nb ob g9 w9 p (ls++BW i l (j+1)) ts:=(nsC A C (Q.n R) H);exact o
   .refine qI (((j:Int) != (i:Int))) false (by simpa using T) (qR [] 3 [] λa4 Y a9 q=>qV 0 (iv ((j:Int)+1)) (AR 5 (j:Int) underlying3 (by omega)) (qR [] 2 [] λa5 N O t=>qB [true,false,false] λz H K=>hJ (5-(j+1)) _ _ _ z _ (by omega) ⟨j+1,rfl,by omega,rfl,rfl,?_,((((hC.n m).n y).n q).n t)⟩ K));have o:NS i nb ob N O p (ls++BW i l j) ts:=(nsC a d (((m.n y).n q).n t) H);exact(by simpa[Y1 (show j=i by omega)]using o)
  .refine qI (decide ((j:Int)<5)) false (D' (by omega)) (qR [] 1 [] λa6 Z b0 u=>?_);obtain rfl:j=5:=by omega
   exact qF a d (m.n u) ((hC.n m).n u)
theorem Nf(h:NS i nb ob g w p ls ts) :
  Calls prog 91 #[pt nb 0] w λe w'=>e=.returned (.bool p.leads)/\Bw w w':=by
 obtain⟨x,lt,v,j,k,l⟩:=h;refine gI (fn:=f91) (TN i) g func91 l (qN j (qO k (qR [] 13 [24,0,2,4,6,8,10,0,12] λr m z c1=>?_)));by_cases a:p.br.fv=Bh
 .refine qT 7 (.bool false) (λ_=>(Ij (x:=(.tmp 8)) (y:=(.tmp 9)) p.br.fv Bh a)) (qR [] 17 [16,18,20,22,24,26,28,30,32,34,36,38,40,42,44,46] λs n A b=>qE (.bool false) λK=>⟨(by rw[show p.leads=false from D' (λh=>h.1 a)]),Cg.ab (c1.trans b) (λ_ _=>N')⟩)
 .refine qT 7 (.bool true) (λ_=>(Ik (x:=(.tmp 8)) (y:=(.tmp 9)) p.br.fv Bh a)) (qR [] 13 [16,18,20,22,24,26,28,0,30,32,34,36,38,40,0] λt o B c=>qT 21 (.bool (decide (p.br.fv=p.vo.p))) (λ_=>(jy (x:=(.tmp 17)) (y:=(.tmp 23)) p.br.fv p.vo.p)) (qR [] 3 [44,46] λu q C d=>qE (.bool (decide (p.br.fv=p.vo.p))) λK=>⟨(by rw[show p.leads=decide (p.br.fv=p.vo.p)from kN.2 ⟨λh=>h.2,λh=>⟨a,h⟩⟩]),Cg.ab ((c1.trans c).trans d) (λ_ _=>N')⟩))
theorem L8(h:NS i nb ob g w p ls ts)(v:p.bn.length<100000000)(a:Nat)(e:Int) :
  Calls prog 87 #[pt nb 0,iv (a:Int),iv e] w (NP i nb ob g w (.tuple #[]) (p.fa a e) ls ts):=by
 obtain⟨x,lt,N,d,k,y⟩:=h;refine gI (fn:=f87) (TN i) g func87 y (qN d (qO k (qR [] 11 [0,0,0,0] λc I O c1=>?_)));by_cases b:e=7
 .refine qI (e != 7) false (by simpa using b) (qR [] 15 [2,0,0,0,4,0,2] λq u B m=>Ae λK=>?_);obtain⟨C,D⟩:=K.oG 2 (c 0) (.cells #[pt nb 0] 83) false (by kernel_rfl);obtain⟨E,F⟩:=K.oG 3 (c 1) (.cells #[iv (a:Int)] 3) false (by kernel_rfl);obtain⟨G,H⟩:=K.oG 4 (q 0) (.cells #[iv p.vo.p.r,iv p.vo.p.n] 88) true (by kernel_rfl);have s:NS i nb ob u B p ls ts:=(nsC d k (c1.n m) K);refine qS0 2 [false,false,true,true,true] (AK s v _ _ (.fa a p.vo.p) ⟨(c 0),(c 1),(q 0),rfl,⟨C,D⟩,⟨E,F⟩,⟨G,H⟩⟩) λJ P R z A j l t=>qR [] 1 [] λM L Q o=>qE (.tuple #[]) λK=>?_;rw[show p.fa a e=p.wait (.fa a p.vo.p)from if_pos b];exact⟨_,rfl,(nsC j l o K),((((c1.nil (TN i)).n m).trans (t)).n o)⟩
 .refine qI (e != 7) true (by simpa using b) (qE (.tuple #[]) λK=>?_);rw[show p.fa a e=p from if_neg b];exact⟨_,rfl,(nsC d k c1 K),(c1.nil (TN i))⟩
def gh0:Gh:=⟨λ_=>.z,λ_=>0⟩
def P3(l:List Cmd)(c:Cmd):Int:=if c∈l then(l.idxOf c:Int)else -1
theorem P4:∀ {l:List Cmd} {j:Nat},l[j]?=some c->l.idxOf c<=j
 | [],j,h=>by cases h
 | d::l,0,h=>by simp only[kY,V']at h;subst h;simp
 | d::l,j+1,h=>by
  have:=P4 (l:=l) (j:=j) (by simpa using h);rw[List.idxOf_cons];cases d==c<;>simp<;>omega
theorem aK(l:List Cmd)(c:Cmd):decide (0<=P3 l c)=decide (c∈l):=by
 unfold P3;by_cases a:c∈l
 .rw[if_pos a,I' a];exact I' (by omega)
 .rw[if_neg a,D' a];rfl
theorem Xg{l:List Cmd}(h:l[j]?=some c)(e:∀ i,i<j->l[i]?≠some c):P3 l c=(j:Int):=by
 have b:c∈l:=jJ h;have f:j<l.length:=(U'.1 h).1;unfold P3;rw[if_pos b]
 congr 1
 have a:l.idxOf c<l.length:=List.idxOf_lt_length_iff.2 b;have d:l[l.idxOf c]?=some c:=by rw[E' a,List.getElem_idxOf a]
 rcases mK (l.idxOf c) j with h3|h3|h3
 .exact absurd d (e _ h3)
 .exact h3
 .have:=P4 h;omega
theorem Na{l:List Cmd}(h:RdC w x l)(Y:l.length<100000000)(c:Cmd) :
  Calls prog 102 #[x.v,.agg #[iv c.k,iv c.c,iv c.s,iv c.n,iv c.v]] w λe w'=>e=.returned (iv (P3 l c))/\Bw w w':=by
 have Z:=h.len;refine gI (fn:=f102) [] gh0 func102 (λ_ _=>⟨rfl,rfl⟩) (qR [] 13 [0,0] λo R w1 c1=>BL 19 [(0,S3.v x),(3,pt (o 0) 0),(7,iv (x.n:Int)),(8,iv 0)] [true] [⟨(o 0),.cells #[iv c.k,iv c.c,iv c.s,iv c.n,iv c.v] 47,.z,false⟩] (λk F w' e L=>∃ j:Nat,k=l.length-j/\j<=l.length/\e=[(0,S3.v x),(3,pt (o 0) 0),(7,iv (x.n:Int)),(8,iv (j:Int))]/\L=[⟨(o 0),.cells #[iv c.k,iv c.c,iv c.s,iv c.n,iv c.v] 47,.z,false⟩]/\(∀ i,i<j->l[i]?≠some c)/\Cg w.heap.size [] gh0 w F w') (by kernel_rfl) (by kernel_rfl) (by kernel_rfl) (by kernel_rfl) l.length (λK=>?_) ?_)
 .exact⟨0,rfl,by omega,rfl,rfl,λi d=>absurd d (by omega),c1⟩
 .rintro k gr wr _ zr _ ⟨j,rfl,hj,rfl,rfl,hI,hC⟩ J hJ;refine qR [] 5 [] λs2 S w2 g=>?_;by_cases B:j<l.length
  .refine qI ((decide ((j:Int)<(x.n:Int)))) true (I' (by omega)) ?_;obtain⟨a,b⟩:∃ a,l[j]?=some a:=⟨_,E' B⟩;rcases h.ex with h2|⟨bx,ox,hxa,hbx,hcell⟩
   .exact absurd B (by rw[h2];simp)
   refine qR [] 13 [6,0,0,2,4] λs3 T w3 r=>qT 3 (pt bx (ox+5*j)) (λ_=>(Np hxa j (by omega))) ?_;have I:=Cg.ab (hC.trans (g.trans r)) (λ_ _=>N');refine qV 4 (.agg #[iv a.k,iv a.c,iv a.s,iv a.n,iv a.v]) (Vc a λi u N=>(I.cell (p:=⟨bx,ox+5*j+i,none⟩) hbx).trans (by rw[kM];exact hcell _ u (NY b N))) (qT 5 (.bool (decide (c=a))) (λ_=>(jz (x:=(.tmp 11)) (y:=(.tmp 15)) c a)) (qR [] 1 [] λs6 U w6 A=>?_));by_cases m:c=a
   .refine qI (decide (c=a)) true (I' m) (qR [] 5 [] λs7 V w7 C=>qE (iv (j:Int)) λK=>⟨by rw[Xg (by rw[m];exact b) hI],Cg.ab (hC.trans (((g.trans r).trans A).trans C)) (λ_ _=>N')⟩)
   .refine qI (decide (c=a)) false (D' m) (qR [] 3 [] λs8 W w8 D=>qV 0 (iv ((j:Int)+1)) (AR 8 (j:Int) underlying3 (by omega)) (qR [] 2 [] λs9 X w9 E=>qB [true] λz Q K=>hJ (l.length-(j+1)) _ _ _ z _ (by omega) ⟨j+1,rfl,by omega,rfl,rfl,λi d=>?_,hC.trans ((((g.trans r).trans A).trans D).trans E)⟩ K));rcases kt i j with h4|h4
    .exact hI i h4
    .rw[show i=j by omega,b];intro H;exact m (by simpa using H.symm)
  .refine qI ((decide ((j:Int)<(x.n:Int)))) false (D' (by omega)) (qR [] 5 [] λO G P q=>?_);have t:c∉l:=λM=>by obtain⟨i,d⟩:=kS.1 M;exact hI i (by have:=(U'.1 d).1;omega) d
   exact qE (iv (-1)) λK=>⟨by unfold P3;rw[if_neg t],Cg.ab (hC.trans (g.trans q)) (λ_ _=>N')⟩
theorem ES{l:List Cmd}(h:RdC w x l)(m:l.length<100000000)(c:Cmd) :
  Calls prog 55 #[x.v,.agg #[iv c.k,iv c.c,iv c.s,iv c.n,iv c.v]] w λe w'=>e=.returned (.bool (decide (c∈l)))/\Bw w w':=by
 refine gI (fn:=f55) [] gh0 func55 (λ_ _=>⟨rfl,rfl⟩) (qR [] 9 [0,0,0] λq j r c1=>?_);have a:=Cg.ab c1 (λ_ _=>N');refine qC 2 (Na (h.ab a) m c) ?_;rintro o t ⟨rfl,b⟩;refine⟨_,rfl,b,?_⟩;have d:=Cg.bu (B:=w.heap.size) (T:=[]) (g:=j) b;refine qR [] 3 [] λs3 p u i=>qE (.bool (decide (0<=P3 l c))) λK=>⟨by rw[aK],Cg.ab ((c1.trans d).trans i) (λ_ _=>N')⟩
theorem Ti(h:NS i nb ob g w p ls ts)(k:p.done<=p.ae.length) :
  Calls prog 34 #[pt nb 0] w λe w'=>∃ y:S3,e=.returned y.v/\RdC w' y (p.ae.take p.done)/\Bw w w':=by
 obtain⟨x,lt,s,a,j,l⟩:=h;have o:=a.ae.num;have c:=a.ae.rd;refine gI (fn:=f34) (TN i) g func34 l (qN a (qO j (qR [] 16 [12,0,2,4,6,8,0,10,12,14,16,18,0] λq m t c1=>qT 10 (S3.v (x.ae.cut 0 p.done)) (λ_=>(iP x.ae p.done (by have:=c.cap;omega))) (qR [] 2 [22] λr n u d=>?_))));have b:=Cg.ab (c1.trans d) (λ_ _=>N');exact qE (S3.v (x.ae.cut 0 p.done)) λK=>⟨_,rfl,(c.ab b).take k,b⟩
theorem Iy(h:NS i nb ob g w p ls ts)(r:ls.length<100000000)(d au:Nat)(t:au<=p.ae.length) :
  Calls prog 99 #[pt nb 0,iv (d:Int),iv (au:Int)] w (NP i nb ob g w (.tuple #[]) p (ls++[{ Cz 5 with src:=i,dst:=d,au:=au,ed:=p.ae.drop au }]) ts):=by
 obtain⟨x,lt,H,a,l,s⟩:=h;have D:=a.ae.num;refine gI (fn:=f99) (TN i) g func99 s (qN a (qO l (qR [] 10 [0] λE A I c1=>qV 9 (S3.v (x.ae.cut au x.ae.n)) (fM x.ae au (by omega)) (qR [] 1 [] λF q z j=>Ae λK=>?_))));have e:=c1.n j;have m:NS i nb ob q z p ls ts:=(nsC a l e K);refine qS0 11 [false,false] (Fl m r { Cz 5 with au:=au,ed:=p.ae.drop au } s30 (x.ae.cut au x.ae.n) ⟨Sv.nil _,λh=>absurd rfl h⟩ ((a.ae.rc.drop t).ch e) d) λB J M u y b c o=>qR [] 1 [] λG C L k=>qF b c k ((((c1.nil (TN i)).n j).trans (o)).n k)
theorem Ng(h:NS i nb ob g w p ls ts)(a:Nat)(b:List Cmd)(e:S3)(s:Rc g w e b)(hs:a<=p.ae.length)(X:p.ae.length<100000000)(J:b.length<100000000) :
  Calls prog 90 #[pt nb 0,iv (a:Int),e.v] w (NP i nb ob g w (.tuple #[]) (p.gC a b) ls ts):=by
 obtain⟨x,lt,N,d,B,L⟩:=h;have M:=d.ae.num;have Z:=s.len;have C:=s.cap;refine gI (fn:=f90) (TN i) g func90 L (qN d (qO B (qR [] 9 [0] λs1 Q w1 c1=>qV 7 (iv ((x.ae.n-a:Nat):Int)) (Yi (x:=(.tmp 12)) (y:=(.tmp 13)) x.ae.n a underlying3 (by omega) (by omega)) (qR [] 9 [] λs2 R w2 q=>?_))));by_cases W:x.ae.n-a<e.n
 .refine qI ((decide (((x.ae.n-a:Nat):Int)<(e.n:Int)))) true (I' (by omega)) ?_;obtain⟨k,Y⟩:∃ k,k=x.ae.n-a:=⟨_,rfl⟩;have D:k<b.length:=by omega
  obtain⟨F,ow,r⟩:=s.addr D;refine qR [] 9 [13,0,2,4,6,8,10,0,12,14] λs3 S w3 t=>qT 8 (.slice (some ⟨F,ow+5*(x.ae.n-a),none⟩) (e.n-(x.ae.n-a)) (e.c-(x.ae.n-a))) (λ_=>(iL r (x.ae.n-a) (by omega) C)) ?_;have E:=(c1.n q).n t;refine JL 9 (x:=x.ae) 34 34 47 5 40 (.agg #[iv 0,iv 0,iv 0,iv 0,iv 0]) ⟨F,ow+5*(x.ae.n-a),none⟩ (e.n-(x.ae.n-a)) (e.c-(x.ae.n-a)) (cmL (b.drop (x.ae.n-a))) (d.ae.ch E) (by kernel_rfl) (by kernel_rfl) (by kernel_rfl) underlying34 (by kernel_rfl) (by kernel_rfl) (by decide) (by omega) (by rw[Bv,jL];omega) (NZ _) (λK=>iu r (s.ch E) _ (by omega)) (by unfold maxLen;omega) (by omega) ?_;intro O T w6 I n6 A P;have G:=A w.heap.size [.n 3 i] (G'.2 rfl);refine qR [.n 0 i] 5 [20,22,24,27,0,1] λs7 U w7 u=>qE (.tuple #[]) λK=>?_;have j:=((((c1.nil ([.n 3 i,.n 0 i]:List Tg)).n q).n t).m G).m u;have o:Tg.z∉([.n 3 i,.n 0 i]:List Tg):=by simp
  exact⟨_,rfl,⟨{ x with ae:=O },lt,N,K.nd 0 (d.tape.ch j o) (d.ln.ch j o) (Bl d.al j o) (BP d.bn j o (by simp)) (d.dW.ch j) (by rw[show(p.gC a b).ae=p.ae++b.drop (x.ae.n-a)from by unfold Nod.gC;rw[M],BZ];exact I.ch u) (d.an.ch j) (d.bw.ch j) d.oO,B.ch j o (by simp<;>omega),K.new⟩,(((((c1.nil (TN i)).n q).n t).trans (G.mono (by simp[TN]))).trans (u.mono (by simp[TN])))⟩
 .refine qI ((decide (((x.ae.n-a:Nat):Int)<(e.n:Int)))) false (D' (by omega)) (qR [] 1 [] λs9 V w9 H=>qE (.tuple #[]) λK=>?_);rw[show p.gC a b=p from by unfold Nod.gC;rw[kD (by omega),ki]];exact⟨_,rfl,(nsC d B ((c1.n q).n H) K),(((c1.nil (TN i)).n q).n H)⟩
theorem Qk(h:NS i nb ob g w p ls ts)(o:ls.length<90000000){a b2 b3:Nat}(e:Box g w a #[pt nb 0] 83) :
  Calls prog 73 #[pt a 0] w (NP i nb ob g w (.tuple #[]) p (ls++BW i (Cz 6) 5) ts):=by
 obtain⟨x,lt,C,j,k,q⟩:=h;refine gI (fn:=f73) (TN i) g func73 q (qN j (qO k (BU ⟨a,.cells #[pt nb 0] 83,.z,false⟩ (λ_=>⟨e.r,e.z,λh=>(by cases h),λh=>absurd rfl h⟩) (by kernel_rfl) ?_)));refine qR [] 3 [2] λA u D c1=>qS 2 [false,false,true] j k c1 (λl=>DP l o (Cz 6) s30 s30 ⟨Sv.nil _,λh=>absurd rfl h⟩ (Rc.nil _ _)) λv E G s t b c m=>qR [] 1 [] λB y F d=>qF b c d (((c1.nil (TN i)).trans (m)).n d)
theorem O2{a:Nat}{b:Bal}(h:NS i nb ob g w p ls ts)(F:ls.length<90000000){c d e:Nat}(m:Box g w c #[pt nb 0] 83)(o:Box g w d #[iv (a:Int)] 3)(q:Box g w e #[iv b.r,iv b.n] 88)  :
  Calls prog 125 #[pt c 0,pt d 0,pt e 0] w (NP i nb ob g w (.tuple #[]) p (ls++[{ Cz 2 with fv:=b,src:=i,dst:=a }]) ts):=by
 obtain⟨x,lt,I,s,t,y⟩:=h;refine gI (fn:=f125) (TN i) g func125 y (qN s (qO t (BU ⟨c,.cells #[pt nb 0] 83,.z,false⟩ (λ_=>⟨m.r,m.z,λh=>(by cases h),λh=>absurd rfl h⟩) (by kernel_rfl) ?_)));refine BU ⟨d,.cells #[iv (a:Int)] 3,.z,false⟩ (λ_=>⟨o.r,o.z,λh=>(by cases h),λh=>absurd rfl h⟩) (by kernel_rfl) ?_;refine BU ⟨e,.cells #[iv b.r,iv b.n] 88,.z,false⟩ (λ_=>⟨q.r,q.z,λh=>(by cases h),λh=>absurd rfl h⟩) (by kernel_rfl) ?_;refine qR [] 5 [2,3,4] λG C J c1=>qS 4 [false,false,true,true,true] s t c1 (λu=>Fl u (by omega) { Cz 2 with fv:=b } s30 s30 ⟨Sv.nil _,λh=>absurd rfl h⟩ (Rc.nil _ _) a) λD K M A B j k v=>qR [] 1 [] λH E L l=>qF j k l (((c1.nil (TN i)).trans (v)).n l)
theorem Hi(h:NS i nb ob g w p ls ts)(J:ls.length<90000000){c d b3 b:Nat}{l:Let}(m:Box g w c #[pt nb 0] 83)(o:Box g w d #[pt b 0] 151)(y:Cx g w b l) :
  Calls prog 94 #[pt c 0,pt d 0] w (NP i nb ob g w (.tuple #[]) p (ls++[{ Cz 4 with bN:=l.bN,src:=i,dst:=l.src }]) ts):=by
 obtain⟨x,lt,M,q,s,v⟩:=h;refine gI (fn:=f94) (TN i) g func94 v (qN q (qO s (BU ⟨c,.cells #[pt nb 0] 83,.z,false⟩ (λ_=>⟨m.r,m.z,λh=>(by cases h),λh=>absurd rfl h⟩) (by kernel_rfl) ?_)));refine BU ⟨d,.cells #[pt b 0] 151,.z,false⟩ (λ_=>⟨o.r,o.z,λh=>(by cases h),λh=>absurd rfl h⟩) (by kernel_rfl) ?_;obtain⟨E,F,a,A,B⟩:=y;refine BU ⟨b,.cells (EX l E F) 150,.z,false⟩ (λ_=>⟨a.r,a.z,λh=>(by cases h),λh=>absurd rfl h⟩) (by kernel_rfl) ?_;refine qR [] 11 [10,0,2,2,3,4,6,8,4,10,3,12,14,16,4,18] λK G N c1=>qS 10 [false,false,true,true,true] q s c1 (λt=>Fl t (by omega) { Cz 4 with bN:=l.bN } s30 s30 ⟨Sv.nil _,λh=>absurd rfl h⟩ (Rc.nil _ _) l.src) λH O Q C D e j u=>qR [] 1 [] λL I P k=>qF e j k (((c1.nil (TN i)).trans (u)).n k)
theorem LR(h:NS i nb ob g w p ls ts)(K:ls.length<90000000){c d b3 b:Nat}{l:Let}(o:Box g w c #[pt nb 0] 83)(q:Box g w d #[pt b 0] 151)(y:Cx g w b l) :
  Calls prog 96 #[pt c 0,pt d 0] w (NP i nb ob g w (.tuple #[]) p (ls++[{ Cz 6 with au:=p.ae.length,src:=i,dst:=l.src }]) ts):=by
 obtain⟨x,lt,N,e,s,v⟩:=h;refine gI (fn:=f96) (TN i) g func96 v (qN e (qO s (BU ⟨c,.cells #[pt nb 0] 83,.z,false⟩ (λ_=>⟨o.r,o.z,λh=>(by cases h),λh=>absurd rfl h⟩) (by kernel_rfl) ?_)));refine BU ⟨d,.cells #[pt b 0] 151,.z,false⟩ (λ_=>⟨q.r,q.z,λh=>(by cases h),λh=>absurd rfl h⟩) (by kernel_rfl) ?_;obtain⟨F,G,a,A,B⟩:=y;refine BU ⟨b,.cells (EX l F G) 150,.z,false⟩ (λ_=>⟨a.r,a.z,λh=>(by cases h),λh=>absurd rfl h⟩) (by kernel_rfl) ?_;have C:=e.ae.num;refine qR [] 13 [12,0,2,2,3,4,6,8,4,10,2,12,14,16,18,0,20,22] λL H O c1=>qS 12 [false,false,true,true,true] e s c1 (λt=>(show{ Cz 6 with au:=x.ae.n,src:=i,dst:=l.src }=({ Cz 6 with au:=p.ae.length,src:=i,dst:=l.src }:Let)from by rw[C])▸Fl t (by omega) { Cz 6 with au:=x.ae.n } s30 s30 ⟨Sv.nil _,λh=>absurd rfl h⟩ (Rc.nil _ _) l.src) λI P R D E j k u=>qR [] 1 [] λM J Q m=>qF j k m (((c1.nil (TN i)).trans (u)).n m)
theorem Ja(h:NS i nb ob g w p ls ts)(K:ls.length<90000000){c d b3 b:Nat}{l:Let}(m:Box g w c #[pt nb 0] 83)(o:Box g w d #[pt b 0] 151)(y:Cx g w b l)(C:l.au<=p.ae.length) :
  Calls prog 98 #[pt c 0,pt d 0] w (NP i nb ob g w (.tuple #[]) p (ls++[{ Cz 5 with src:=i,dst:=l.src,au:=l.au,ed:=p.ae.drop l.au }]) ts):=by
 obtain⟨x,lt,N,q,s,v⟩:=h;refine gI (fn:=f98) (TN i) g func98 v (qN q (qO s (BU ⟨c,.cells #[pt nb 0] 83,.z,false⟩ (λ_=>⟨m.r,m.z,λh=>(by cases h),λh=>absurd rfl h⟩) (by kernel_rfl) ?_)));refine BU ⟨d,.cells #[pt b 0] 151,.z,false⟩ (λ_=>⟨o.r,o.z,λh=>(by cases h),λh=>absurd rfl h⟩) (by kernel_rfl) ?_;obtain⟨F,G,a,A,B⟩:=y;refine BU ⟨b,.cells (EX l F G) 150,.z,false⟩ (λ_=>⟨a.r,a.z,λh=>(by cases h),λh=>absurd rfl h⟩) (by kernel_rfl) ?_;refine qR [] 10 [9,0,2,2,3,4,6,8,4,10,3,12,14,16,4] λL H O c1=>qS 9 [false,false,true,true,true] q s c1 (λt=>Iy t (by omega) l.src l.au C) λI P R D E e j u=>qR [] 1 [] λM J Q k=>qF e j k (((c1.nil (TN i)).trans (u)).n k)
theorem G3{d:S3}{a:List Vt}(h:NS i nb ob g w p ls ts)(S:ls.length<90000000){j k m c:Nat}{l:Let}(u:Box g w j #[pt nb 0] 83)(y:Box g w k #[pt c 0] 151)(A:Box g w m #[S3.v d] 89)(G:Cx g w c l)(J:FSv g w d a) :
  Calls prog 88 #[pt j 0,pt k 0,pt m 0] w (NP i nb ob g w (.tuple #[]) p (ls++[{ Cz 1 with fv:=l.fv,ln:=a,ed:=p.ae,src:=i,dst:=l.src }]) ts):=by
 obtain⟨x,lt,V,o,B,F⟩:=h;refine gI (fn:=f88) (TN i) g func88 F (qN o (qO B (BU ⟨j,.cells #[pt nb 0] 83,.z,false⟩ (λ_=>⟨u.r,u.z,λh=>(by cases h),λh=>absurd rfl h⟩) (by kernel_rfl) ?_)));refine BU ⟨k,.cells #[pt c 0] 151,.z,false⟩ (λ_=>⟨y.r,y.z,λh=>(by cases h),λh=>absurd rfl h⟩) (by kernel_rfl) ?_;refine BU ⟨m,.cells #[S3.v d] 89,.z,false⟩ (λ_=>⟨A.r,A.z,λh=>(by cases h),λh=>absurd rfl h⟩) (by kernel_rfl) ?_;obtain⟨N,P,b,H,I⟩:=G;refine BU ⟨c,.cells (EX l N P) 150,.z,false⟩ (λ_=>⟨b.r,b.z,λh=>(by cases h),λh=>absurd rfl h⟩) (by kernel_rfl) ?_;refine qR [] 17 [16,0,2,2,3,4,6,8,5,10,3,12,14,16,5,18,4,20,2,22,24,26,28,0,30] λT E O c1=>Ae λK=>?_;have e:=c1;have C:NS i nb ob E O p ls ts:=(nsC o B e K);refine qS0 16 [false,false,true,true,true,true] (Fl C (by omega) { Cz 1 with fv:=l.fv,ln:=a,ed:=p.ae } d x.ae (J.ch e) (o.ae.rc.ch e) l.src) λQ W Y L M q s D=>qR [] 1 [] λU R X t=>qF q s t (((c1.nil (TN i)).trans (D)).n t)
theorem Lb{a:Acc}{l:List Vt}:CI a (v::l)=CI (if AV a v=0 then⟨BG a v,Bu a v⟩else a) l:=rfl
theorem ST{l:List Vt}(h:l[j]?=some v):l.drop j=v::l.drop (j+1):=by
 obtain⟨a,b⟩:=U'.1 h;rw[<- b];exact kz a
theorem P0(h:NS i nb ob g w p ls ts){w0:World}(hB:Base w0 g w)(hT:Tabs w0)(j:Nat)(hj:j<5)(vs:List Vt)(y:S3)(hy:FSv g w y vs)(hb:(p.br.al j).vs.length<100000000) :
  Calls prog 61 #[pt nb 11,iv (j:Int),y.v] w (NP i nb ob g w (.tuple #[]) { p with br:=p.br.og j vs } ls ts):=by
 obtain⟨x,lt,G,m,hO,hg⟩:=h;refine gI (fn:=f61) (TN i) g func61 hg (qN m (qO hO (qR [] 18 [0,1,0,2,0] λD g1 w1 c1=>BV 50 (λF H e L=>e=[(0,pt nb 11),(1,iv (j:Int)),(6,pt (D 0) 0),(23,S3.v (x.hv j)),(24,iv ((x.hv j).n:Int)),(25,iv 0)]/\L=[⟨nb,.cells (AB i ob p x) 103,.n 0 i,false⟩,⟨ob,.cells #[S3.v lt,S3.v G] 80,.n 50 0,false⟩,⟨(D 0),.cells #[iv p.br.fv.r,iv p.br.fv.n,S3.v y] 91,.l,false⟩]/\True/\Cg w.heap.size ([]:List Tg) g1 w1 F H) (by kernel_rfl) ?_ ?_)))
 .intro J hJ;rcases nT hj with rfl|rfl|rfl|rfl|rfl <;>
  (refine qR [] 6 [0] λs3 g3 w3 c3=>?_;exact qB [true,true,true] λz K0 K=>hJ _ _ _ z _ ⟨rfl,rfl,trivial,(c3.nil ([]:List Tg))⟩ K)
 rintro g2 w2 _ z2 _ ⟨rfl,rfl,_,c2⟩;have hH:=m.al j hj;have hn:(x.hv j).n=(p.br.al j).vs.length:=by obtain⟨a,b6,hh⟩:=hH.s.shape;simp only[Value.slice.injEq]at hh;exact hh.2.1
 obtain⟨l,hl⟩:∃ l,l=(p.br.al j).vs:=⟨_,rfl⟩;rw[<- hl]at hH hn hb
 refine qR [] 1 [] λs4 g4 w4 c4=>BL 50 [(0,pt nb 11),(1,iv (j:Int)),(6,pt (D 0) 0),(23,S3.v (x.hv j)),(24,iv ((x.hv j).n:Int)),(25,iv 0)] [true,true,true] [⟨nb,.cells (AB i ob p x) 103,.n 0 i,false⟩,⟨ob,.cells #[S3.v lt,S3.v G] 80,.n 50 0,false⟩,⟨(D 0),.cells #[iv p.br.fv.r,iv p.br.fv.n,S3.v y] 91,.l,false⟩] (λk F H e L=>∃ (k0:Nat) (a:Acc) (ya:S3),k=l.length-k0/\k0<=l.length/\e=[(0,pt nb 11),(1,iv (j:Int)),(6,pt (D 0) 0),(23,S3.v (x.hv j)),(24,iv ((x.hv j).n:Int)),(25,iv (k0:Int))]/\L=[⟨nb,.cells (AB i ob p x) 103,.n 0 i,false⟩,⟨ob,.cells #[S3.v lt,S3.v G] 80,.n 50 0,false⟩,⟨(D 0),.cells #[iv a.p.r,iv a.p.n,S3.v ya] 91,.l,false⟩]/\CI a (l.drop k0)=CI ⟨p.br.fv,vs⟩ l/\FSv F H ya a.vs/\Cg w.heap.size [] g w F H) (by kernel_rfl) (by kernel_rfl) (by kernel_rfl) (by kernel_rfl) l.length (λK=>?_) ?_
 .exact⟨0,⟨p.br.fv,vs⟩,y,rfl,by omega,rfl,rfl,rfl,(((hy.ch c1).ch c2).ch c4),((c1.trans c2).trans c4)⟩
 .rintro k gr wr _ zr _ ⟨k0,a,ya,rfl,hk0,rfl,rfl,hI,hya,hC⟩ J hJ;refine qR [] 5 [] λs5 g5 w5 A=>?_;by_cases h1:k0<l.length
  .refine qI ((decide ((k0:Int)<((x.hv j).n:Int)))) true (I' (by omega)) ?_;obtain⟨v,hv⟩:∃ v,l[k0]?=some v:=⟨_,E' h1⟩;have W:=hH.ch hC;obtain⟨bx,ox,X,d2,a8⟩:=W.s.spot k0 v hv;refine qR [] 5 [] λs6 g6 w6 E=>qV 0 (pt bx (ox+8*k0)) (Tw X k0 (by omega)) ?_;have a9:=((W.ch A).ch E).s.spot k0 v hv;obtain⟨b5,d4,o,b3,u⟩:=a9;rw[X]at o
   simp only[V',Addr.mk.injEq,and_true]at o;obtain⟨rfl,rfl⟩:=o;refine qV 1 (.agg #[iv v.au,iv v.b.r,iv v.b.n,iv v.w.k,iv v.w.c,iv v.w.s,iv v.w.n,iv v.w.v]) (bO v u) (qR [] 7 [0,0,3,0,2,3] λs8 g8 w8 V=>Ae λa0=>?_);have a7:=((((hya.ch A).ch E).ch V)).s;have a5:=hB.ch (hC.trans ((A.trans E).trans V)) (by simp);have a6:∀ z,w8.heap.size<=z->g8.t z=.z:=λz hz=>(a0.new z hz).1;refine qC 2 (BY a.p _ a.vs v w8 a7 (a5.tn hT)) ?_;rintro e' e4 ⟨f3,rfl,Y,b4,M⟩;refine⟨_,rfl,M,?_⟩;have C:=Cg.bu (B:=w.heap.size) (T:=[]) (g:=g8) M;obtain⟨ys,rfl,d3,b0⟩:=D6 Y a6 (by omega);refine qR [] 12 [0,0,4,0] λd5 b7 e5 q=>?_;by_cases h2:AV a v=0
   .refine qI (((AV a v)==0)) true (by simpa using h2) (qR [] 6 [4,2,0] λd6 b8 e6 N=>qV 0 (iv ((k0:Int)+1)) (AR 25 (k0:Int) underlying3 (by omega)) (qR [] 2 [] λd7 b9 e7 O=>qB [true,true,true,false,false] λz K0 K=>hJ (l.length-(k0+1)) _ _ _ z _ (by omega) ⟨k0+1,⟨BG a v,Bu a v⟩,ys,rfl,by omega,rfl,rfl,?_,(((b0.ch q).ch N).ch O),hC.trans ((((((A.trans E).trans V).trans C).trans q).trans N).trans O)⟩ K));rw[<- hI,ST hv,Lb,if_pos h2]
   .refine qI (((AV a v)==0)) false (by simpa using h2) (qR [] 3 [] λd8 c0 e8 P=>qV 0 (iv ((k0:Int)+1)) (AR 25 (k0:Int) underlying3 (by omega)) (qR [] 2 [] λd9 c7 e9 Q=>qB [true,true,true,false,false] λz K0 K=>hJ (l.length-(k0+1)) _ _ _ z _ (by omega) ⟨k0+1,a,ya,rfl,by omega,rfl,rfl,?_,(((((((hya.ch A).ch E).ch V).ch C).ch q).ch P).ch Q),hC.trans ((((((A.trans E).trans V).trans C).trans q).trans P).trans Q)⟩ K));rw[<- hI,ST hv,Lb,if_neg h2]
  .refine qI ((decide ((k0:Int)<((x.hv j).n:Int)))) false (D' (by omega)) ?_;obtain rfl:k0=l.length:=by omega
   rw[lH]at hI
   refine qR [] 8 [8,0,2,4,6,10,12] λe0 a3 b1 R=>BV 50 (λF H e L=>e=[(0,pt nb 11)]/\L=[⟨nb,.cells (AB i ob ({ p with br:={ p.br with nX:=upN p.br.nX j true,al:=upN p.br.al j a } }) ({ x with hv:=upN x.hv j ya })) 103,.n 0 i,false⟩,⟨ob,.cells #[S3.v lt,S3.v G] 80,.n 50 0,false⟩,⟨(D 0),.cells #[iv a.p.r,iv a.p.n,S3.v ya] 91,.l,false⟩]/\True/\Cg w.heap.size ([.n 0 i]:List Tg) a3 b1 F H) (by kernel_rfl) ?_ ?_
   .intro J hJ;rcases nT hj with rfl|rfl|rfl|rfl|rfl <;>
    (refine qR [] 3 [14,18,20] λe1 c9 f0 U=>?_;exact CU 4 8 (by kernel_rfl) (by(refine qR [.n 0 i] 5 [2,17,0,1,22,25,0,1] λe2 d0 f1 a1=>?_;exact qB [true,true,true] λz K0 K=>hJ _ _ _ z _ ⟨rfl,rfl,trivial,((U.nil ([.n 0 i]:List Tg)).trans a1)⟩ K)) (by(refine qR [.n 0 i] 5 [0,1,9,2,22,25,0,1] λe3 d1 f2 a2=>?_;exact qB [true,true,true] λz K0 K=>hJ _ _ _ z _ ⟨rfl,rfl,trivial,((U.nil ([.n 0 i]:List Tg)).trans a2)⟩ K)))
   rintro a4 b2 _ f4 _ ⟨rfl,rfl,_,S⟩;refine qE (.tuple #[]) λK=>?_;obtain⟨q1,q2,q3⟩:=K.oH 0 nb (.cells (AB i ob { p with br:={ p.br with nX:=upN p.br.nX j true,al:=upN p.br.al j a } } { x with hv:=upN x.hv j ya }) 103) 0 i (by kernel_rfl);obtain⟨q4,q5,q6⟩:=K.oH 1 ob (.cells #[S3.v lt,S3.v G] 80) 50 0 (by kernel_rfl);have hE:p.br.og j vs={ p.br with nX:=upN p.br.nX j true,al:=upN p.br.al j a }:=by unfold Rnd.og;rw[<- hl,<- hI];rfl
   rw[hE];have d:Cg w.heap.size [.n 0 i] g w a4 b2:=((((hC.nil [.n 0 i]).n A).n R).trans S);have I:Tg.z∉[Tg.n 0 i]:=by simp
   have Z:=(((hya.ch A).ch R).ch S);refine⟨_,rfl,⟨{ x with hv:=upN x.hv j ya },lt,G,⟨q1,q2,q3,m.tape.ch d I,m.ln.ch d I,?_,BP m.bn d I (by simp),m.dW.ch d,m.ae.ch d,m.an.ch d,m.bw.ch d,m.oO⟩,⟨q4,q5,q6,D5 hO.bt d I (by simp),hO.cF.ch d⟩,K.new⟩,d.mono (by simp[TN])⟩;intro k hk;show FSv _ _ (upN x.hv j ya k) (upN p.br.al j a k).vs;unfold upN;split
   .exact Z
   .exact(m.al k hk).ch d I
end
end
end Go.Proofs.YthohlalejhgbmaaGreatDoor
