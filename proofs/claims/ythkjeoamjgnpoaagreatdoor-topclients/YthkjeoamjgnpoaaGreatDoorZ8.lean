/- Part 8 of the walk. -/
import Derived.LoopN
import Derived.Test.YthkjeoamjgnpoaaGreatDoorZ7
set_option maxRecDepth 100000
set_option maxHeartbeats 4000000
open Go.Proofs.Tryz
set_option linter.unusedVariables false
namespace Go.Proofs.YthkjeoamjgnpoaaGreatDoor
open Go.RowKit
theorem Sl.uu{w:World}{a:Option Addr}{n b:Nat}{l:List Int}(h:Sl w (.slice a n b) l)(d c m:Nat)(j:d<=c)(f:c<=l.length)(s:m=c-d)(p o:Int)(i:p=(d:Int))(g:o=(c:Int)) :
  ∃ a' c',(∀ W,(Instr.slice 27 (.slice a n b) (some (.int .i64 p)) (some (.int .i64 o)) none).run prog W=.ok (.slice a' m c') W)/\Sl w (.slice a' m c') ((l.take c).drop d):=by
 subst i;subst g;subst s;have t:=h.sE d c j f;obtain⟨⟨a',k,e,v,x,u⟩,r,q⟩:=h;simp only[Value.slice.injEq]at e;obtain⟨rfl,rfl,rfl⟩:=e;refine⟨_,_,λW=>?_,by simpa[sliced]using t⟩;rw[run_slice_lh (P:=prog) W 27 a _ b underlying27 .i64 .i64 _ _ (by omega) (by omega) (by omega)];have e:prog.elem 27=5:=by kernel_rfl
 rw[e,GI,nE,nE];simp[Result.andThen,sliced]
theorem j4(v:Value)(l:List Int)(w:World)(h:Sl w v l)(o:l.length<=2000)(k:AD w) :
  Calls prog 67 #[v] w λe w'=>∃ v',e=.returned (.tuple #[v',.int .i64 0])/\Fresh w w' v' (dig l):=by
 have j:=h;obtain⟨⟨a,c,rfl,n,p,d⟩,g,b⟩:=h;clear d b;go_enter func67,ntmps67
 go_wp2_with fail
 refine(E8 _ l w j (by omega) k).mono ?_;rintro e q ⟨m,rfl,i,f⟩;go_wp2
 go_ret2
 exact⟨m,rfl,Fresh.ov i (FJ (At l)) (by rw[At];omega) (Dv l) f⟩
theorem fp(v:Value)(l:List Int)(w:World)(h:Sl w v l)(o:l.length<=2000)(k:AD w) :
  Calls prog 67 #[v] w λe w'=>∃ v',e=.returned (.tuple #[v',.int .i64 0])/\w'.ownsRow w.heap.size 5 1 v' 32 ((dig l).map (Value.int .u8))/\Bw w w':=by
 have j:=h;obtain⟨⟨a,d,rfl,n,p,f⟩,i,b⟩:=h;clear f b;go_enter func67,ntmps67
 go_wp2_with fail
 refine(E8 _ l w j (by omega) k).mono ?_;rintro e q ⟨m,rfl,c,g⟩;go_wp2
 go_ret2
 rw[At]at c
 exact⟨m,rfl,c,g⟩
theorem OJ(v:Value)(l:List Int)(w:World)(h:Sl w v l)(p:l.length<=2000)(q:AD w) :
  Calls prog 197 #[v] w λe w'=>∃ a c,e=.returned (.tuple #[.slice a 4 c,.int .i64 0])/\Sl w' (.slice a 4 c) ((dig l).take 4)/\Bw w w':=by
 go_enter func197,ntmps197
 go_wp2_with fail
 refine(j4 v l w h p q).mono ?_;rintro e t ⟨y,rfl,f⟩;obtain⟨g,b,m,s,d⟩:=f.shape;rw[At]at m d
 subst m;obtain⟨j,k,n,r⟩:=f.sl.sa 4 (by rw[At];decide);have o:=f.tL;clear f;have i:(4:Int)<=(b:Int):=by omega
 replace n:∀ W,(Instr.slice 27 (.slice (some ⟨g,0,none⟩) 32 b) none (some (.int .i64 4)) none).run prog W=.ok (.slice j 4 k) W:=n;go_wp2
 go_ret2
 exact⟨j,k,rfl,r,o⟩
theorem Nt(v:Value)(r:List Int)(w:World)(h:Sl w v r)(ht:AD w){u:World}(O:Sl u v r) :
  Calls prog 174 #[v] w λe w'=>∃ a n c,e=.returned (.tuple #[.slice a n c,.bool (fbO r).isSome])/\Sl u (.slice a n c) ((fbO r).getD [])/\Bw w w':=by
 have o:=h.len;have P:=Ak h.byte 0;obtain⟨ax,cp,rfl⟩:=h.sx;by_cases B:r=[]
 .subst B;have d:Hid (fbO []=none):=if_pos rfl;rw[d.out];go_enter func174,ntmps174
  go_wp2
  go_ret2
  exact⟨none,0,0,rfl,Sl.nil _ _,Below.refl _ _⟩
 .have hp:0<r.length:=by
   rcases Nat.eq_zero_or_pos r.length with g|g
   .exact absurd (Y' g) B
   .exact g
  obtain⟨bd,od,rfl,F,G⟩:=h.sP 0 hp;obtain⟨x,f⟩:∃ x:Nat,r.getD 0 0=(x:Int):=⟨(r.getD 0 0).toNat,by omega⟩;have q:(r.getD 0 0).toNat=x:=by rw[f];exact nE _
  rw[f]at G P
  obtain⟨M,D⟩:∃ M,r.length=M:=⟨_,rfl⟩;have b:Hid (r.length=M):=D;have j:Hid ((r.getD 0 0).toNat=x):=q;have hz:(0:Int)<(M:Int):=by omega
  have a2:((M:Int)==0)=false:=by simp;omega
  rw[D]at h O o hp ⊢
  have a3:x<256:=by omega
  have i:Hid (¬ r=[]):=B;clear D f q P B;rw[pC]at G
  by_cases L:M<x+5
  .have d:Hid (fbO r=none):=by
    unfold Hid fbO;rw[if_neg i.out,j.out,b.out,if_pos L]
   rw[d.out];have l:(M:Int)<1+(x:Int)+4:=by omega
   clear i j;go_enter func174,ntmps174
   go_wp2
   go_ret2
   exact⟨none,0,0,rfl,Sl.nil _ _,Below.refl _ _⟩
  .have l:¬ (M:Int)<1+(x:Int)+4:=by omega
   obtain⟨E,N⟩:∃ E:Nat,E=x+1:=⟨_,rfl⟩;have z:Hid (E=x+1):=N;have C:1+(x:Int)=(E:Int):=by omega
   have a0:E+4<=M:=by omega
   have a1:E<=256:=by omega
   have m:1<=E:=by omega
   rw[C]at l
   obtain⟨X,cu,ru,S⟩:=h.sa E (by rw[b.out];omega);obtain⟨V,Z,rf,H⟩:=h.uu E (E+4) 4 (by omega) (by rw[b.out];omega) (by omega) (E:Int) ((E:Int)+4) rfl (by omega);obtain⟨U,Y,rb,Q⟩:=O.uu 1 E x m (by rw[b.out];omega) (by omega) 1 (E:Int) rfl rfl;have hl:(r.take E).length=E:=by rw[j',b.out];omega
   have I:Hid ((r.take (E+4)).drop E=(r.drop E).take 4):=by unfold Hid;rw[qA,show E+4-E=4 by omega]
   rw[I.out]at H
   clear N L m I;go_enter func174,ntmps174
   go_wp2_with fail
   refine(OJ (.slice X E cu) (r.take E) w S (by omega) ht).mono ?_;rintro e T ⟨W,cg,rfl,R,A⟩;have y:=H.af A;have s:=Q;clear S H Q ru G F hl;go_wp2_with fail
   refine(IY (.slice W 4 cg) (.slice V 4 Z) ((dig (r.take E)).take 4) ((r.drop E).take 4) T R y).mono ?_;rintro e w2 ⟨rfl,n2,p⟩;have J:Bw T w2:=by rw[p];exact Ar (Below.refl _ _) n2
   clear p;have K:=A.trans (J.mono A.size);have t:=s;clear A J s R y rf;by_cases k:(dig (r.take E)).take 4=(r.drop E).take 4
   .have d:Hid (fbO r=some ((r.take E).drop 1)):=by
     unfold Hid fbO;have:=z.out;rw[if_neg i.out,j.out,b.out,if_neg (by omega),<- this,if_neg (λg=>g k)]
    rw[O' k];clear k i j z;go_wp2
    go_ret2
    rw[d.out];exact⟨U,x,Y,rfl,t,K⟩
   .have d:Hid (fbO r=none):=by
     unfold Hid fbO;have:=z.out;rw[if_neg i.out,j.out,b.out,if_neg (by omega),<- this,if_pos k]
    rw[H' k];clear k i j z t;go_wp2
    go_ret2
    rw[d.out];exact⟨none,0,0,rfl,Sl.nil _ _,K⟩
theorem P9(v:Value)(b:List Int)(w:World)(h:Sl w v b)(P:b.length<=255)(U:AD w) :
  Calls prog 193 #[v] w λe w'=>∃ y,e=.returned (.tuple #[y,.int .i64 0])/\w'.ownsRow w.heap.size 5 1 y (AP b).length ((AP b).map (Value.int .u8))/\Bw w w':=by
 obtain⟨ax,cp,rfl⟩:=h.sx;obtain⟨N,l⟩:∃ N,b.length=N:=⟨_,rfl⟩;have Y:Hid (b.length=N):=l;have z:Hid (Ef b++(dig (Ef b)).take 4=AP b):=rfl;have K:Hid ([(N:Int)]++b=Ef b):=by unfold Hid Ef;rw[l];rfl
 have a:Hid ((Ef b).length=N+1/\∀ x∈Ef b,0<=x/\x<256):=⟨by rw[CE,l],LS h.byte P⟩;rw[l]at h P ⊢
 have V:(N:Int)%256=(N:Int):=by omega
 have o:[(N:Int)].length+b.length<=140737488355328:=by rw[l];simp;omega
 clear l;obtain⟨q,g⟩:∃ q,w.alloc (.cells #[.int .u8 (N:Int)] 5)=q:=⟨_,rfl⟩;have r:Bw w q:=by rw[<- g];exact Cp _ _
 have H:q.ownsRow w.heap.size 5 1 (.slice (some ⟨w.heap.size,0,none⟩) 1 1) [(N:Int)].length ([(N:Int)].map (Value.int .u8)):=by rw[<- g];exact JQ w N N 5 rfl (A' _) rfl
 have O:=h.af r;go_enter func193,ntmps193
 go_wp2_with (at_builtin;refine Aa _ rfl _ _ 27 rfl w.heap.size 5 underlying27 Ax _ _ rfl rfl [(N:Int)] b H O o r.size ?_)
 clear g;intro s t j L;have c:=H.lt;have A:Bw w t:=r.grown L r.size (λk n=>(c k n).1);replace j:t.ownsRow w.heap.size 5 1 s ([(N:Int)]++b).length (([(N:Int)]++b).map (Value.int .u8)):=by simpa using j
 rw[K.out]at j
 have I:=Sl.ov j (by rw[a.out.1];omega) a.out.2;have m:(Ef b).length<=2000:=by rw[a.out.1];omega
 have i:(Ef b).length+((dig (Ef b)).take 4).length<=140737488355328:=by rw[a.out.1,j',At];omega
 clear H L c K o O;generalize E:Ef b=F at j I m i z;have d:Hid (t.ownsRow w.heap.size 5 1 s F.length (F.map (Value.int .u8))):=j;clear j E a;go_wp2_with fail
 refine(OJ s F t I m (U.af A)).mono ?_;rintro e X ⟨Z,c4,rfl,J,B⟩;have C:=A.trans (B.mono A.size);have f:Hid (X.ownsRow w.heap.size 5 1 s F.length (F.map (Value.int .u8))):=DI d.out (λk n=>B.block k (d.out.lt k n).2);have p:=f.out.lt;generalize T:(dig F).take 4=D at J z i;clear d B T I;have G:=C.size;go_wp2_with (at_builtin;refine Aa _ rfl _ _ 27 rfl w.heap.size 5 underlying27 Ax _ _ rfl rfl F D f.out J i G ?_)
 intro W R Q M;have S:Bw w R:=C.grown M C.size (λk n=>(p k n).1);have u:Hid (R.ownsRow w.heap.size 5 1 W (AP b).length ((AP b).map (Value.int .u8))):=by
  unfold Hid;rw[<- z.out];simpa using Q
 clear Q M f p J;go_wp2
 go_ret2
 exact⟨_,rfl,u.out,S⟩
section
variable{P:Program}{md:Region.Mode}{ops:Array Oper}{Q:Exit->Act->World->Prop}{S:World->Prop}
theorem WC{i d:Nat}{o:Oper}{a:Act}{w:World}{K:Act->World->Prop}(r:ops[i]?=some o)(B:Region.wanted o (yielded ops a.tmps)=true)(q:o.dst=some d)(s x:Operand)(t:TypeId)
  (n:o.op=.call { callee:=.builtin .append,args:=#[s,x],argTypes:=#[t,t] })
  (b e:Nat)(z:P.underlying t=some (.slice e))(f:(P.info? e).map (λi=>(i.zero,i.size,i.bytes))=some (some (.int .u8 0),1,1))
  (v u:Value)(y:a.eval s=v)(C:a.eval x=u)(l m:List Int)(j:w.ownsRow b e 1 v l.length (l.map (Value.int .u8)))(A:Sl w u m)
  (g:l.length+m.length<=140737488355328)(c:b<=w.heap.size)
  (h:∀ v' w',w'.ownsRow b e 1 v' (l++m).length ((l++m).map (Value.int .u8))->w.grownBy w' v.ownBlock->K (a.put (some d) v') w'):wpOp P ops Q i K a w :=
 wpOp_step r λF p=>by
  rw[if_pos B];obtain⟨v',w',k,D,E⟩:=H4 (P:=P) w b t o.type e z f v l j u m A g c;unfold Oper.wp execOp;simp only[n,resolve,invoke,builtin,Sem.run_bind,Sem.run_pure,Result.andThen_ok,pV,nO,oN,y,C,k];exact p _ _ (by rw[q];exact h v' w' D E)
end
section
theorem Hw(x:Value)(d:List Int)(s:Int)(k:Nat)(G:k<=1000)(w:World)(h:Sl w x d) :
  Calls prog 167 #[.agg (tpA x s),.int .i64 (k:Int)] w λe w'=>e=.returned (.int .i64 (GE d s k))/\Bw w w':=by
 have t:=h.len;obtain⟨q,r,rfl⟩:=h.sx;obtain⟨M,B⟩:∃ M,d.length=M:=⟨_,rfl⟩;have z:Hid (d.length=M):=B;rw[B]at h t ⊢
 clear B;simp only[tpA];obtain⟨o,n⟩:∃ o,w.alloc (.cells #[.slice q M r,.int .i64 s] 134)=o:=⟨_,rfl⟩;have c:o.heap[w.heap.size]?=some (.cells #[.slice q M r,.int .i64 s] 134):=by rw[<- n];exact EH _ _
 have A:Bw w o:=by rw[<- n];exact Cp _ _
 have i:w.heap.size<o.heap.size:=(U'.1 c).1;have b:=h.af A;go_enter func167,ntmps167
 go_wp2_with ((with_reducible (refine Ed ?_));(refine wpList_load_row rfl 134 _ rfl w.heap.size rfl 134 _ (0,0) _ c underlying134 rfl MV ?_))
 clear n;refine(Mc (.slice q M r) d s o b).mono ?_;rintro e y ⟨rfl,f⟩;have E:=A.trans (f.mono A.size);have a:=(f.block _ i).trans c;have C:=X' i f.size;have D:=b.af f;clear i c b;clear f;by_cases m:AV d s
 .rw[O' m];have F:M<=100000:=by rw[<- z.out];exact m.1
  have u:=E;by_cases v:100000<M+k
  .have h2i:(100000:Int)<(M:Int)+(k:Int):=by omega
   have p:Hid (GE d s k=8):=by unfold Hid GE;rw[if_neg (λg=>g m),z.out,if_pos v]
   clear m v;have j:y.cell? ⟨w.heap.size,0,none⟩=some (.slice q M r):=cell_of_row _ _ 0 _ _ _ a;have l:y.cell? ⟨w.heap.size,1,none⟩=some (.int .i64 s):=cell_of_row _ _ 1 _ _ _ a;go_wp2
   go_ret;exact⟨by rw[p.out];rfl,u⟩
  .have h2i:¬ (100000:Int)<(M:Int)+(k:Int):=by omega
   have p:Hid (GE d s k=0):=by unfold Hid GE;rw[if_neg (λg=>g m),z.out,if_neg v]
   clear m v;have j:y.cell? ⟨w.heap.size,0,none⟩=some (.slice q M r):=cell_of_row _ _ 0 _ _ _ a;have l:y.cell? ⟨w.heap.size,1,none⟩=some (.int .i64 s):=cell_of_row _ _ 1 _ _ _ a;go_wp2
   go_ret;exact⟨by rw[p.out];rfl,u⟩
 .rw[H' m];have p:Hid (GE d s k=5):=if_pos m;clear m;have u:=E;go_wp2
  go_ret;exact⟨by rw[p.out];rfl,u⟩
theorem Nh(x:Value)(d:List Int)(s:Int)(v:Value)(b:List Int)(w:World)(h:Sl w x d)(hv:Sl w v b)(hb:b.length<=255)(hd:d.length<=100000)(ht:AD w) :
  Calls prog 168 #[.agg (tpA x s),v] w λe w'=>∃ y,e=.returned (.tuple #[.agg (tpA y s),.int .i64 0])/\w'.ownsRow w.heap.size 5 1 y (d++AP b).length ((d++AP b).map (Value.int .u8))/\Bw w w':=by
 have HD:Hid (∀ x∈d,0<=x/\x<256):=h.byte;have a2:Hid (∀ x∈AP b,0<=x/\x<256):=Mt hv.byte hb;have a8:(AP b).length<=260:=by rw[Bh];omega
 have a6:=h.len;obtain⟨ax,cp,rfl⟩:=h.sx;obtain⟨M,hM⟩:∃ M,d.length=M:=⟨_,rfl⟩;have HM:Hid (d.length=M):=hM;rw[hM]at h a6 ⊢
 clear hM;simp only[tpA];rw[HM.out]at hd
 obtain⟨i0,b7,c2,c5,c6⟩:=info_parts Ax;obtain⟨U,Q⟩:∃ U,(w.alloc (.cells #[.slice ax M cp,.int .i64 s] 134)).alloc (.cells #[.slice none 0 0,.int .i64 0] 134)=U:=⟨_,rfl⟩;have A:U.heap[w.heap.size]?=some (.cells #[.slice ax M cp,.int .i64 s] 134):=by rw[<- Q];exact ML _ _ _
 have B:U.heap[w.heap.size+1]?=some (.cells #[.slice none 0 0,.int .i64 0] 134):=by rw[<- Q];exact MM _ _ _
 have bb:Bw w U:=by rw[<- Q];exact OK _ _ _
 have t:w.heap.size<U.heap.size:=(U'.1 A).1;have u:(w.heap.size+1)<U.heap.size:=(U'.1 B).1;have I:=ht.af bb;have E:=h.af bb;have o:=hv.af bb;go_enter func168,ntmps168
 go_wp2_with fail
 clear Q;refine(P9 v b U o hb I).mono ?_;rintro e q ⟨y,rfl,oy,a⟩;obtain⟨R,hR⟩:∃ R,AP b=R:=⟨_,rfl⟩;rw[hR]at oy a8 a2
 have HR:Hid (AP b=R):=hR;clear hR;have sy:=Sl.ov oy (by omega) a2.out;obtain⟨N,hN⟩:∃ N,R.length=N:=⟨_,rfl⟩;have HN:Hid (R.length=N):=hN;rw[hN]at oy a8
 clear hN;obtain⟨ay,cy,rfl⟩:=CA oy;have d1:=bb.trans (a.mono bb.size);have J:=I.af a;have n:=(a.block _ t).trans A;have m:=X' t a.size;have C:=(a.block _ u).trans B;have f:=X' u a.size;have G:=E.af a;have F:=o.af a;clear I t A u B E o;clear a;clear oy;have d0:=sy;have a5:w.heap.size+1<q.heap.size:=f;have L:q.cell? ⟨w.heap.size,0,none⟩=some (.slice ax M cp):=cell_of_row _ _ 0 _ _ _ n;go_wp2_with (at_make;refine wpList_make_own _ rfl _ _ 27 rfl q.heap.size 5 i0 (.int .u8 0) 1 underlying27 b7 c2 c5 _ _ _ (M+N) rfl rfl (by omega) (by rw[c6];omega) (by unfold maxLen;omega) (A' _) ?_)
 intro w2 o2 g2;have r:Bw q w2:=(Below.refl _ _).grown g2 (A' _) (λk Y=>by cases Y);clear g2 L;have d7:=r.size;have b5:=r;have d2:=d1.trans (r.mono d1.size);have d5:=J.af r;have D:=(r.block _ m).trans n;have c7:=X' m r.size;have a0:=(r.block _ f).trans C;have c8:=X' f r.size;have H:=G.af r;have c9:=F.af r;clear J m n f C G F;clear r;have a1:Hid (w2.ownsRow q.heap.size 5 1 (.slice (some ⟨q.heap.size,0,none⟩) 0 (M+N)) ([]:List Int).length (([]:List Int).map (Value.int .u8))):=o2;have V:=o2.lt;have b8:([]:List Int).length+d.length<=140737488355328:=by rw[HM.out];simp;omega
 clear o2;have O:w2.cell? ⟨w.heap.size,0,none⟩=some (.slice ax M cp):=cell_of_row _ _ 0 _ _ _ D;go_wp2_with (at_builtin;refine Aa _ rfl _ _ 27 rfl q.heap.size 5 underlying27 Ax _ _ rfl rfl [] d a1.out H b8 (by omega) ?_)
 intro v3 l o3 g3;have b3:Below q.heap.size w2 l:=(Below.refl _ _).grown g3 (by omega) (λk Y=>(V k Y).1);have K:Hid (l.ownsRow q.heap.size 5 1 v3 d.length (d.map (Value.int .u8))):=by unfold Hid;simpa using o3
 have d8:=b3.size;have d4:Sl l (.slice ay N cy) R:=d0.af (show Bw q l from b5.trans b3);have a9:=(b3.block w.heap.size (by omega)).trans D;have b0:=(b3.block (w.heap.size+1) a5).trans a0;have d3:=d2.trans (b3.mono (show w.heap.size<=q.heap.size by omega));have z:w.heap.size+1<l.heap.size:=by omega
 have d6:q.heap.size<=l.heap.size:=by omega
 obtain⟨a3,c3,h3⟩:=CA K.out;rw[HM.out]at h3
 subst h3;have c1:l.cell? ⟨w.heap.size,1,none⟩=some (.int .i64 s):=cell_of_row _ _ 1 _ _ _ a9;obtain⟨T,hT⟩:∃ T,M+N=T:=⟨_,rfl⟩;have HT:Hid (M+N=T):=hT;clear hT;clear o3 g3 b3 V a1 H O;go_wp2_with fail
 apply bm (λg c Wz=>Wz.heap[w.heap.size+1]?=some (.cells #[.slice g T c,.int .i64 s] 134)/\Wz.ownsRow q.heap.size 5 1 (.slice g T c) T ((d++R).map (Value.int .u8))/\Below (w.heap.size+1) l Wz)
 .intro K2 HK2;have j:Bw l l.drew:=(Below.refl _ _).drew;refine wp_region_held (S:=λw'=>Below (w.heap.size+1) l w') (by kernel_rfl) ?_;have P:(λw'=>Below (w.heap.size+1) l w') l.drew:=j.mono (pD z);refine Be (i:=0) 29 (v:=.slice a3 M c3) rfl rfl (by kernel_rfl) (by kernel_rfl) (by kernel_rfl) (λ_ _ _ h=>h) (rO ⟨by rfl,λ_ _=>by kernel_rfl⟩) P ?_;simp only[Act.put,na,ng,nh];refine Be (i:=1) 30 (v:=.slice ay N cy) rfl rfl (by kernel_rfl) (by kernel_rfl) (by kernel_rfl) (λ_ _ _ h=>h) (rO ⟨by rfl,λ_ _=>by kernel_rfl⟩) P ?_;simp only[Act.put,na,ng,nh];refine Be (i:=3) 32 (v:=.pointer (some ⟨w.heap.size,1,none⟩)) rfl rfl (by kernel_rfl) (by kernel_rfl) (by kernel_rfl) (λ_ _ _ h=>h) (rO ⟨by rfl,λ_ _=>by kernel_rfl⟩) P ?_;simp only[Act.put,na,ng,nh];refine Be (i:=4) 33 (v:=.int .i64 s) rfl rfl (by kernel_rfl) (by kernel_rfl) (by kernel_rfl) (λ_ _ _ h=>h) (Xz (by rfl) 3 (.tmp 32) rfl _ underlying3 rfl ⟨w.heap.size,1,none⟩ rfl (.int .i64 s) (λw' c0=>(c0.cell (p:=⟨w.heap.size,1,none⟩) (show w.heap.size<w.heap.size+1 by omega)).trans c1)) P ?_;simp only[Act.put,na,ng,nh];have od:l.drew.ownsRow q.heap.size 5 1 (.slice a3 M c3) d.length (d.map (Value.int .u8)):=DI K.out (λk Y=>j.block k (K.out.lt k Y).2);have rd:=(j.block (w.heap.size+1) z).trans b0;have b9:=od.lt;have Z:d.length+R.length<=140737488355328:=by rw[HM.out,HN.out];omega
  refine Eo (i:=2) (by kernel_rfl) (WC (i:=2) (d:=31) rfl (by kernel_rfl) rfl (.tmp 29) (.tmp 30) 27 rfl q.heap.size 5 underlying27 Ax (.slice a3 M c3) (.slice ay N cy) (by kernel_rfl) (by kernel_rfl) d R od (d4.af j) Z (mS d6 j.size) ?_);intro v4 w4 o4 g4;have b4:Below (w.heap.size+1) l w4:=(j.mono (pD z)).grown g4 (mS (pD z) j.size) (λk Y=>mS (pD a5) (b9 k Y).1);have r4:w4.heap[w.heap.size+1]?=some (.cells #[.slice none 0 0,.int .i64 0] 134):=(g4.block (w.heap.size+1) (X' z j.size) (λe=>MK od rd (by decide) _ e.symm rfl)).trans rd;have b6:(d++R).length=T:=by rw[G',HM.out,HN.out];exact HT.out
  rw[b6]at o4
  obtain⟨W,X,h4⟩:=CA o4;subst h4;refine⟨b4,?_⟩;simp only[Act.put,na,ng,nh];refine Be (i:=5) 34 (v:=.agg #[.slice W T X,.int .i64 s]) rfl rfl (by kernel_rfl) (by kernel_rfl) (by kernel_rfl) (λ_ _ _ h=>h) (rO ⟨by rfl,λ_ _=>by kernel_rfl⟩) b4 ?_;simp only[Act.put,na,ng,nh];have a7:=bJ W T X s;have e7:Below (w.heap.size+1) l (w4.setRow (w.heap.size+1) #[.slice W T X,.int .i64 s]):=Dc b4 (A' _) _;have q7:=setRow_heap w4 (w.heap.size+1) _ (#[.slice W T X,.int .i64 s]) 134 _ r4;have o7:=Xh o4 r4 (by decide) (#[.slice W T X,.int .i64 s]);refine Eo (i:=6) (by kernel_rfl) (UV (i:=6) rfl (by kernel_rfl) rfl 134 (.tmp 4) (.tmp 34) rfl (w.heap.size+1) #[.slice W T X,.int .i64 s] (by kernel_rfl) (by kernel_rfl) 134 _ r4 MV rfl a7 ⟨e7,?_⟩);refine Be (i:=7) 5 (v:=.int .i64 0) rfl rfl (by kernel_rfl) (by kernel_rfl) (by kernel_rfl) (λ_ _ _ h=>h) (rO ⟨by rfl,λ_ _=>by kernel_rfl⟩) e7 ?_;simp only[Act.put,na,ng,nh];exact wpAnyH_done (by kernel_rfl) (HK2.out W X _ ⟨q7,o7,e7⟩) _
 rintro g c Wz ⟨qR,oR,eR⟩;have dR:=d3.trans (eR.mono (by omega));have b1:Hid ((d++AP b).length=T):=by unfold Hid;rw[HR.out,G',HM.out,HN.out];exact HT.out
 clear a9 b0 c1 K;go_wp2
 refine bodyPost_ret (Vi rfl _ _ (w.heap.size+1) 134 _ (0,0) _ rfl qR underlying134 rfl MV) rfl ?_;rw[b1.out,HR.out];exact⟨_,rfl,FW oR (by omega),dR⟩
theorem PH(b:Bal)(z:Ac b)(w:World) :
  Calls prog 169 #[.agg (baA b)] w λe w'=>∃ y,e=.returned y/\w'.ownsRow w.heap.size 5 1 y 9 ((Bu b).map (Value.int .u8))/\Bw w w':=by
 obtain⟨n,m⟩:=b;have t:=z;unfold Ac at t;simp only at t;have O:Hid (Ac ⟨n,m⟩):=z;clear z;simp only[baA];obtain⟨d,o⟩:∃ d,w.alloc (.cells #[.int .i64 n,.int .i64 m] 121)=d:=⟨_,rfl⟩;have h:d.heap[w.heap.size]?=some (.cells #[.int .i64 n,.int .i64 m] 121):=by rw[<- o];exact EH _ _
 have v:Bw w d:=by rw[<- o];exact Cp _ _
 have f:w.heap.size<d.heap.size:=(U'.1 h).1;obtain⟨i,p⟩:∃ i,d.alloc (.cells #[.int .u8 1] 5)=i:=⟨_,rfl⟩;have u:Bw d i:=by rw[<- p];exact Cp _ _
 have B:i.ownsRow d.heap.size 5 1 (.slice (some ⟨d.heap.size,0,none⟩) 1 1) [(1:Int)].length ([(1:Int)].map (Value.int .u8)):=by rw[<- p];exact JQ d 1 1 5 rfl (A' _) rfl
 have E:=v.trans (u.mono v.size);have a:=(u.block _ f).trans h;have c:=X' f u.size;clear f h;have j:i.cell? ⟨w.heap.size,0,none⟩=some (.int .i64 n):=cell_of_row _ _ 0 _ _ _ a;have l:i.cell? ⟨w.heap.size,1,none⟩=some (.int .i64 m):=cell_of_row _ _ 1 _ _ _ a;obtain⟨r,q⟩:∃ r,i.alloc (.cells #[.int .i64 n,.int .i64 m] 3)=r:=⟨_,rfl⟩;have s:Bw i r:=by rw[<- q];exact Cp _ _
 have rn:r.heap[i.heap.size]?=some (.cells ([n,m].map (Value.int .i64)).toArray 3):=by rw[<- q];exact heap_alloc_new _ _
 have N:d.heap.size<=r.heap.size:=mS u.size s.size;have H:=E.trans (s.mono E.size);have C:=(s.block _ c).trans a;have A:=X' c s.size;have g:=DI B (λk J=>s.block k (B.lt k J).2);clear c a B;go_enter func169,ntmps169
 go_wp2_with fail
 clear o p q j l;refine(G9 (.slice (some ⟨d.heap.size,0,none⟩) 1 1) [1] [n,m] d.heap.size i.heap.size r g N (by simp) (by simp) (by intro x K;simp at K;omega) rn).mono ?_;rintro e M ⟨L,rfl,F,D⟩;have I:=H.trans (D.mono v.size);have G:Hid (M.ownsRow w.heap.size 5 1 L 9 ((Bu ⟨n,m⟩).map (Value.int .u8))):=FW F v.size;clear F D rn g;go_wp2
 go_ret;exact⟨_,rfl,G.out,I⟩
theorem PJ(v:Vt)(hv:Ah v)(x:Value)(w:World)(P:Sl w x (CO v.w.k v.w.c v.w.s v.w.n v.w.v)) :
  Calls prog 187 #[.agg (vtA v),x] w λe w'=>∃ y,e=.returned y/\w'.ownsRow w.heap.size 5 1 y 33 ((Bj v).map (Value.int .u8))/\Bw w w':=by
 obtain⟨p,⟨o,m⟩,⟨G,F,I,H,J⟩⟩:=v;have E:=hv;unfold Ah Ac at E;simp only at E P;obtain⟨a0,a1,-⟩:=E;clear hv;simp only[vtA,vtC];obtain⟨b,z⟩:∃ b,w.alloc (.cells #[.int .i64 p,.int .i64 o,.int .i64 m,.int .i64 G,.int .i64 F,.int .i64 I,.int .i64 H,.int .i64 J] 181)=b:=⟨_,rfl⟩;have i:b.heap[w.heap.size]?=some (.cells #[.int .i64 p,.int .i64 o,.int .i64 m,.int .i64 G,.int .i64 F,.int .i64 I,.int .i64 H,.int .i64 J] 181):=by rw[<- z];exact EH _ _
 have u:Bw w b:=by rw[<- z];exact Cp _ _
 have g:w.heap.size<b.heap.size:=(U'.1 i).1;have j:=P.af u;obtain⟨f,A⟩:∃ f,b.alloc (.cells #[.int .u8 2] 5)=f:=⟨_,rfl⟩;have N:Bw b f:=by rw[<- A];exact Cp _ _
 have W:f.ownsRow b.heap.size 5 1 (.slice (some ⟨b.heap.size,0,none⟩) 1 1) [(2:Int)].length ([(2:Int)].map (Value.int .u8)):=by rw[<- A];exact JQ b 2 2 5 rfl (A' _) rfl
 have d1:=u.trans (N.mono u.size);have a:=(N.block _ g).trans i;have d:=X' g N.size;have l:=j.af N;clear g i j;have q:f.cell? ⟨w.heap.size,0,none⟩=some (.int .i64 p):=cell_of_row _ _ 0 _ _ _ a;have r:f.cell? ⟨w.heap.size,1,none⟩=some (.int .i64 o):=cell_of_row _ _ 1 _ _ _ a;have t:f.cell? ⟨w.heap.size,2,none⟩=some (.int .i64 m):=cell_of_row _ _ 2 _ _ _ a;obtain⟨K,B⟩:∃ K,f.alloc (.cells #[.int .i64 p,.int .i64 o,.int .i64 m] 3)=K:=⟨_,rfl⟩;have M:Bw f K:=by rw[<- B];exact Cp _ _
 have rn:K.heap[f.heap.size]?=some (.cells ([p,o,m].map (Value.int .i64)).toArray 3):=by rw[<- B];exact heap_alloc_new _ _
 have z1:b.heap.size<=K.heap.size:=mS N.size M.size;have d2:=d1.trans (M.mono d1.size);have Y:=(M.block _ d).trans a;have V:=X' d M.size;have Z:=l.af M;have h:=DI W (λk U=>M.block k (W.lt k U).2);clear d a l W;go_enter func187,ntmps187
 go_wp2_with fail
 clear z A B q r t;refine(G9 (.slice (some ⟨b.heap.size,0,none⟩) 1 1) [2] [p,o,m] b.heap.size f.heap.size K h z1 (by simp) (by simp) (by intro x P;simp at P;omega) rn).mono ?_;rintro e w3 ⟨v3,rfl,S,T⟩;have d3:=d2.trans (T.mono u.size);have Q:=P.af d3;have z3:b.heap.size<=w3.heap.size:=mS z1 T.size;have O:=S.lt;have R:Hid ([2]++Dl [p,o,m]++CO G F I H J=Bj ⟨p,⟨o,m⟩,⟨G,F,I,H,J⟩⟩):=rfl;have D:([(2:Int)]++Dl [p,o,m]).length+(CO G F I H J).length<=140737488355328:=by show 33<=_;decide
 generalize hL:[(2:Int)]++Dl [p,o,m]=L at S R D;generalize hC:CO G F I H J=C at Q R D;clear hL hC rn T h;go_wp2_with (at_builtin;refine Aa _ rfl _ _ 27 rfl b.heap.size 5 underlying27 Ax _ _ rfl rfl L C S Q D z3 ?_)
 intro v4 w4 o4 g4;have d4:Bw w w4:=d3.grown g4 (mS u.size z3) (λk U=>mS u.size (O k U).1);have HO:Hid (w4.ownsRow w.heap.size 5 1 v4 33 ((Bj ⟨p,⟨o,m⟩,⟨G,F,I,H,J⟩⟩).map (Value.int .u8))):=by
  have X:w4.ownsRow b.heap.size 5 1 v4 (L++C).length ((L++C).map (Value.int .u8)):=by simpa using o4
  have:=FW X u.size;rw[R.out]at this
  exact this
 clear o4 g4 S O R;go_wp2
 go_ret;exact⟨_,rfl,HO.out,d4⟩
variable{B b k:Nat}{E s:Int}{d:List Int}{f:Cmd->Option Bal}{g:Gh}{v:Vt}{w:World}{x:S3}{τ:Tg}
theorem Nb.mono{C:Nat}{y:S3}{l:List Int}(h:Nb B y l)(c:C<=B):Nb C y l:=λd a b=>mS c (h d a b)
theorem be{y:Value}{l:List Vt}(b:Sv w y l):∃ z:S3,y=z.v:=by
 obtain⟨a,c,rfl⟩:=b.shape;exact⟨⟨a,l.length,c⟩,rfl⟩
theorem lX(w:World):Sv w (.slice none 0 0) []:=⟨⟨none,0,rfl,A' _,λ_=>rfl,.inl rfl⟩,by simp⟩
theorem ja{b:Bal}(d:NTab w){E:Int}(c:(if Ac b then 0 else 2)=E) :
  Calls prog 137 #[.agg #[iv 0,iv 0,S3.v s30],.agg #[iv b.r,iv b.n]] w λe w'=>∃ (r n:Int) (y z:S3),e=.returned (.tuple #[.agg #[iv r,iv n,y.v],z.v,iv E])/\Bw w w':=by
 refine(Re ⟨0,0⟩ (.slice none 0 0) [] b w (lX w) d).mono ?_;rintro e w' ⟨y,z,rfl,g,h,f⟩;obtain⟨y,rfl⟩:=be g;obtain⟨z,rfl⟩:=be h;have a:Cn ⟨⟨0,0⟩,[]⟩ b=E:=(eD b).trans c;rw[a];exact⟨_,_,y,z,rfl,f⟩
theorem EX{may:Prop}[Decidable may]{b:List Int}(h:CH d s may b=E)(a:E≠0):FZ d s may b=[]/\GV d s may b=0:=⟨if_neg (by rw[h];exact a),if_neg (by rw[h];exact a)⟩
theorem aQ{b:Bal}(a:Ac b){w:World}:Calls prog 169 #[.agg #[iv b.r,iv b.n]] w λe w'=>∃ y:S3,e=.returned y.v/\Sl w' y.v (Bu b)/\Bw w w':=by
 refine(PH b a w).mono ?_;rintro e w' ⟨y,rfl,c,h⟩;obtain⟨z,rfl,d⟩:=Py (l:=Bu b) c (by rw[show(Bu b).length=9 from rfl];decide) (WJ b);exact⟨z,rfl,d,h⟩
theorem V3{v:S3}{b:List Int}(s:Int){w:World}(h:Sl w x.v d)(c:Sl w v.v b)(a:b.length<=255)(m:d.length+5+b.length<=100000)(i:AD w) :
  Calls prog 168 #[.agg #[x.v,iv s],v.v] w λe w'=>∃ y:S3,e=.returned (.tuple #[.agg #[y.v,iv s],iv 0])/\Sl w' y.v (d++AP b)/\Nb w.heap.size y (d++AP b)/\Bw w w':=by
 refine(Nh x.v d s v.v b w h c a (by omega) i).mono ?_;rintro e w' ⟨y,rfl,g,j⟩;obtain⟨z,rfl,l,f⟩:=JE g (by rw[G',Bh];omega) (λx k=>(P'.1 k).elim (h.byte x) (Mt c.byte a x));exact⟨z,rfl,l,f,j⟩
theorem gG(f:NTab w){E:Int}(d:(if Ah v then 0 else 2)=E) :
  Calls prog 139 #[.agg #[iv 0,iv 0,S3.v s30],.agg #[iv v.bt,iv v.b.r,iv v.b.n,iv v.w.k,iv v.w.c,iv v.w.s,iv v.w.n,iv v.w.v]] w λe w'=>∃ (r n:Int) (y:S3),e=.returned (.tuple #[.agg #[iv r,iv n,y.v],iv E])/\Bw w w':=by
 refine(RR ⟨0,0⟩ (.slice none 0 0) [] v w (lX w) f).mono ?_;rintro e w' ⟨y,rfl,h,g⟩;obtain⟨y,rfl⟩:=be h;have a:Bb ⟨⟨0,0⟩,[]⟩ v=E:=(fN v).trans d;rw[a];exact⟨_,_,y,rfl,g⟩
theorem Y0{m:Cmd}(f:NTab w)(d:m.e=0) :
  Calls prog 15 #[.agg #[iv m.k,iv m.c,iv m.s,iv m.n,iv m.v]] w λe w'=>∃ y:S3,e=.returned (.tuple #[y.v,iv 0])/\Sl w' y.v (CO m.k m.c m.s m.n m.v)/\Bw w w':=by
 refine(LE m.k m.c m.s m.n m.v w f).mono ?_;rintro e w' ⟨y,rfl,b,g⟩;have a:Bi m.k m.c m.s m.n m.v=0:=d;rw[Pj a]at b
 rw[a];obtain⟨y,rfl,h⟩:=Py b (by rw[BE];decide) (Fj _ _ _ _ _);exact⟨y,rfl,h,g⟩
theorem bf(d:Ah v){x:S3}{w:World}(f:Sl w x.v (CO v.w.k v.w.c v.w.s v.w.n v.w.v)) :
  Calls prog 187 #[.agg #[iv v.bt,iv v.b.r,iv v.b.n,iv v.w.k,iv v.w.c,iv v.w.s,iv v.w.n,iv v.w.v],x.v] w λe w'=>∃ y:S3,e=.returned y.v/\Sl w' y.v (Bj v)/\Bw w w':=by
 refine(PJ v d x.v w f).mono ?_;rintro e w' ⟨y,rfl,a,h⟩;obtain⟨z,rfl,g⟩:=Py (l:=Bj v) a (by rw[GR];decide) (Xv v);exact⟨z,rfl,g,h⟩
theorem aC(h:GE d s k=0):d.length+k<=100000:=by
 unfold GE at h;split at h
 .cases h
 .split at h
  .cases h
  .omega
theorem K4{b:Bal}(h:Sl w x.v d)(hT:AD w)(hN:NTab w) :
  Calls prog 138 #[.agg #[x.v,iv s],.agg #[iv b.r,iv b.n]] w λe w'=>∃ y:S3,e=.returned (.tuple #[.agg #[y.v,iv (GV d s (Ac b) (Bu b))],iv (CH d s (Ac b) (Bu b))])/\Sl w' y.v (FZ d s (Ac b) (Bu b))/\Nb w.heap.size y (FZ d s (Ac b) (Bu b))/\Bw w w':=by
 obtain⟨j,q⟩:∃ j,GE d s 14=j:=⟨_,rfl⟩;obtain⟨m,k⟩:∃ m:Int,(if Ac b then 0 else 2)=m:=⟨_,rfl⟩;have hW:CH d s (Ac b) (Bu b)=if j≠0 then j else m:=by rw[<- q,<- k];rfl
 refine kIn func138 (kR 11 [0,0,0,0,1,0,0] λa w1 U=>kC 1 ((q▸Hw x.v d s 14 (by decide) _ (h.af U))) ?_);rintro _ w2 ⟨rfl,Y⟩;refine⟨_,rfl,Y,?_⟩;refine kR 7 [] λd2 w3 b3=>?_;by_cases o:j≠0
 .refine kI ((j != 0)) true (by simpa using o) (kF 7 [2,0] λd3 w4 b4 q4=>?_);have c:=hW.trans (if_pos o);rw[c,(EX c o).1,(EX c o).2];have B5:=((btr (btr U Y) b3).trans b4);exact qE2 4 5 134 2 (a 2) #[S3.v s30,iv 0] (iv j) λK=>⟨s30,rfl,NJ _,λh=>absurd rfl h,B5⟩
 .refine kI ((j != 0)) false (by simpa using o) ?_;have a0:j=0:=by simpa using o
  have hd:=aC (q.trans a0);refine kR 6 [1] λd4 w6 b6=>?_;have P:=(btr (btr (btr U Y) b3) b6);refine kC 2 (ja (hN.af P) k) ?_;rintro _ w8 ⟨r,n,ya,za,rfl,Q⟩;refine⟨_,rfl,Q,?_⟩;refine kR 14 [1,0,3,0] λa5 w9 b9=>?_;by_cases E:m≠0
  .refine kI ((m != 0)) true (by simpa using E) (kF 7 [2,0] λa8 c2 V c1=>?_);have c:=hW.trans (if_neg o);rw[c,(EX c E).1,(EX c E).2];have R:=((btr (btr P Q) b9).trans V);exact qE2 4 5 134 2 (a 2) #[S3.v s30,iv 0] (iv m) λK=>⟨s30,rfl,NJ _,λh=>absurd rfl h,R⟩
  .refine kI ((m != 0)) false (by simpa using E) ?_;have F:m=0:=by simpa using E
   have p:Ac b:=by by_cases g:Ac b;exact g;rw[if_neg g,F]at k;cases k
   have c:CH d s (Ac b) (Bu b)=0:=hW.trans ((if_neg o).trans F);rw[c,show FZ d s (Ac b) (Bu b)=d++AP (Bu b)from if_pos c,show GV d s (Ac b) (Bu b)=s from if_pos c];refine kR 4 [2,2,1] λa9 c3 t=>kA 33 (λw' e L=>∃ (y:S3),e=[(4,pt (a 2) 0),(5,iv 0)]/\L=[⟨(a 0),.cells #[S3.v x,iv s] 134,.z,false⟩,⟨(a 1),.cells #[iv b.r,iv b.n] 121,.z,false⟩,⟨(a 2),.cells #[S3.v y,iv s] 134,.l,false⟩,⟨(a5 0),.cells #[iv r,iv n,S3.v ya] 124,.l,false⟩]/\Sl w' y.v (d++AP (Bu b))/\Nb w.heap.size y (d++AP (Bu b))/\Bw w w') ?_ ?_
   .intro J hJ;refine kG 0 2 ?_ ?_
    .refine kR 1 [0] λb0 c4 W=>kC 2 (aQ p) ?_;rintro _ c5 ⟨a6,rfl,G,u⟩;refine⟨_,rfl,u,?_⟩;have f:=(btr (btr (btr (btr (btr P Q) b9) t) W) u);refine kC 3 (V3 s (h.af f) G (by rw[show(Bu b).length=9 from rfl];decide) (by rw[show(Bu b).length=9 from rfl];omega) (hT.af f)) ?_;rintro _ c6 ⟨a3,rfl,N,I,A⟩;refine⟨_,rfl,A,?_⟩;refine kF 5 [8,10,13,2,0,14] λb5 c7 X a1=>?_;have S:=((btr f A).trans X);exact kB [true,true,true,true] λz K=>hJ _ _ z _ ⟨a3,rfl,rfl,(N.kept a1),I.mono f.size,S⟩ K
    .refine kC 2 (aQ p) ?_;rintro _ c8 ⟨a7,rfl,H,B⟩;refine⟨_,rfl,B,?_⟩;refine kR 1 [1,0] λb7 c9 C=>?_;have i:=(btr (btr (btr (btr (btr P Q) b9) t) B) C);refine kC 3 (V3 s (h.af i) (H.af C) (by rw[show(Bu b).length=9 from rfl];decide) (by rw[show(Bu b).length=9 from rfl];omega) (hT.af i)) ?_;rintro _ d0 ⟨a4,rfl,O,M,D⟩;refine⟨_,rfl,D,?_⟩;refine kF 5 [8,10,13,2,0,14] λc0 d1 Z a2=>?_;have T:=((btr i D).trans Z);exact kB [true,true,true,true] λz K=>hJ _ _ z _ ⟨a4,rfl,rfl,(O.kept a2),M.mono i.size,T⟩ K
   .rintro w13 _ z13 _ ⟨y,rfl,rfl,hy,hn,hb⟩;exact qE2 4 5 134 2 (a 2) #[S3.v y,iv s] (iv 0) λK=>⟨y,rfl,hy,hn,hb⟩
theorem R6(h:Sl w x.v d)(hT:AD w)(hN:NTab w) :
  Calls prog 159 #[.agg #[x.v,iv s],.agg #[iv v.bt,iv v.b.r,iv v.b.n,iv v.w.k,iv v.w.c,iv v.w.s,iv v.w.n,iv v.w.v]] w λe w'=>∃ y:S3,e=.returned (.tuple #[.agg #[y.v,iv (GV d s (Ah v) (Bj v))],iv (CH d s (Ah v) (Bj v))])/\Sl w' y.v (FZ d s (Ah v) (Bj v))/\Nb w.heap.size y (FZ d s (Ah v) (Bj v))/\Bw w w':=by
 obtain⟨p,D⟩:∃ p,GE d s 38=p:=⟨_,rfl⟩;obtain⟨u,t⟩:∃ u:Int,(if Ah v then 0 else 2)=u:=⟨_,rfl⟩;have hW:CH d s (Ah v) (Bj v)=if p≠0 then p else u:=by rw[<- D,<- t];rfl
 refine kIn func159 (kR 11 [0,0,0,0,1,0,0] λa w1 b1=>kC 1 ((D▸Hw x.v d s 38 (by decide) _ (h.af b1))) ?_);rintro _ w2 ⟨rfl,b2⟩;refine⟨_,rfl,b2,?_⟩;refine kR 7 [] λd9 w3 b3=>?_;by_cases A:p≠0
 .refine kI ((p != 0)) true (by simpa using A) (kF 7 [2,0] λe0 w4 b4 q4=>?_);have i:=hW.trans (if_pos A);rw[i,(EX i A).1,(EX i A).2];have B5:=((btr (btr b1 b2) b3).trans b4);exact qE2 4 5 134 2 (a 2) #[S3.v s30,iv 0] (iv p) λK=>⟨s30,rfl,NJ _,λh=>absurd rfl h,B5⟩
 .refine kI ((p != 0)) false (by simpa using A) ?_;have a4:p=0:=by simpa using A
  have hd:=aC (D.trans a4);refine kR 6 [1] λe1 w6 b6=>?_;have Z:=(btr (btr (btr b1 b2) b3) b6);refine kC 2 (gG (hN.af Z) t) ?_;rintro _ w8 ⟨r,n,ya,rfl,b8⟩;refine⟨_,rfl,b8,?_⟩;refine kR 12 [1,0,3,0] λa9 w9 b9=>?_;by_cases N:u≠0
  .refine kI ((u != 0)) true (by simpa using N) (kF 7 [2,0] λb7 c7 a0 c6=>?_);have i:=hW.trans (if_neg A);rw[i,(EX i N).1,(EX i N).2];have W:=((btr (btr Z b8) b9).trans a0);exact qE2 4 5 134 2 (a 2) #[S3.v s30,iv 0] (iv u) λK=>⟨s30,rfl,NJ _,λh=>absurd rfl h,W⟩
  .refine kI ((u != 0)) false (by simpa using N) ?_;have O:u=0:=by simpa using N
   have f:Ah v:=by by_cases g:Ah v;exact g;rw[if_neg g,O]at t;cases t
   refine kR 5 [1] λc0 c8 a1=>?_;have B:=(btr (btr (btr Z b8) b9) a1);refine kC 2 (Y0 (m:=v.w) (hN.af B) f.2.2) ?_;rintro _ c9 ⟨yc,rfl,V,C⟩;refine⟨_,rfl,C,?_⟩;refine kR 18 [3,2,1,4] λc1 d0 q=>?_;have i:CH d s (Ah v) (Bj v)=0:=hW.trans ((if_neg A).trans O);rw[i,show FZ d s (Ah v) (Bj v)=d++AP (Bj v)from if_pos i,show GV d s (Ah v) (Bj v)=s from if_pos i];refine kA 44 (λw' e L=>∃ (y:S3),e=[(4,pt (a 2) 0),(5,iv 0)]/\L=[⟨(a 0),.cells #[S3.v x,iv s] 134,.z,false⟩,⟨(a 1),.cells #[iv v.bt,iv v.b.r,iv v.b.n,iv v.w.k,iv v.w.c,iv v.w.s,iv v.w.n,iv v.w.v] 181,.z,false⟩,⟨(a 2),.cells #[S3.v y,iv s] 134,.l,false⟩,⟨(a9 0),.cells #[iv r,iv n,S3.v ya] 124,.l,false⟩]/\Sl w' y.v (d++AP (Bj v))/\Nb w.heap.size y (d++AP (Bj v))/\Bw w w') ?_ ?_
   .intro J hJ;refine kG 0 3 ?_ ?_
    .refine kR 1 [0] λc2 d1 E=>kC 3 (bf f ((V.af q).af E)) ?_;rintro _ d2 ⟨b0,rfl,P,F⟩;refine⟨_,rfl,F,?_⟩;have j:=(btr (btr (btr (btr B C) q) E) F);refine kC 4 (V3 s (h.af j) P (by rw[show(Bj v).length=33 from rfl];decide) (by rw[show(Bj v).length=33 from rfl];omega) (hT.af j)) ?_;rintro _ d3 ⟨a7,rfl,T,R,G⟩;refine⟨_,rfl,G,?_⟩;refine kF 5 [10,12,15,2,0,16] λc3 d4 a2 a5=>?_;have X:=((btr j G).trans a2);exact kB [true,true,true,true] λz K=>hJ _ _ z _ ⟨a7,rfl,rfl,(T.kept a5),R.mono j.size,X⟩ K
    .refine kC 3 (bf f (V.af q)) ?_;rintro _ d5 ⟨b5,rfl,Q,H⟩;refine⟨_,rfl,H,?_⟩;refine kR 1 [1,0] λc4 d6 I=>?_;have o:=(btr (btr (btr (btr B C) q) H) I);refine kC 4 (V3 s (h.af o) (Q.af I) (by rw[show(Bj v).length=33 from rfl];decide) (by rw[show(Bj v).length=33 from rfl];omega) (hT.af o)) ?_;rintro _ d7 ⟨a8,rfl,U,S,M⟩;refine⟨_,rfl,M,?_⟩;refine kF 5 [10,12,15,2,0,16] λc5 d8 a3 a6=>?_;have Y:=((btr o M).trans a3);exact kB [true,true,true,true] λz K=>hJ _ _ z _ ⟨a8,rfl,rfl,(U.kept a6),S.mono o.size,Y⟩ K
   .rintro w17 _ z17 _ ⟨y,rfl,rfl,hy,hn,hb⟩;exact qE2 4 5 134 2 (a 2) #[S3.v y,iv s] (iv 0) λK=>⟨y,rfl,hy,hn,hb⟩
def cmG(c:Cmd):Value:=.agg #[iv c.k,iv c.c,iv c.s,iv c.n,iv c.v]
theorem UQ(x:Cmd × Bal × Nat):(mkA x).key=cmG x.1:=rfl
theorem Y3(u v:Cmd)(w:World):(Op.equal 24 (cmG u) (cmG v)).run prog w=.ok (decide (u=v)) w:=by
 have a:=U8 u.k u.c u.s u.n u.v v.k v.c v.s v.n v.v w;rw[Ux]at a
 rw[run_eql_struct]at a
 show(Op.equalIn 10000 _ _ _).run _ _=_;simp only[cmG];cases hr:(Op.equalIn 10000 24 (.agg #[iv u.k,iv u.c,iv u.s,iv u.n,iv u.v]) (.agg #[iv v.k,iv v.c,iv v.s,iv v.n,iv v.v])).run prog w with
 | ok b w'=>simp only[hr]at a;simp[Result.andThen]at a;rw[a.1,a.2]
 | _=>simp only[hr]at a;simp[Result.andThen]at a
abbrev Ask:=Cmd × Bal × Nat
def LN(v:Cmd):List Ask->Nat->Option (Nat × Value)
 | [],_=>none
 | x::c,i=>if v=x.1 then some (i,(mkA x).val)else LN v c (i+1)
theorem NQ(v:Cmd)(w:World):∀ (c:List Ask) (i:Nat),(Instr.findAsking 24 (cmG v) (c.map mkA) i).run prog w=.ok (LN v c i) w
 | [],i=>by simp[Instr.findAsking,LN]
 | x::c,i=>by
  have h:=Y3 v x.1 w;rw[nO,Instr.findAsking,Sem.run_bind];rw[UQ,h,Result.andThen_ok,LN];by_cases e:v=x.1
  .rw[O' e,if_pos e];rfl
  .rw[H' e,if_neg e];simpa using NQ v w c (i+1)
theorem Hb(v:Cmd)(w:World)(c:List Ask):(Instr.findKey 24 (cmG v) (c.map mkA)).run prog w=.ok (LN v c 0) w:=by
 rw[Instr.findKey,Sem.run_bind,run_underlying underlying24 w,Result.andThen_ok];cases c with
 | nil=>simp[Instr.findNow,LN]
 | cons x c =>
  show Sem.run _ (match(none:Option (Option (Nat × Value)))with|some r=>pure r|none=>Instr.findAsking 24 (cmG v) ((x::c).map mkA)) w=_;exact NQ v w (x::c) 0
theorem Fh(a:Bool)(v:Cmd)(w:World):(Instr.checkKey a 10000 24 (cmG v)).run prog w=.ok () w:=by
 obtain⟨k,c,q,m,x⟩:=v;kernel_rfl
theorem eZ(v:Cmd)(n:Nat):Instr.sameBits (n+1) (cmG v) (cmG v)=true:=by simp[Instr.sameBits,cmG]
theorem aT(v:Cmd)(w:World):(Instr.keyThatStays (cmG v) (cmG v)).run prog w=.ok (cmG v) w:=by
 rw[Instr.keyThatStays,if_pos (eZ v 9999)];rfl
def Gd(c:List Ask)(v:Cmd):Option Bal:=(c.find? λx=>decide (v=x.1)).map (·.2.1)
theorem KZ(v:Cmd):∀ (c:List Ask) (i:Nat),(LN v c i=none/\Gd c v=none/\∀ x∈c,v≠x.1)\/∃ a x b,c=a++x::b/\x.1=v/\(∀ y∈a,v≠y.1)/\LN v c i=some (i+a.length,(mkA x).val)/\Gd c v=some x.2.1
 | [],i=>.inl ⟨rfl,rfl,λx hx=>by cases hx⟩
 | x::c,i=>by
  by_cases e:v=x.1
  .refine .inr ⟨[],x,c,rfl,e.symm,λy hy=>(Q' hy).elim,?_,?_⟩
   .rw[LN,if_pos e];rfl
   .simp[Gd,e]
  .rcases KZ v c (i+1)with⟨h1,h2,h3⟩|⟨a,y,b,rfl,hy,h3,h4,h5⟩
   .refine .inl ⟨by rw[LN,if_neg e,h1],?_,λy hy=>?_⟩
    .rw[<- h2];simp[Gd,e]
    .rcases mZ.1 hy with rfl|hy
     .exact e
     .exact h3 y hy
   .refine .inr ⟨x::a,y,b,rfl,hy,λz hz=>?_,?_,?_⟩
    .rcases mZ.1 hz with rfl|hz
     .exact e
     .exact h3 z hz
    .rw[LN,if_neg e,h4];simp;omega
    .rw[<- h5];simp[Gd,e]
def K9(b:Bal):Value:=.agg #[iv b.r,iv b.n]
theorem gp(h:AskAt g w τ b f)(v:Cmd)(ok:Bool):(Instr.lookup 129 (.map (some b)) (cmG v) ok).run prog w=.ok (if ok then .tuple #[K9 ((f v).getD Bf),.bool (f v).isSome]else K9 ((f v).getD Bf)) w:=by
 obtain⟨_,_,c,k,j,_,_,_,l⟩:=h;have e:f v=Gd c v:=l v;have i:(getObj b).run prog w=.ok (.map (c.map mkA).toArray k) w:=by simp[getObj,Sem.run,j]
 rcases KZ v c 0 with⟨h1,h2,_⟩|⟨a,x,d,_,_,_,h1,h2⟩
 .rw[h2]at e
  cases ok<;>simp[Instr.lookup,run_underlying underlying129,i,Fh,Hb,h1,e,K9,Bf]
 .rw[h2]at e
  cases ok<;>simp[Instr.lookup,run_underlying underlying129,i,Fh,Hb,h1,e,mkA,K9]
theorem Cg.block{T:List Tg}{m:Array MapEntry}(f:w.heap[b]?=some (.map m k))(r:g.t b=τ)(q:g.k b=0)(d:τ∈T)(o:Obj):Cg B T g w g (ChangeMaps.setBlock w b o) :=
 have c:∀ a,g.t a∉T->a≠b:=λa h e=>h (by rw[e,r];exact d)
 ⟨rfl,rfl,rfl,by simp[ChangeMaps.setBlock],λ_ _=>.inl rfl,λ_ _=>A' _,λ_ _ _ _=>rfl,λa _ h _=>ChangeMaps.heap_setBlock_other f o (c a h),
  λa _ j p=>World.cell?_of_block (w:=w) (ChangeMaps.heap_setBlock_other f o (λe=>by have i:a=b:=e;rw[i,q]at p;omega))⟩
theorem VU(c:List Ask)(v u:Cmd)(x:Bal)(k:Nat)(h:∀ y∈c,v≠y.1):Gd (c++[(v,x,k)]) u=if u=v then some x else Gd c u:=by
 unfold Gd;rw[oU];by_cases e:u=v
 .subst e;have a:c.find? (λy=>decide (u=y.1))=none:=by
   rw[oG];intro y b;simp[h y b]
  simp[a]
 .rw[if_neg e];simp[e]
theorem Y6(a d:List Ask)(v u:Cmd)(x y:Bal)(k:Nat)(h:∀ y∈a,v≠y.1):Gd (a++(v,y,k)::d) u=if u=v then some y else Gd (a++(v,x,k)::d) u:=by
 unfold Gd;rw[oU,oU,pR,pR];by_cases e:u=v
 .subst e;have b:a.find? (λy=>decide (u=y.1))=none:=by
   rw[oG];intro y c;simp[h y c]
  simp[b]
 .rw[if_neg e];simp[e]
theorem Y7(a d:List Ask)(v u:Cmd)(x:Bal)(k:Nat)(h:∀ y∈a,v≠y.1)(f:∀ y∈d,v≠y.1):Gd (a++d) u=if u=v then none else Gd (a++(v,x,k)::d) u:=by
 unfold Gd;rw[oU,oU,pR];by_cases e:u=v
 .subst e;have g:a.find? (λy=>decide (u=y.1))=none:=by
   rw[oG];intro y c;simp[h y c]
  have b:d.find? (λy=>decide (u=y.1))=none:=by
   rw[oG];intro y c;simp[f y c]
  simp[g,b]
 .rw[if_neg e];simp[e]
theorem cI(h:AskAt g w τ b f)(v:Cmd)(x:Bal):∃ w',(Instr.mapUpdate 129 (.map (some b)) (cmG v) (K9 x)).run prog w=.ok () w'/\AskAt g w' τ b (BW f v (some x))/\(∀ B T,τ∈T->Cg B T g w g w')/\w'.heap.size=w.heap.size:=by
 obtain⟨s,j,c,k,l,m,n,o,E⟩:=h;have F:(getObj b).run prog w=.ok (.map (c.map mkA).toArray k) w:=by simp[getObj,Sem.run,l]
 rcases KZ v c 0 with⟨h1,h2,h3⟩|⟨a,y,d,rfl,hy,h3,h1,h2⟩
 .have C:=MapKept.run_setObj_map (P:=prog) (w:=w) (.map ((c++[(v,x,k)]).map mkA).toArray (k+1)) l;refine⟨_,?_,⟨s,j,c++[(v,x,k)],k+1,ChangeMaps.heap_setBlock_same l (.map ((c++[(v,x,k)]).map mkA).toArray (k+1)),?_,?_,?_,?_⟩,λB T t=>Cg.block l s j t _,by simp[ChangeMaps.setBlock]⟩
  .have z:((c.map mkA).toArray.push { key:=cmG v,val:=K9 x,born:=k })=((c++[(v,x,k)]).map mkA).toArray:=by simp[mkA,cmG,K9,cmV]
   rw[Instr.mapUpdate];simp only[Sem.run_bind,run_underlying underlying129,Result.andThen_ok,F,Fh,Hb,h1,z,C];rfl
  .intro y hy;rcases P'.1 hy with hy|hy
   .have:=m y hy;omega
   .obtain rfl:y=(v,x,k):=by simpa using hy
    show k<k+1;omega
  .rw[nG,pA];refine⟨n,by simp,?_⟩;intro p A q r;obtain⟨y,hy,rfl⟩:=nw.1 A;obtain rfl:q=k:=by simpa using r
   have:=m y hy;omega
  .rw[nG,pA];refine⟨o,by simp,?_⟩;intro p A q r;obtain⟨y,hy,rfl⟩:=nw.1 A;obtain rfl:q=v:=by simpa using r
   exact λe=>h3 y hy e.symm
  .intro u;rw[show(List.find? (λx=>decide (u=x.1)) (c++[(v,x,k)])).map (·.2.1)=Gd (c++[(v,x,k)]) u from rfl,VU c v u x k h3];unfold BW;split
   .rfl
   .exact E u
 .obtain⟨yv,yb,yk⟩:=y;simp only at hy;subst hy;have C:=MapKept.run_setObj_map (P:=prog) (w:=w) (.map ((a++(yv,x,yk)::d).map mkA).toArray k) l;refine⟨_,?_,⟨s,j,a++(yv,x,yk)::d,k,ChangeMaps.heap_setBlock_same l (.map ((a++(yv,x,yk)::d).map mkA).toArray k),?_,?_,?_,?_⟩,λB T t=>Cg.block l s j t _,by simp[ChangeMaps.setBlock]⟩
  .have hx:((a++(yv,yb,yk)::d).map mkA).toArray[a.length]?=some (mkA (yv,yb,yk)):=by simp
   have z:(((a++(yv,yb,yk)::d).map mkA).toArray.modify a.length λe=>{ e with key:=cmG yv,val:=K9 x })=((a++(yv,x,yk)::d).map mkA).toArray:=by
    apply oX;intro i;rw[pS];split
    .rename_i hi
     subst hi;simp[mkA,cmG,K9,cmV]
    .rename_i hi
     simp only[nV,nG,nO];rcases nU i a.length with g|g
     .rw[nk (by simpa using g),nk (by simpa using g)]
     .rw[nr (by simpa using g),nr (by simpa using g)];obtain⟨q,r⟩:∃ q,i-(a.map mkA).length=q+1:=⟨i-a.length-1,by simp;omega⟩;rw[r];rfl
   have D:=aT yv w;rw[Instr.mapUpdate];simp only[Sem.run_bind,run_underlying underlying129,Result.andThen_ok,F,Fh,Hb,h1,nM,hx,nW,qQ];rw[UQ,D,Result.andThen_ok,z,C];rfl
  .intro y hy;rcases P'.1 hy with hy|hy
   .exact m y (mV _ hy)
   .rcases mZ.1 hy with rfl|hy
    .exact m (yv,yb,yk) (by simp)
    .exact m y (mU _ (I' _ hy))
  .simpa using n
  .simpa using o
  .intro u;rw[show(List.find? (λx=>decide (u=x.1)) (a++(yv,x,yk)::d)).map (·.2.1)=Gd (a++(yv,x,yk)::d) u from rfl,Y6 a d yv u yb x yk h3];unfold BW;split
   .rfl
   .exact E u
theorem cH(h:AskAt g w τ b f)(v:Cmd)(A:TypeId):∃ w',(Builtin.delete_ #[129,24] A #[.map (some b),cmG v]).run prog w=.ok (.tuple #[]) w'/\AskAt g w' τ b (BW f v none)/\(∀ B T,τ∈T->Cg B T g w g w')/\w'.heap.size=w.heap.size:=by
 obtain⟨n,j,c,k,l,p,m,i,s⟩:=h;have t:(getObj b).run prog w=.ok (.map (c.map mkA).toArray k) w:=by simp[getObj,Sem.run,l]
 rcases KZ v c 0 with⟨h1,h2,h3⟩|⟨a,y,d,rfl,hy,h3,h1,h2⟩
 .have q:=MapKept.run_setObj_map (P:=prog) (w:=w) (.map (c.map mkA).toArray k) l;refine⟨_,?_,⟨n,j,c,k,ChangeMaps.heap_setBlock_same l (.map (c.map mkA).toArray k),p,m,i,?_⟩,λB T o=>Cg.block l n j o _,by simp[ChangeMaps.setBlock]⟩
  .simp[Builtin.delete_,run_underlying underlying129,t,Fh,Hb,h1,q];rfl
  .intro u;unfold BW;split
   .rename_i e;rw[e];exact h2.symm
   .exact s u
 .obtain⟨yv,yb,yk⟩:=y;simp only at hy;subst hy;have q:=MapKept.run_setObj_map (P:=prog) (w:=w) (.map ((a++d).map mkA).toArray k) l;have z:∀ y∈d,yv≠y.1:=by
   intro y hy e;rw[nG,nO,pA]at i
   exact(pB.1 i.2.1).1 (nw.2 ⟨y,hy,e.symm⟩)
  refine⟨_,?_,⟨n,j,a++d,k,ChangeMaps.heap_setBlock_same l (.map ((a++d).map mkA).toArray k),?_,?_,?_,?_⟩,λB T o=>Cg.block l n j o _,by simp[ChangeMaps.setBlock]⟩
  .have he:(((a++(yv,yb,yk)::d).map mkA).toArray.eraseIdxIfInBounds a.length)=((a++d).map mkA).toArray:=by
    rw[Array.eraseIdxIfInBounds,dif_pos (by simp)];simp[List.eraseIdx_append_of_length_le]
   have r:=Hb yv w (a++(yv,yb,yk)::d);rw[h1,nM]at r
   simp only[Builtin.delete_,nV,oE,qg,Sem.run_bind,run_underlying underlying129,Result.andThen_ok,t,Fh,r,he,q];rfl
  .intro y hy;rcases P'.1 hy with hy|hy
   .exact p y (mV _ hy)
   .exact p y (mU _ (I' _ hy))
  .rw[nG,nO]at m
   rw[nG];exact m.sublist (List.Sublist.append_left (List.sublist_cons_self _ _) _)
  .rw[nG,nO]at i
   rw[nG];exact i.sublist (List.Sublist.append_left (List.sublist_cons_self _ _) _)
  .intro u;rw[show(List.find? (λx=>decide (u=x.1)) (a++d)).map (·.2.1)=Gd (a++d) u from rfl,Y7 a d yv u yb yk h3 z];unfold BW;split
   .rfl
   .exact s u
end
section
variable{fn:Func}{R:Ending->World->Prop}{B:Nat}{T:List Tg}{g:Gh}{w:World}
section
variable{b:Nat}{f:Cmd->Option Bal}{g:Gh}{s:Xs}{w:World}{τ:Tg}
theorem ao(h:AskAt g w τ b f)(v:Cmd):(Instr.lookup 129 (.map (some b)) (cmG v) true).run prog w=.ok (.tuple #[K9 ((f v).getD Bf),.bool (f v).isSome]) w:=gp h v true
theorem ji(h:AskAt g w τ b f)(v:Cmd):(Instr.lookup 129 (.map (some b)) (cmG v) false).run prog w=.ok (K9 ((f v).getD Bf)) w:=gp h v false
theorem UE(c:Nat){τ:Tg}{b:Nat}{f:Cmd->Option Bal}(v:Cmd)(x:Bal)(h:AskAt g w τ b f)(a:Ds s c=some (Instr.mapUpdate 129 (.map (some b)) (cmG v) (K9 x)>>=λ_=>pure .skip))(d:(nxt s c undef s.L).o.map Ob.l'=(nxt s c undef s.L).o.map Ob.r')(r:s.L.all (λy=>[τ].all λt=>y.t.ne t)=true)(u:∀ w',AskAt g w' τ b (BW f v (some x))->(∀ B T,τ∈T->Cg B T g w g w')->GG prog fn R B T (nxt s c undef s.L).s g w'):GG prog fn R B T s g w:=by
 refine KE c s.L d (BU a) λk C i o e=>?_;obtain⟨w',A,p,j,q⟩:=cI h v x;refine⟨undef,w',g,.inr ⟨?_,rfl⟩,k.ch (j _ [τ] (D'.2 rfl)) (λb m=>k.new b (by rw[q]at m;exact m)) r,u w' p j⟩;rw[D1 a e,Sem.run_bind,A,Result.andThen_ok];rfl
theorem dq(c:Nat){τ:Tg}{b:Nat}{f:Cmd->Option Bal}(v:Cmd)(p:TypeId)(h:AskAt g w τ b f)(a:Ds s c=some (Builtin.delete_ #[129,24] p #[.map (some b),cmG v]>>=λv=>pure (.value v)))(d:(nxt s c undef s.L).o.map Ob.l'=(nxt s c undef s.L).o.map Ob.r')(u:s.L.all (λy=>[τ].all λt=>y.t.ne t)=true)(x:∀ w',AskAt g w' τ b (BW f v none)->(∀ B T,τ∈T->Cg B T g w g w')->GG prog fn R B T (nxt s c (.tuple #[]) s.L).s g w'):GG prog fn R B T s g w:=by
 refine KE c s.L d (BU a) λk C i o e=>?_;obtain⟨w',A,q,j,r⟩:=cH h v p;refine⟨.tuple #[],w',g,.inl ?_,k.ch (j _ [τ] (D'.2 rfl)) (λb m=>k.new b (by rw[r]at m;exact m)) u,x w' q j⟩;rw[D1 a e,Sem.run_bind,A,Result.andThen_ok];rfl
end
end
section
def tkG:Nat->FuncId
 | 0=>81
 | 1=>82
 | 2=>83
 | 3=>84
 | 4=>85
 | 5=>86
 | _=>87
def tkV(k:Nat):Value:=.func (.func (tkG k)) #[] #[]
def tkL(j:Nat):List MapEntry:=(List.range j).map λ(k:Nat)=>{ key:=iv (k:Int),val:=tkV k,born:=k }
structure TkAt(g:Gh)(w:World)(b j:Nat):Prop where
 t:g.t b=.n 70 0
 k:g.k b=0
 row:w.heap[b]?=some (.map (tkL j).toArray j)
variable{b j k:Nat}{g:Gh}{w:World}
theorem TkAt.ch{B:Nat}{T:List Tg}{d:Gh}{e:World}(h:TkAt g w b j)(c:Cg B T g w d e)(hn:Tg.n 70 0∉T:=by simp):TkAt d e b j :=
 have a:=c.rc h.row h.t hn
 ⟨a.2.1,a.2.2.trans h.k,a.1⟩
theorem aM(h:k<7):k=0\/k=1\/k=2\/k=3\/k=4\/k=5\/k=6:=by omega
theorem RF(a:Bool)(k:Nat)(w:World):(Instr.checkKey a 10000 168 (iv (k:Int))).run prog w=.ok () w:=by kernel_rfl
theorem fA(h:j<7)(w:World):(Instr.findKey 168 (iv (j:Int)) (tkL j)).run prog w=.ok none w:=by
 rcases aM h with rfl|rfl|rfl|rfl|rfl|rfl|rfl<;>kernel_rfl
theorem fy(h:j<7)(w:World):(Instr.findKey 168 (iv (j:Int)) (tkL 7)).run prog w=.ok (some (j,tkV j)) w:=by
 rcases aM h with rfl|rfl|rfl|rfl|rfl|rfl|rfl<;>kernel_rfl
theorem j8(h:TkAt g w b j)(e:j<7):∃ w',(Instr.mapUpdate 114 (.map (some b)) (iv (j:Int)) (tkV j)).run prog w=.ok () w'/\TkAt g w' b (j+1)/\(∀ B T,Tg.n 70 0∈T->Cg B T g w g w')/\w'.heap.size=w.heap.size:=by
 have d:(getObj b).run prog w=.ok (.map (tkL j).toArray j) w:=by simp[getObj,Sem.run,h.row]
 have f:=MapKept.run_setObj_map (P:=prog) (w:=w) (.map (tkL (j+1)).toArray (j+1)) h.row;have c:((tkL j).toArray.push { key:=iv (j:Int),val:=tkV j,born:=j })=(tkL (j+1)).toArray:=by simp[tkL,List.range_succ]
 refine⟨_,?_,⟨h.t,h.k,ChangeMaps.heap_setBlock_same h.row (.map (tkL (j+1)).toArray (j+1))⟩,λB T a=>Cg.block h.row h.t h.k a _,by simp[ChangeMaps.setBlock]⟩;rw[Instr.mapUpdate];simp only[Sem.run_bind,run_underlying underlying114,Result.andThen_ok,d,RF,fA e,c,f];rfl
theorem rTk(a:w.heap[b]?=some (.map (tkL 7).toArray 7))(d:k<7):(Instr.lookup 114 (.map (some b)) (iv (k:Int)) false).run prog w=.ok (tkV k) w:=by
 have c:(getObj b).run prog w=.ok (.map (tkL 7).toArray 7) w:=by simp[getObj,Sem.run,a]
 simp[Instr.lookup,run_underlying underlying114,c,RF,fy d]
end
section
variable{fn:Func}{R:Ending->World->Prop}{B:Nat}{T:List Tg}{g:Gh}{w:World}
theorem kx{s:Xs}(d:Nat)(c:Ds s d=some (Instr.makeMap 114 none>>=λv=>pure (.value v)))
  (e:(nxt s d undef s.L).o.map Ob.l'=(nxt s d undef s.L).o.map Ob.r')
  (p:∀ b g' w',w.heap.size<=b->TkAt g' w' b 0->(∀ B T,Cg B T g w g' w')->(∀ b,w'.heap.size<=b->g'.t b=.z/\g'.k b=0)->GG prog fn R B T (nxt s d (.map (some b)) s.L).s g' w'):GG prog fn R B T s g w:=by
 refine KE d s.L e (BU c) λl r j o f=>?_;have q:(Instr.makeMap 114 none).run prog w=.ok (.map (some w.heap.size)) (w.alloc (.map #[] 0)):=by
  simp[Instr.makeMap,go_sem]
 have h:∀ B T,Cg B T g w (Pm g w (.n 70 0) 0) (w.alloc (.map #[] 0)):=λB T =>
  ⟨rfl,rfl,rfl,by simp,λb a=>.inl (if_neg (by omega)),λb a=>by show _<=(if b=w.heap.size then _ else g.k b);rw[if_neg (by omega)];exact A' _,λb a _ _=>if_neg (by omega),λb a _ _=>heap_alloc_old w _ a,λb a j u=>World.cell?_of_block (w:=w) (heap_alloc_old w _ a)⟩
 have i:∀ b,(w.alloc (.map #[] 0)).heap.size<=b->(Pm g w (.n 70 0) 0).t b=.z/\(Pm g w (.n 70 0) 0).k b=0:=λb a=>by
  have m:w.heap.size+1<=b:=by simpa using a
  show(if b=w.heap.size then _ else g.t b)=.z/\(if b=w.heap.size then _ else g.k b)=0;rw[if_neg (by omega),if_neg (by omega)];exact l.new b (by omega)
 refine⟨.map (some w.heap.size),_,Pm g w (.n 70 0) 0,.inl ?_,l.ch (h _ []) i (by simp),p _ _ _ (A' _) ⟨if_pos rfl,if_pos rfl,heap_alloc_new _ _⟩ h i⟩;rw[D1 c f,Sem.run_bind,q,Result.andThen_ok];rfl
theorem Ie{s:Xs}(c:Nat){b j:Nat}(h:TkAt g w b j)(u:j<7)(a:Ds s c=some (Instr.mapUpdate 114 (.map (some b)) (iv (j:Int)) (tkV j)>>=λ_=>pure .skip))
  (d:(nxt s c undef s.L).o.map Ob.l'=(nxt s c undef s.L).o.map Ob.r')(r:s.L.all (λy=>[Tg.n 70 0].all λt=>y.t.ne t)=true)
  (v:∀ w',TkAt g w' b (j+1)->(∀ B T,Tg.n 70 0∈T->Cg B T g w g w')->GG prog fn R B T (nxt s c undef s.L).s g w'):GG prog fn R B T s g w:=by
 refine KE c s.L d (BU a) λk A i o e=>?_;obtain⟨w',x,p,f,q⟩:=j8 h u;refine⟨undef,w',g,.inr ⟨?_,rfl⟩,k.ch (f _ [Tg.n 70 0] (D'.2 rfl)) (λb m=>k.new b (by rw[q]at m;exact m)) r,v w' p f⟩;rw[D1 a e,Sem.run_bind,x,Result.andThen_ok];rfl
end
def TM:List Tg:=[0,1,2,3,4].flatMap TN
theorem F4:Tg.z∉TM:=by simp[TM,TN]
theorem jN{i:Nat}(a:i<5):∀ t∈TN i,t∈TM:=λt b=>pW.2 ⟨i,by rcases se a with rfl|rfl|rfl|rfl|rfl<;>simp,b⟩
theorem jO{i j r:Nat}(h:j≠i)(a:r<6):Tg.n r j∉TN i:=by simp[TN];omega
def mtA(nb:Nat->Nat)(ob tb:Nat):Array Value:=#[pt (nb 0) 0,pt (nb 1) 0,pt (nb 2) 0,pt (nb 3) 0,pt (nb 4) 0,pt ob 0,.map (some tb)]
structure MS(mb tb ob:Nat)(nb:Nat->Nat)(g:Gh)(w:World)(M:Meet):Prop where
 box:Box g w mb (mtA nb ob tb) 119
 tk:TkAt g w tb 7
 ab:∀ i,i<5->∃ x,NodeAt g w i (nb i) ob x (M.ab i)
 out:∃ lt tl,OutAt g w ob lt tl M.br M.ed
 new:Jr g w
def MP(mb tb ob:Nat)(nb:Nat->Nat)(g:Gh)(w:World)(v:Value)(M:Meet):Ending->World->Prop:=λe w'=>∃ g',e=.returned v/\MS mb tb ob nb g' w' M/\Cg w.heap.size TM g w g' w'
section
variable{mb tb ob i:Nat}{nb:Nat->Nat}{g g':Gh}{w w':World}{M:Meet}
theorem MS.ns(h:MS mb tb ob nb g w M)(a:i<5):NS i (nb i) ob g w (M.ab i) M.br M.ed :=
 let ⟨x,hx⟩:=h.ab i a
 let ⟨lt,tl,ho⟩:=h.out
 ⟨x,lt,tl,hx,ho,h.new⟩
theorem MS.sr{B:Nat}(h:MS mb tb ob nb g w M)(c:Cg B [] g w g' w')(b:Jr g' w'):MS mb tb ob nb g' w' M :=
 ⟨h.box.ch c,h.tk.ch c,λi a=>let ⟨x,hx⟩:=h.ab i a;⟨x,hx.ch c⟩,let ⟨lt,tl,ho⟩:=h.out;⟨lt,tl,ho.ch c⟩,b⟩
theorem MS.of{B:Nat}(h:MS mb tb ob nb g w M)(q:i<5){p:Nod}{a:List Let}{b:List Tol}(m:NS i (nb i) ob g' w' p a b)(c:Cg B (TN i) g w g' w'):MS mb tb ob nb g' w' ⟨upN M.ab i p,a,b⟩:=by
 obtain⟨x,lt,o,d,f,k⟩:=m;refine⟨h.box.ch c (Bx i),h.tk.ch c (by simp[TN]),λj l=>?_,⟨lt,o,f⟩,k⟩;by_cases e:j=i
 .subst e;exact⟨x,by show NodeAt g' w' j (nb j) ob x (upN M.ab j p j);rw[Dd];exact d⟩
 .obtain⟨y,hy⟩:=h.ab j l;exact⟨y,by show NodeAt g' w' j (nb j) ob y (upN M.ab i p j);rw[D2 _ _ e];exact hy.ch c (Bx i) λr n=>jO e n⟩
theorem MS.call(h:MS mb tb ob nb g w M)(b:i<5){f:FuncId}{a:Array Value}{v:Value}{p:Nod}{d:List Let}{j:List Tol}(l:Calls prog f a w (NP i (nb i) ob g w v p d j)):Calls prog f a w (MP mb tb ob nb g w v ⟨upN M.ab i p,d,j⟩) :=
 l.mono λe o ⟨k,m,n,c⟩=>⟨k,m,h.of b n c,c.mono (jN b)⟩
theorem UR{W:World}(b:W.heap[mb]?=some (.cells (mtA nb ob tb) 119)){j:Nat}(a:j<5):W.cell? ⟨mb,j,none⟩=some (pt (nb j) 0):=by
 rcases se a with rfl|rfl|rfl|rfl|rfl<;>(rw[cell_of_row _ _ _ _ _ _ b];rfl)
end
section
variable{P:Program}{fn:Func}{R:Ending->World->Prop}{B:Nat}{T:List Tg}{g:Gh}{w:World}
theorem gd{s:Xs}(k n:Nat)(a:List (Nat × Value))(m:List Bool)(i:List Sh)(o:ST s.K=true)(q:s.f.n=n)(y:a.map (λp=>lk s.f.z s.f.e p.1)=a.map (·.2))(u:BN (AK m s.L)=i)
  (h:∀ J:Nat->Act->World->Prop,(∀ (m:Nat) (e:List (Nat × Value)) (z:Nat->Value) (L:List Sh) (g:Gh) (w:World),GG P fn R B T (eS s n (J m) e z L) g w->Kn B g w L->J (m+1) (⟨n,e,z⟩:Fm).act w)->∀ z,GG P fn R B T (eS s n (J k) a z i) g w):GG P fn R B T s g w:=by
 refine gFm a y λz=>?_;obtain⟨K,f,L⟩:=s;simp only at q;subst q;have j:BN (AK m L)=i:=u;have v:GG P fn R B T ⟨K,⟨f.n,a,z⟩,BN (AK m L)⟩ g w->GG P fn R B T ⟨K,⟨f.n,a,z⟩,L⟩ g w:=λh=>⟨λd=>h.ex (d.sub (DC m L)).uc⟩;refine v ?_;rw[j];cases K with
 | nil=>cases o
 | cons t K =>
  cases t with
  | c x =>
   cases x with
   | loop b =>
    refine⟨λd=>?_⟩;exact wp_loop_rounds (k+1) ((h (Code.rounds P b (Kq P (bodyPost P fn R) K)) (λm e z L g w r d=>r.ex d) z).ex d)
   | _=>cases o
  | _=>cases o
end
section
variable{fn:Func}{R:Ending->World->Prop}{B:Nat}{T:List Tg}{g:Gh}{w:World}
theorem i5{s:Xs}(d:Nat)(r i:Nat)(c:Ds s d=some (Instr.makeMap 129 none>>=λv=>pure (.value v)))
  (e:(nxt s d undef s.L).o.map Ob.l'=(nxt s d undef s.L).o.map Ob.r')
  (q:∀ b g' w',w.heap.size<=b->AskAt g' w' (.n r i) b (λ_=>none)->(∀ B T,Cg B T g w g' w')->(∀ b,w'.heap.size<=b->g'.t b=.z/\g'.k b=0)->GG prog fn R B T (nxt s d (.map (some b)) s.L).s g' w'):GG prog fn R B T s g w:=by
 refine KE d s.L e (BU c) λm A j o f=>?_;have u:(Instr.makeMap 129 none).run prog w=.ok (.map (some w.heap.size)) (w.alloc (.map #[] 0)):=by
  simp[Instr.makeMap,go_sem]
 have h:∀ B T,Cg B T g w (Pm g w (.n r i) 0) (w.alloc (.map #[] 0)):=λB T =>
  ⟨rfl,rfl,rfl,by simp,λb a=>.inl (if_neg (by omega)),λb a=>by show _<=(if b=w.heap.size then _ else g.k b);rw[if_neg (by omega)];exact A' _,λb a _ _=>if_neg (by omega),λb a _ _=>heap_alloc_old w _ a,λb a j C=>World.cell?_of_block (w:=w) (heap_alloc_old w _ a)⟩
 have l:∀ b,(w.alloc (.map #[] 0)).heap.size<=b->(Pm g w (.n r i) 0).t b=.z/\(Pm g w (.n r i) 0).k b=0:=λb a=>by
  have p:w.heap.size+1<=b:=by simpa using a
  show(if b=w.heap.size then _ else g.t b)=.z/\(if b=w.heap.size then _ else g.k b)=0;rw[if_neg (by omega),if_neg (by omega)];exact m.new b (by omega)
 refine⟨.map (some w.heap.size),_,Pm g w (.n r i) 0,.inl ?_,m.ch (h _ []) l (by simp),q _ _ _ (A' _) ⟨if_pos rfl,if_pos rfl,[],0,heap_alloc_new _ _,λx y=>absurd y Q',oV,oV,λ_=>rfl⟩ h l⟩;rw[D1 c f,Sem.run_bind,u,Result.andThen_ok];rfl
end
section
def kO(a:Acc)(y:S3)(b:Nat):Array Value:=((AJ 0 0 (CY.bare true [] 0 a []) (NX.mk s30 y s30 s30 s30 s30 (λ_=>s30) (some b))).toList.drop 6).toArray
variable{d:List Int}{g:Gh}{i nb ob:Nat}{l:List Vt}{ls:List Let}{p:Nod}{s:Int}{ts:List Tol}{v:Vt}{w:World}{x:S3}
theorem Bg(i:Nat)(o:∀ b,w.heap.size<=b->g.t b=.z/\g.k b=0)(a:Acc)(y:S3) :
  Calls prog 54 #[.agg #[iv a.p.r,iv a.p.n,S3.v y]] w λe w'=>∃ (b:Nat) (g':Gh),e=.returned (.agg (kO a y b))/\AskAt g' w' (.n 5 i) b (λ_=>none)/\(∀ b,w'.heap.size<=b->g'.t b=.z/\g'.k b=0)/\Cg w.heap.size [] g w g' w':=by
 refine gI (fn:=f54) [] g func54 o (qR [] 8 [0,0,1,0,0] λs u C l=>i5 1 5 i (by kernel_rfl) (by kernel_rfl) ?_);intro h x D q j c B;have m:=c w.heap.size [];refine qR [] 3 [1,0] λs3 A E d=>qE1 2 131 1 (s 1) (kO a y h) λK=>⟨h,_,rfl,(j.ch d),K.new,((l.trans m).trans d)⟩
theorem YB(s:Int){n:Nat}{w:World}(h:Sl w x.v d)(a:n<=d.length){N:Int}(b:(n:Int)=N) :
  Calls prog 146 #[.agg #[x.v,iv s],iv N] w λe w'=>∃ y:S3,e=.returned (.agg #[y.v,iv N])/\Sl w' y.v (d.take n)/\Nb w.heap.size y (d.take n)/\Bw w w':=by
 subst b;refine(Ke x.v d s n w h a).mono ?_;rintro e w' ⟨y,rfl,f,c⟩;obtain⟨y,rfl,i,g⟩:=JE (l:=d.take n) (by rw[j',oC a];exact f) (by rw[j'];have:=h.len;omega) (λz j=>h.byte z (nm j));exact⟨y,rfl,i,g,c⟩
theorem Zv(s:Int){w:World}(h:Sl w x.v d){t:Bool}(a:decide (AV d s)=t) :
  Calls prog 145 #[.agg #[x.v,iv s]] w λe w'=>e=.returned (.bool t)/\Bw w w':=by
 subst a;exact Mc x.v d s w h
theorem fs(h:Sl w x.v d) :
  Calls prog 144 #[.agg #[x.v,iv s]] w λe w'=>∃ y:S3,e=.returned (.tuple #[.agg #[y.v,iv (Io d s)],iv (Db d s)])/\Sl w' y.v (Hq d s)/\Nb w.heap.size y (Hq d s)/\Bw w w':=by
 refine kIn func144 (kR 10 [0,0,1,0,0] λb H g=>?_);obtain⟨t,j⟩:∃ t,decide (AV d s)=t:=⟨_,rfl⟩;refine kC 1 (Zv s (h.af g) j) ?_;rintro _ I ⟨rfl,i⟩;refine⟨_,rfl,i,?_⟩;refine kR 2 [] λC J k=>?_;by_cases a:AV d s
 .refine kI ((!t)) false (by rw[<- j,O' a];rfl) ?_;rw[show Db d s=0 from if_pos a,show Hq d s=d from if_pos a,show Io d s=(d.length:Int)from if_pos a];have m:=FT h;have A:d.take d.length=d:=ou;refine kR 7 [0,0] λD L r=>?_;have f:=(btr (btr (btr g i) k) r);refine kC 4 (YB s (n:=d.length) (N:=(x.n:Int)) (h.af f) (A' _) (by rw[m])) ?_;rintro _ M ⟨y,rfl,p,o,l⟩;refine⟨_,rfl,l,?_⟩;rw[A]at p o
  rw[<- m];refine kF 3 [1,0] λE O u B=>?_;have q:=((btr f l).trans u);exact qE2 2 3 134 1 (b 1) #[S3.v y,iv (x.n:Int)] (iv 0) λK=>⟨y,rfl,(p.kept B),o.mono f.size,q⟩
 .refine kI ((!t)) true (by rw[<- j,H' a];rfl) ?_;rw[show Db d s=5 from if_neg a,show Hq d s=[]from if_neg a,show Io d s=0 from if_neg a];refine kF 6 [1,0] λF P z G=>?_;have c:=((btr (btr g i) k).trans z);exact qE2 2 3 134 1 (b 1) #[S3.v s30,iv 0] (iv 5) λK=>⟨s30,rfl,NJ _,λh=>absurd rfl h,c⟩
theorem Ye{k:Int}(h:Sl w x.v d)(L:-9223372036854775808<=k)(M:k<=9223372036854775807) :
  Calls prog 104 #[.agg #[x.v,iv s],iv k] w λe w'=>∃ y:S3,e=.returned (.tuple #[.agg #[y.v,iv (KB d s k)],iv (Gt d s k)])/\Sl w' y.v (KA d s k)/\Nb w.heap.size y (KA d s k)/\Bw w w':=by
 refine kIn func104 (kR 10 [0,0,1,0,0] λf w1 j=>?_);obtain⟨t,A⟩:∃ t,decide (AV d s)=t:=⟨_,rfl⟩;refine kC 1 (Zv s (h.af j) A) ?_;rintro _ w2 ⟨rfl,l⟩;refine⟨_,rfl,l,?_⟩;refine kR 2 [] λT w3 u=>?_;by_cases c:AV d s
 .refine kI ((!t)) false (by rw[<- A,O' c];rfl) (kR 7 [] λU w4 C=>?_);by_cases m:k<0
  .refine kI ((decide (k<0))) true (O' m) ?_;have a:Gt d s k=2:=(if_neg (λg=>g c)).trans (if_pos m);rw[show KA d s k=[]from if_neg (by rw[a];decide),show KB d s k=0 from if_neg (by rw[a];decide),a];refine kF 6 [1,0] λV w5 H q5=>?_;have G:=((btr (btr (btr j l) u) C).trans H);exact qE2 4 5 134 1 (f 1) #[S3.v s30,iv 0] (iv 2) λK=>⟨s30,rfl,NJ _,λh=>absurd rfl h,G⟩
  .refine kI ((decide (k<0))) false (H' m) ?_;have a:Gt d s k=0:=(if_neg (λg=>g c)).trans (if_neg m);rw[show KA d s k=d.take (Gu d s k).toNat from if_pos a,show KB d s k=Gu d s k from if_pos a,a];have Z:=FT h;have Y:=h.len;have X:0<=s/\s<=(d.length:Int):=⟨c.2.1,c.2.2⟩;obtain⟨n,D⟩:∃ n:Nat,(n:Int)=s+min k ((x.n:Int)-s):=⟨(s+min k ((x.n:Int)-s)).toNat,by omega⟩;have J:Gu d s k=(n:Int):=by unfold Gu;split<;>omega
   have z:n<=d.length:=by omega
   rw[J,nE,D];refine kR 12 [0,0,0,0] λW w7 I=>kV 9 (iv ((x.n:Int)-s)) (aq (x:=(.tmp 19)) (y:=(.tmp 21)) (x.n:Int) s underlying3 (by omega)) (kV 10 (iv (min k ((x.n:Int)-s))) (jj #[3,3] 3 k ((x.n:Int)-s)) (kV 11 (iv (s+min k ((x.n:Int)-s))) (JG (x:=(.tmp 15)) (y:=(.tmp 23)) s (min k ((x.n:Int)-s)) underlying3 (by omega)) ?_));have b:=(btr (btr (btr (btr j l) u) C) I);refine kC 12 (YB s (n:=n) (h.af b) z D) ?_;rintro _ Q ⟨y,rfl,O,N,i⟩;refine⟨_,rfl,i,?_⟩;refine kF 3 [1,0] λE R q B=>?_;have o:=((btr b i).trans q);exact qE2 4 5 134 1 (f 1) #[S3.v y,iv (s+min k ((x.n:Int)-s))] (iv 0) λK=>⟨y,rfl,(O.kept B),N.mono b.size,o⟩
 .refine kI ((!t)) true (by rw[<- A,H' c];rfl) ?_;have a:Gt d s k=5:=if_pos c;rw[show KA d s k=[]from if_neg (by rw[a];decide),show KB d s k=0 from if_neg (by rw[a];decide),a];refine kF 6 [1,0] λF S r P=>?_;have p:=((btr (btr j l) u).trans r);exact qE2 4 5 134 1 (f 1) #[S3.v s30,iv 0] (iv 5) λK=>⟨s30,rfl,NJ _,λh=>absurd rfl h,p⟩
theorem Pends.nil(g:Gh)(w:World)(nb:Nat):Pends g w nb [] []:=⟨rfl,λk v q h=>by cases h⟩
theorem Yf(h:NS i nb ob g w p ls ts)(k:Int)(G:-9223372036854775808<=k)(H:k<=9223372036854775807) :
  Calls prog 60 #[pt nb 0,iv k] w (NP i nb ob g w (.tuple #[]) (if p.up then p.lp k else p) ls ts):=by
 obtain⟨x,lt,P,u,y,Z⟩:=h;refine gI (fn:=f60) (TN i) g func60 Z (qN u (qO y (qR [] 9 [0] λs1 g1 w1 b=>?_)));by_cases q:p.up=true
 .refine qI ((!p.up)) false (by simpa using q) ?_;rw[if_pos q];refine qR [] 8 [0] λs2 O w2 c=>Af λKq=>?_;have X:=(u.tape.ch (b.trans c)).s;have W:∀ z,w2.heap.size<=z->O.t z=.z:=λz hz=>(Kq.new z hz).1;refine qC 5 (Ye (s:=p.sy) (k:=k) X G H) ?_;rintro e' w3 ⟨A,rfl,m,I,N⟩;refine⟨_,rfl,N,?_⟩;have o:=Cg.eb (B:=w.heap.size) (T:=[]) (g:=O) N;have a0:=FT m;have M:FSl _ _ A _:=⟨m,λhl a Y=>W _ (I hl a Y)⟩;refine qR [] 13 [0,0,2,0] λs4 g4 w4 j=>?_;by_cases r:Gt p.d p.sy k≠0
  .refine qI (((Gt p.d p.sy k) != 0)) true (by simpa using r) (qE (.tuple #[]) λK=>?_);rw[show p.lp k=p from if_pos r];exact⟨_,rfl,(nsC u y (((b.n c).n o).n j) K),((((b.nil (TN i)).n c).n o).n j)⟩
  .refine qI (((Gt p.d p.sy k) != 0)) false (by simpa using r) (qR [] 8 [7,0,2,4,8,10,12] λs7 V w7 E=>Ea 33 (λR w' e L=>e=[(0,pt nb 0)]/\L=[⟨nb,.cells (AJ i ob (p.bare false (KA p.d p.sy k) (KB p.d p.sy k) Em []) (NX.mk A s30 s30 s30 s30 s30 (λ_=>s30) none)) 136,.n 0 i,false⟩,⟨ob,.cells #[S3.v lt,S3.v P] 113,.n 50 0,false⟩,⟨(s4 0),.cells #[S3.v A,iv (KB p.d p.sy k)] 134,.z,false⟩]/\True/\Cg w.heap.size ([.n 0 i]:List Tg) V w7 R w') (by kernel_rfl) ?_ ?_)
   .intro J hJ
    (exact DT 3 7 (by kernel_rfl) (by(refine qR [.n 0 i] 9 [2,15,0,1,16,18,21,0,1,22,24,27,0,1] λa1 S a3 C=>?_;exact qB [true,true,true] λz Q K=>hJ _ _ _ z _ ⟨rfl,rfl,trivial,C⟩ K)) (by(refine qR [.n 0 i] 9 [0,1,7,2,16,18,21,0,1,22,24,27,0,1] λa2 U a4 D=>?_;exact qB [true,true,true] λz Q K=>hJ _ _ _ z _ ⟨rfl,rfl,trivial,D⟩ K)))
   rintro g8 w8 _ z8 _ ⟨rfl,rfl,_,F⟩;refine qE (.tuple #[]) λK=>?_;rw[show p.lp k=(p.bare false (KA p.d p.sy k) (KB p.d p.sy k) Em [])from if_neg r];exact⟨_,rfl,⟨(NX.mk A s30 s30 s30 s30 s30 (λ_=>s30) none),lt,P,K.nd 0 (((M.ch j).ch E).ch F) ⟨Sv.nil _,λh=>absurd rfl h⟩ (λ_ _=>⟨Sv.nil _,λh=>absurd rfl h⟩) ⟨[],OwnS.nil _ _ _ _ _ _,Pends.nil _ _ _⟩ (OwnS.nil _ _ _ _ _ _) (OwnS.nil _ _ _ _ _ _) (OwnS.nil _ _ _ _ _ _) rfl (λh=>by cases h),y.ch ((((((b.nil ([.n 0 i]:List Tg)).n c).n o).n j).n E).trans (F)) (hn:=by simp<;>omega),K.new⟩,((((((b.nil (TN i)).n c).n o).n j).n E).trans (F.mono (by simp[TN])))⟩
 .refine qI ((!p.up)) true (by simpa using q) (qE (.tuple #[]) λK=>?_);rw[if_neg q];exact⟨_,rfl,(nsC u y b K),(b.nil (TN i))⟩
theorem FI(h:NS i nb ob g w p ls ts){w0:World}(hB:Base w0 g w)(hT:Tabs w0)(b:Bal) :
  Calls prog 92 #[pt nb 0,.agg #[iv b.r,iv b.n]] w λe w'=>∃ (y:S3) (g':Gh),e=.returned (.tuple #[y.v,iv (p.au b).2.2])/\FSv g' w' y (p.au b).2.1/\NS i nb ob g' w' (p.au b).1 ls ts/\Cg w.heap.size (TN i) g w g' w':=by
 obtain⟨x,lt,tl,k,U,hg⟩:=h;have hA:p.vo=⟨p.vo.p,p.vo.vs⟩:=rfl;refine gI (fn:=f92) (TN i) g func92 hg (qN k (qO U (qR [] 14 [0,0,15,0,2,4,6,8,0,10,2] λs1 g1 w1 c1=>Ea 55 (λg' w' e L=>∃ (ys zs:S3) (bA:Nat),e=[(0,pt nb 0),(3,pt (s1 0) 0),(6,pt bA 0),(7,S3.v zs),(8,iv (Cn p.vo b))]/\L=[⟨nb,.cells (AJ i ob p x) 136,.n 0 i,false⟩,⟨ob,.cells #[S3.v lt,S3.v tl] 113,.n 50 0,false⟩,⟨(s1 0),.cells #[iv b.r,iv b.n] 121,.z,false⟩,⟨bA,.cells #[iv (Fs p.vo b).r,iv (Fs p.vo b).n,S3.v ys] 124,.l,false⟩]/\FSv g' w' ys (DW p.vo b)/\FSv g' w' zs (DW p.vo b)/\Cg w.heap.size [] g w g' w') (by kernel_rfl) ?_ ?_)))
 .intro J hJ;refine DT 6 11 (by kernel_rfl) ?_ ?_
  .refine Af λc8=>?_;have V:=(k.mv.ch c1).s;have d1:=hB.ch c1;have b0:∀ z,w1.heap.size<=z->g1.t z=.z:=λz Z=>(c8.new z Z).1;refine qC 6 (Dm p.vo.p _ p.vo.vs b w1 V (d1.tn hT)) ?_;rintro e' w5 ⟨y5,z5,rfl,d3,d5,b5⟩;refine⟨_,rfl,b5,?_⟩;have c5:=Cg.eb (B:=w.heap.size) (T:=[]) (g:=g1) b5;obtain⟨e3,rfl,e7,c0⟩:=Eq d3 b0 (mS (CV _ _) V.len);obtain⟨e5,rfl,e9,c3⟩:=Eq d5 b0 (mS (CV _ _) V.len);refine qR [] 9 [14,16,18,20,23,1,0,25,3,0,26,28] λs6 g6 w6 c6=>qB [true,true,true,true] λz K0 K=>hJ _ _ _ z _ ⟨e3,e5,(s6 0),rfl,rfl,(c0.ch c6),(c3.ch c6),((c1.trans c5).trans c6)⟩ K
  .refine qR [] 1 [1,0] λs7 g7 w7 c7=>Af λd0=>?_;have W:=(k.mv.ch (c1.trans c7)).s;have d2:=hB.ch (c1.trans c7);have b1:∀ z,w7.heap.size<=z->g7.t z=.z:=λz Z=>(d0.new z Z).1;refine qC 6 (Dm p.vo.p _ p.vo.vs b w7 W (d2.tn hT)) ?_;rintro e' w9 ⟨y9,z9,rfl,d4,d6,b9⟩;refine⟨_,rfl,b9,?_⟩;have c9:=Cg.eb (B:=w.heap.size) (T:=[]) (g:=g7) b9;obtain⟨e4,rfl,e8,c2⟩:=Eq d4 b1 (mS (CV _ _) W.len);obtain⟨e6,rfl,f0,c4⟩:=Eq d6 b1 (mS (CV _ _) W.len);refine qR [] 8 [14,16,18,20,25,3,0,26,28] λg3 f1 h7 Q=>qB [true,true,true,true] λz K0 K=>hJ _ _ _ z _ ⟨e4,e6,(s7 0),rfl,rfl,(c2.ch Q),(c4.ch Q),(((c1.trans c7).trans c9).trans Q)⟩ K
 .rintro g2 w2 _ z2 _ ⟨ys,zs,bA,rfl,rfl,hys,hzs,hc⟩;refine qR [] 6 [] λg4 f2 h8 c=>?_;by_cases h1:Cn p.vo b≠0
  .refine qI (((Cn p.vo b) != 0)) true (by simpa using h1) (qR [] 6 [] λg5 f3 h9 a4=>qE (.tuple #[S3.v s30,iv (Cn p.vo b)]) λK=>?_);rw[show p.au b=(p,[],(Cn p.vo b))from if_pos h1];exact⟨s30,_,rfl,⟨Sv.nil _,λh=>absurd rfl h⟩,(nsC k U ((hc.n c).n a4) K),(((hc.nil (TN i)).n c).n a4)⟩
  .refine qI (((Cn p.vo b) != 0)) false (by simpa using h1) ?_;have H:Cn p.vo b=0:=by simpa using h1
   obtain⟨e1,e2⟩:=jb H;rw[e2]at hys hzs
   refine qR [] 11 [8,0,2,2,4,6,8,10,12,0] λg8 f4 i0 j=>?_;by_cases h2:b=p.vo.p
   .refine qT 7 (.bool false) (λ_=>(IT (x:=(.tmp 25)) (y:=(.tmp 31)) b p.vo.p h2)) (qR [.n 0 i] 18 [3,0,1] λg9 f5 i1 E=>qE (.tuple #[S3.v zs,iv 0]) λK=>?_);rw[show p.au b=({ p with vo:=⟨b,p.vo.vs⟩ },p.vo.vs,0)from by unfold Nod.au;rw[if_neg (by simpa using H),if_pos h2]];have o:=(((hc.nil ([.n 0 i]:List Tg)).n c).n j).trans (E);have D:Tg.z∉([.n 0 i]:List Tg):=by simp
    obtain⟨q1,q2,q3⟩:=K.sJ 0 nb (.cells (AJ i ob { p with vo:=⟨Fs p.vo b,p.vo.vs⟩ } { x with mv:=ys }) 136) 0 i (by kernel_rfl);rw[e1]at q1
    obtain⟨q4,q5,q6⟩:=K.sJ 1 ob (.cells #[S3.v lt,S3.v tl] 113) 50 0 (by kernel_rfl);exact⟨zs,_,rfl,(((hzs.ch c).ch j).ch E),⟨{ x with mv:=ys },lt,tl,⟨q1,q2,q3,k.tape.ch o D,(((hys.ch c).ch j).ch E),B9 k.an o D,Ci k.bu o D (by simp),k.fa.ch o,k.ae.ch o,k.av.ch o,k.bN.ch o,k.sS⟩,⟨q4,q5,q6,Ep U.br o D (by simp),U.ed.ch o⟩,K.new⟩,((((hc.nil (TN i)).n c).n j).trans (E.mono (by simp[TN])))⟩
   .refine qT 7 (.bool true) (λ_=>(IU (x:=(.tmp 25)) (y:=(.tmp 31)) b p.vo.p h2)) (qR [] 9 [12,0,2,4,6,0,8,2] λh0 a6 d9 m=>Ea 55 (λg' w' e L=>∃ (tz:S3) (bT:Nat),e=[(0,pt nb 0),(6,pt bA 0),(7,S3.v zs),(9,pt bT 0),(10,iv (CH p.d p.sy (Ac b) (Bu b)))]/\L=[⟨nb,.cells (AJ i ob p x) 136,.n 0 i,false⟩,⟨ob,.cells #[S3.v lt,S3.v tl] 113,.n 50 0,false⟩,⟨(s1 0),.cells #[iv b.r,iv b.n] 121,.z,false⟩,⟨bA,.cells #[iv (Fs p.vo b).r,iv (Fs p.vo b).n,S3.v ys] 124,.l,false⟩,⟨bT,.cells #[S3.v tz,iv (GV p.d p.sy (Ac b) (Bu b))] 134,.l,false⟩]/\FSl g' w' tz (FZ p.d p.sy (Ac b) (Bu b))/\FSv g' w' ys p.vo.vs/\FSv g' w' zs p.vo.vs/\Cg w.heap.size [] g w g' w') (by kernel_rfl) ?_ ?_)
    .intro J hJ;refine DT 5 9 (by kernel_rfl) ?_ ?_
     .refine Af λa0=>?_;have b2:=(k.tape.ch (((hc.trans c).trans j).trans m) (by simp)).s;have I:=hB.ch (((hc.trans c).trans j).trans m) (by simp);have a8:∀ z,d9.heap.size<=z->a6.t z=.z:=λz Z=>(a0.new z Z).1;refine qC 5 (K4 (s:=p.sy) (b:=b) b2 (I.tt hT) (I.tn hT)) ?_;rintro e' i2 ⟨N,rfl,b7,b4,a2⟩;refine⟨_,rfl,a2,?_⟩;have R:=Cg.eb (B:=w.heap.size) (T:=[]) (g:=a6) a2;have X:FSl _ _ N _:=⟨b7,λhl a ha=>a8 _ (b4 hl a ha)⟩;refine qR [] 7 [12,14,16,19,1,0,21,4,0,22] λd7 f6 i3 F=>qB [true,true,true,true,true] λz K0 K=>hJ _ _ _ z _ ⟨N,(d7 0),rfl,rfl,(X.ch F),(((((hys.ch c).ch j).ch m).ch R).ch F),(((((hzs.ch c).ch j).ch m).ch R).ch F),(((((hc.trans c).trans j).trans m).trans R).trans F)⟩ K
     .refine qR [] 1 [1,0] λd8 a7 e0 A=>Af λa1=>?_;have b3:=(k.tape.ch ((((hc.trans c).trans j).trans m).trans A) (by simp)).s;have M:=hB.ch ((((hc.trans c).trans j).trans m).trans A) (by simp);have a9:∀ z,e0.heap.size<=z->a7.t z=.z:=λz Z=>(a1.new z Z).1;refine qC 5 (K4 (s:=p.sy) (b:=b) b3 (M.tt hT) (M.tn hT)) ?_;rintro e' i4 ⟨O,rfl,b8,b6,a3⟩;refine⟨_,rfl,a3,?_⟩;have S:=Cg.eb (B:=w.heap.size) (T:=[]) (g:=a7) a3;have Y:FSl _ _ O _:=⟨b8,λhl a ha=>a9 _ (b6 hl a ha)⟩;refine qR [] 6 [12,14,16,21,4,0,22] λh4 f7 i5 G=>qB [true,true,true,true,true] λz K0 K=>hJ _ _ _ z _ ⟨O,(d8 0),rfl,rfl,(Y.ch G),((((((hys.ch c).ch j).ch m).ch A).ch S).ch G),((((((hzs.ch c).ch j).ch m).ch A).ch S).ch G),((((((hc.trans c).trans j).trans m).trans A).trans S).trans G)⟩ K
    .rintro g18 w18 _ z18 _ ⟨tz,bT,rfl,rfl,htz,hys,hzs,hc⟩;refine qR [] 6 [] λh5 f8 i6 u=>?_;by_cases h3:CH p.d p.sy (Ac b) (Bu b)≠0
     .refine qI (((CH p.d p.sy (Ac b) (Bu b)) != 0)) true (by simpa using h3) (qR [] 6 [] λh6 f9 i7 a5=>qE (.tuple #[S3.v s30,iv (CH p.d p.sy (Ac b) (Bu b))]) λK=>?_);rw[show p.au b=(p,[],(CH p.d p.sy (Ac b) (Bu b)))from by unfold Nod.au;rw[if_neg (by simpa using H),if_neg h2,if_pos h3]];exact⟨s30,_,rfl,⟨Sv.nil _,λh=>absurd rfl h⟩,(nsC k U ((hc.n u).n a5) K),(((hc.nil (TN i)).n u).n a5)⟩
     .refine qI (((CH p.d p.sy (Ac b) (Bu b)) != 0)) false (by simpa using h3) (qR [.n 0 i] 23 [4,0,1,3,0,1] λs30 g0 i8 C=>qE (.tuple #[S3.v zs,iv 0]) λK=>?_);rw[show p.au b=({ p with d:=FZ p.d p.sy (Ac b) (Bu b),sy:=GV p.d p.sy (Ac b) (Bu b),vo:=⟨b,p.vo.vs⟩ },p.vo.vs,0)from by unfold Nod.au;rw[if_neg (by simpa using H),if_neg h2,if_neg h3]];have q:=((hc.nil ([.n 0 i]:List Tg)).n u).trans (C);have P:Tg.z∉([.n 0 i]:List Tg):=by simp
      obtain⟨q1,q2,q3⟩:=K.sJ 0 nb (.cells (AJ i ob { p with d:=FZ p.d p.sy (Ac b) (Bu b),sy:=GV p.d p.sy (Ac b) (Bu b),vo:=⟨Fs p.vo b,p.vo.vs⟩ } { x with mv:=ys,tape:=tz }) 136) 0 i (by kernel_rfl);rw[e1]at q1
      obtain⟨q4,q5,q6⟩:=K.sJ 1 ob (.cells #[S3.v lt,S3.v tl] 113) 50 0 (by kernel_rfl);exact⟨zs,_,rfl,((hzs.ch u).ch C),⟨{ x with mv:=ys,tape:=tz },lt,tl,⟨q1,q2,q3,((htz.ch u).ch C),((hys.ch u).ch C),B9 k.an q P,Ci k.bu q P (by simp),k.fa.ch q,k.ae.ch q,k.av.ch q,k.bN.ch q,k.sS⟩,⟨q4,q5,q6,Ep U.br q P (by simp),U.ed.ch q⟩,K.new⟩,(((hc.nil (TN i)).n u).trans (C.mono (by simp[TN])))⟩
def SO(l:List Vt)(v:Vt):Int:=if v∈l then((l.findIdx λu=>decide (u=v)):Int)else -1
theorem YP(l:List Vt)(v:Vt):decide (0<=SO l v)=decide (v∈l):=by
 unfold SO;by_cases a:v∈l
 .rw[if_pos a,O' a];exact O' (by omega)
 .rw[if_neg a,H' a];rfl
theorem dF{j:Nat}(h:l[j]?=some v)(a:∀ i,i<j->l[i]?≠some v):SO l v=(j:Int):=by
 have d:v∈l:=np h;obtain⟨c,e⟩:=V'.1 h;unfold SO;rw[if_pos d]
 congr 1
 rw[List.findIdx_eq c];exact⟨by simp[e],λi b=>by have:=a i b;rw[E' (by omega)]at this;simpa using this⟩
theorem SQ(h:Sv w x.v l)(hb:l.length<100000000)(v:Vt) :
  Calls prog 186 #[x.v,.agg #[iv v.bt,iv v.b.r,iv v.b.n,iv v.w.k,iv v.w.c,iv v.w.s,iv v.w.n,iv v.w.v]] w λe w'=>e=.returned (iv (SO l v))/\Bw w w':=by
 have hn:x.n=l.length:=by obtain⟨a,Q,H⟩:=h.shape;simp only[Value.slice.injEq]at H;exact H.2.1
 refine gI (fn:=f186) [] gh0 func186 (λ_ _=>⟨rfl,rfl⟩) (qR [] 13 [0,0] λA g1 w1 M=>Cd 19 [(0,S3.v x),(3,pt (A 0) 0),(7,iv (x.n:Int)),(8,iv 0)] [true] [⟨(A 0),.cells #[iv v.bt,iv v.b.r,iv v.b.n,iv v.w.k,iv v.w.c,iv v.w.s,iv v.w.n,iv v.w.v] 181,.z,false⟩] (λk R w' e L=>∃ j:Nat,k=l.length-j/\j<=l.length/\e=[(0,S3.v x),(3,pt (A 0) 0),(7,iv (x.n:Int)),(8,iv (j:Int))]/\L=[⟨(A 0),.cells #[iv v.bt,iv v.b.r,iv v.b.n,iv v.w.k,iv v.w.c,iv v.w.s,iv v.w.n,iv v.w.v] 181,.z,false⟩]/\(∀ i,i<j->l[i]?≠some v)/\Cg w.heap.size [] gh0 w R w') (by kernel_rfl) (by kernel_rfl) (by kernel_rfl) (by kernel_rfl) l.length (λK=>?_) ?_)
 .exact⟨0,rfl,by omega,rfl,rfl,λi o=>absurd o (by omega),M⟩
 .rintro k gr wr _ zr _ ⟨j,rfl,hj,rfl,rfl,hI,hC⟩ J hJ;refine qR [] 5 [] λs2 g2 w2 q=>?_;by_cases T:j<l.length
  .refine qI ((decide ((j:Int)<(x.n:Int)))) true (O' (by omega)) ?_;obtain⟨d,m⟩:∃ d,l[j]?=some d:=⟨_,E' T⟩;obtain⟨bx,I,F,D,g⟩:=h.spot j d m;refine qR [] 13 [6,0,0,2,4] λs3 g3 w3 C=>qT 3 (pt bx (I+8*j)) (λ_=>(Va F j (by omega))) ?_;have V:=Cg.af (hC.trans (q.trans C)) (λ_ _=>Q');refine qV 4 (.agg #[iv d.bt,iv d.b.r,iv d.b.n,iv d.w.k,iv d.w.c,iv d.w.s,iv d.w.n,iv d.w.v]) (eJ d λi u X=>(V.cell (p:=⟨bx,I+8*j+i,none⟩) D).trans (g i u X)) (qT 5 (.bool (decide (v=d))) (λ_=>(lu (x:=(.tmp 11)) (y:=(.tmp 15)) v d)) (qR [] 1 [] λs6 g6 w6 G=>?_));by_cases t:v=d
   .refine qI (decide (v=d)) true (O' t) (qR [] 5 [] λs7 g7 w7 N=>qE (iv (j:Int)) λK=>⟨by rw[dF (by rw[t];exact m) hI],Cg.af (hC.trans (((q.trans C).trans G).trans N)) (λ_ _=>Q')⟩)
   .refine qI (decide (v=d)) false (H' t) (qR [] 3 [] λs8 g8 w8 O=>qV 0 (iv ((j:Int)+1)) (AX 8 (j:Int) underlying3 (by omega)) (qR [] 2 [] λs9 g9 w9 P=>qB [true] λz K0 K=>hJ (l.length-(j+1)) _ _ _ z _ (by omega) ⟨j+1,rfl,by omega,rfl,rfl,λi o=>?_,hC.trans ((((q.trans C).trans G).trans O).trans P)⟩ K));rcases nU i j with h4|h4
    .exact hI i h4
    .rw[show i=j by omega,m];intro U;exact t (by simpa using U.symm)
  .refine qI ((decide ((j:Int)<(x.n:Int)))) false (H' (by omega)) (qR [] 5 [] λY S Z B=>?_);have E:v∉l:=λW=>by obtain⟨i,o⟩:=oD.1 W;exact hI i (by have:=(V'.1 o).1;omega) o
   exact qE (iv (-1)) λK=>⟨by unfold SO;rw[if_neg E],Cg.af (hC.trans (q.trans B)) (λ_ _=>Q')⟩
theorem Nr(h:Sv w x.v l)(p:l.length<100000000)(v:Vt) :
  Calls prog 158 #[x.v,.agg #[iv v.bt,iv v.b.r,iv v.b.n,iv v.w.k,iv v.w.c,iv v.w.s,iv v.w.n,iv v.w.v]] w λe w'=>e=.returned (.bool (decide (v∈l)))/\Bw w w':=by
 refine gI (fn:=f158) [] gh0 func158 (λ_ _=>⟨rfl,rfl⟩) (qR [] 9 [0,0,0] λu o y i=>?_);have a:=Cg.af i (λ_ _=>Q');refine qC 2 (SQ (h.af a) p v) ?_;rintro q z ⟨rfl,d⟩;refine⟨_,rfl,d,?_⟩;have j:=Cg.eb (B:=w.heap.size) (T:=[]) (g:=o) d;refine qR [] 3 [] λs3 t A m=>qE (.bool (decide (0<=SO l v))) λK=>⟨by rw[YP],Cg.af ((i.trans j).trans m) (λ_ _=>Q')⟩
theorem Oz(h:NS i nb ob g w p ls ts){w0:World}(hB:Base w0 g w)(hT:Tabs w0)(v:Vt)(hb:p.vo.vs.length<100000000) :
  Calls prog 127 #[pt nb 0,.agg #[iv v.bt,iv v.b.r,iv v.b.n,iv v.w.k,iv v.w.c,iv v.w.s,iv v.w.n,iv v.w.v]] w (NP i nb ob g w (iv (p.cl v).2) (p.cl v).1 ls ts):=by
 obtain⟨x,lt,tl,u,U,hg⟩:=h;refine gI (fn:=f127) (TN i) g func127 hg (qN u (qO U (qR [] 13 [0,0,13,0,2,4,6,8,0,10,2] λs1 g1 w1 Y=>Ea 52 (λZ w' e L=>∃ (ys:S3) (bA:Nat),e=[(0,pt nb 0),(3,pt (s1 0) 0),(5,pt bA 0),(6,iv (Bb p.vo v))]/\L=[⟨nb,.cells (AJ i ob p x) 136,.n 0 i,false⟩,⟨ob,.cells #[S3.v lt,S3.v tl] 113,.n 50 0,false⟩,⟨(s1 0),.cells #[iv v.bt,iv v.b.r,iv v.b.n,iv v.w.k,iv v.w.c,iv v.w.s,iv v.w.n,iv v.w.v] 181,.z,false⟩,⟨bA,.cells #[iv (BI p.vo v).r,iv (BI p.vo v).n,S3.v ys] 124,.l,false⟩]/\FSv Z w' ys (Br p.vo v)/\Cg w.heap.size [] g w Z w') (by kernel_rfl) ?_ ?_)))
 .intro J hJ;refine DT 6 10 (by kernel_rfl) ?_ ?_
  .refine Af λc8=>?_;have d7:=(u.mv.ch Y).s;have d2:=hB.ch Y;have d4:∀ z,w1.heap.size<=z->g1.t z=.z:=λz X=>(c8.new z X).1;refine qC 6 (Ct p.vo.p _ p.vo.vs v w1 d7 (d2.tn hT)) ?_;rintro e' w5 ⟨y5,rfl,d9,g3,b5⟩;refine⟨_,rfl,b5,?_⟩;have c5:=Cg.eb (B:=w.heap.size) (T:=[]) (g:=g1) b5;obtain⟨e7,rfl,e9,c3⟩:=Eq d9 d4 (by omega);refine qR [] 7 [14,16,18,21,1,0,23,3,0,24] λs6 g6 w6 c6=>qB [true,true,true,true] λz K0 K=>hJ _ _ _ z _ ⟨e7,(s6 0),rfl,rfl,(c3.ch c6),((Y.trans c5).trans c6)⟩ K
  .refine qR [] 1 [1,0] λs7 g7 w7 c7=>Af λd0=>?_;have d8:=(u.mv.ch (Y.trans c7)).s;have d3:=hB.ch (Y.trans c7);have d5:∀ z,w7.heap.size<=z->g7.t z=.z:=λz X=>(d0.new z X).1;refine qC 6 (Ct p.vo.p _ p.vo.vs v w7 d8 (d3.tn hT)) ?_;rintro e' w9 ⟨y9,rfl,e0,g4,b9⟩;refine⟨_,rfl,b9,?_⟩;have c9:=Cg.eb (B:=w.heap.size) (T:=[]) (g:=g7) b9;obtain⟨e8,rfl,f0,c4⟩:=Eq e0 d5 (by omega);refine qR [] 6 [14,16,18,23,3,0,24] λg5 f1 i0 a5=>qB [true,true,true,true] λz K0 K=>hJ _ _ _ z _ ⟨e8,(s7 0),rfl,rfl,(c4.ch a5),(((Y.trans c7).trans c9).trans a5)⟩ K
 .rintro g2 w2 _ z2 _ ⟨ys,bA,rfl,rfl,hys,hc⟩;refine qR [] 6 [] λg8 f2 i1 j=>?_;by_cases h1:Bb p.vo v≠0
  .refine qI (((Bb p.vo v) != 0)) true (by simpa using h1) (qR [] 5 [] λg9 f3 i2 a6=>qE (iv (Bb p.vo v)) λK=>?_);rw[show p.cl v=(p,(Bb p.vo v))from if_pos h1];exact⟨_,rfl,(nsC u U ((hc.n j).n a6) K),(((hc.nil (TN i)).n j).n a6)⟩
  .refine qI (((Bb p.vo v) != 0)) false (by simpa using h1) ?_;have H:Bb p.vo v=0:=by simpa using h1
   obtain⟨e1,e2⟩:=DK H;rw[e2]at hys
   refine qR [] 11 [9,0,2,4,6,8,10,0,12,2] λh0 d1 i3 m=>?_;have d6:=(u.mv.ch ((hc.trans j).trans m) (by simp)).s;refine qC 7 (Nr d6 hb v) ?_;rintro e' i4 ⟨rfl,a2⟩;refine⟨_,rfl,a2,?_⟩;have o:=Cg.eb (B:=w.heap.size) (T:=[]) (g:=d1) a2;refine qR [] 2 [16] λh4 f4 i5 q=>?_;by_cases h2:v∈p.vo.vs
   .refine qI ((!(decide (v∈p.vo.vs)))) false (by simpa using h2) (qR [.n 0 i] 14 [3,0,1] λh5 f5 i6 Q=>qE (iv 0) λK=>?_);rw[show p.cl v=({ p with vo:=⟨v.b,Bn p.vo.vs v⟩ },0)from by unfold Nod.cl;rw[if_neg (by simpa using H),if_pos h2]];have y:=(((((hc.nil ([.n 0 i]:List Tg)).n j).n m).n o).n q).trans (Q);have E:Tg.z∉([.n 0 i]:List Tg):=by simp
    obtain⟨q1,q2,q3⟩:=K.sJ 0 nb (.cells (AJ i ob { p with vo:=⟨BI p.vo v,Bn p.vo.vs v⟩ } { x with mv:=ys }) 136) 0 i (by kernel_rfl);rw[e1]at q1
    obtain⟨q4,q5,q6⟩:=K.sJ 1 ob (.cells #[S3.v lt,S3.v tl] 113) 50 0 (by kernel_rfl);exact⟨_,rfl,⟨{ x with mv:=ys },lt,tl,⟨q1,q2,q3,u.tape.ch y E,(((((hys.ch j).ch m).ch o).ch q).ch Q),B9 u.an y E,Ci u.bu y E (by simp),u.fa.ch y,u.ae.ch y,u.av.ch y,u.bN.ch y,u.sS⟩,⟨q4,q5,q6,Ep U.br y E (by simp),U.ed.ch y⟩,K.new⟩,((((((hc.nil (TN i)).n j).n m).n o).n q).trans (Q.mono (by simp[TN])))⟩
   .refine qI ((!(decide (v∈p.vo.vs)))) true (by simpa using h2) (qR [] 7 [12,0,2,4,6,0,8,2] λh6 b0 e5 C=>Ea 52 (λZ w' e L=>∃ (tz:S3) (bT:Nat),e=[(0,pt nb 0),(5,pt bA 0),(7,pt bT 0),(8,iv (CH p.d p.sy (Ah v) (Bj v)))]/\L=[⟨nb,.cells (AJ i ob p x) 136,.n 0 i,false⟩,⟨ob,.cells #[S3.v lt,S3.v tl] 113,.n 50 0,false⟩,⟨(s1 0),.cells #[iv v.bt,iv v.b.r,iv v.b.n,iv v.w.k,iv v.w.c,iv v.w.s,iv v.w.n,iv v.w.v] 181,.z,false⟩,⟨bA,.cells #[iv (BI p.vo v).r,iv (BI p.vo v).n,S3.v ys] 124,.l,false⟩,⟨bT,.cells #[S3.v tz,iv (GV p.d p.sy (Ah v) (Bj v))] 134,.l,false⟩]/\FSl Z w' tz (FZ p.d p.sy (Ah v) (Bj v))/\FSv Z w' ys (Bn p.vo.vs v)/\Cg w.heap.size [] g w Z w') (by kernel_rfl) ?_ ?_)
    .intro J hJ;refine DT 5 9 (by kernel_rfl) ?_ ?_
     .refine Af λa0=>?_;have b4:=(u.tape.ch (((((hc.trans j).trans m).trans o).trans q).trans C) (by simp)).s;have I:=hB.ch (((((hc.trans j).trans m).trans o).trans q).trans C) (by simp);have b2:∀ z,e5.heap.size<=z->b0.t z=.z:=λz X=>(a0.new z X).1;refine qC 5 (R6 (s:=p.sy) (v:=v) b4 (I.tt hT) (I.tn hT)) ?_;rintro e' i7 ⟨N,rfl,c0,b7,a3⟩;refine⟨_,rfl,a3,?_⟩;have a7:=Cg.eb (B:=w.heap.size) (T:=[]) (g:=b0) a3;have V:FSl _ _ N _:=⟨c0,λhl a ha=>b2 _ (b7 hl a ha)⟩;refine qR [] 7 [12,14,16,19,1,0,21,4,0,22] λe3 f6 i8 R=>qB [true,true,true,true,true] λz K0 K=>hJ _ _ _ z _ ⟨N,(e3 0),rfl,rfl,(V.ch R),(((((((hys.ch j).ch m).ch o).ch q).ch C).ch a7).ch R),(((((((hc.trans j).trans m).trans o).trans q).trans C).trans a7).trans R)⟩ K
     .refine qR [] 1 [1,0] λe4 b1 e6 F=>Af λa1=>?_;have b6:=(u.tape.ch ((((((hc.trans j).trans m).trans o).trans q).trans C).trans F) (by simp)).s;have M:=hB.ch ((((((hc.trans j).trans m).trans o).trans q).trans C).trans F) (by simp);have b3:∀ z,e6.heap.size<=z->b1.t z=.z:=λz X=>(a1.new z X).1;refine qC 5 (R6 (s:=p.sy) (v:=v) b6 (M.tt hT) (M.tn hT)) ?_;rintro e' i9 ⟨O,rfl,c2,b8,a4⟩;refine⟨_,rfl,a4,?_⟩;have a8:=Cg.eb (B:=w.heap.size) (T:=[]) (g:=b1) a4;have W:FSl _ _ O _:=⟨c2,λhl a ha=>b3 _ (b8 hl a ha)⟩;refine qR [] 6 [12,14,16,21,4,0,22] λh7 f7 j0 S=>qB [true,true,true,true,true] λz K0 K=>hJ _ _ _ z _ ⟨O,(e4 0),rfl,rfl,(W.ch S),((((((((hys.ch j).ch m).ch o).ch q).ch C).ch F).ch a8).ch S),((((((((hc.trans j).trans m).trans o).trans q).trans C).trans F).trans a8).trans S)⟩ K
    .rintro g20 w20 _ z20 _ ⟨tz,bT,rfl,rfl,htz,hys,hc⟩;refine qR [] 6 [] λh8 f8 j1 D=>?_;by_cases h3:CH p.d p.sy (Ah v) (Bj v)≠0
     .refine qI (((CH p.d p.sy (Ah v) (Bj v)) != 0)) true (by simpa using h3) (qR [] 5 [] λs30 f9 j2 a9=>qE (iv (CH p.d p.sy (Ah v) (Bj v))) λK=>?_);rw[show p.cl v=(p,(CH p.d p.sy (Ah v) (Bj v)))from by unfold Nod.cl;rw[if_neg (by simpa using H),if_neg h2,if_pos h3]];exact⟨_,rfl,(nsC u U ((hc.n D).n a9) K),(((hc.nil (TN i)).n D).n a9)⟩
     .refine qI (((CH p.d p.sy (Ah v) (Bj v)) != 0)) false (by simpa using h3) (qR [.n 0 i] 21 [4,0,1,3,0,1] λh9 g0 j3 G=>qE (iv 0) λK=>?_);rw[show p.cl v=({ p with d:=FZ p.d p.sy (Ah v) (Bj v),sy:=GV p.d p.sy (Ah v) (Bj v),vo:=⟨v.b,Bn p.vo.vs v⟩ },0)from by unfold Nod.cl;rw[if_neg (by simpa using H),if_neg h2,if_neg h3]];have A:=((hc.nil ([.n 0 i]:List Tg)).n D).trans (G);have P:Tg.z∉([.n 0 i]:List Tg):=by simp
      obtain⟨q1,q2,q3⟩:=K.sJ 0 nb (.cells (AJ i ob { p with d:=FZ p.d p.sy (Ah v) (Bj v),sy:=GV p.d p.sy (Ah v) (Bj v),vo:=⟨BI p.vo v,Bn p.vo.vs v⟩ } { x with mv:=ys,tape:=tz }) 136) 0 i (by kernel_rfl);rw[e1]at q1
      obtain⟨q4,q5,q6⟩:=K.sJ 1 ob (.cells #[S3.v lt,S3.v tl] 113) 50 0 (by kernel_rfl);exact⟨_,rfl,⟨{ x with mv:=ys,tape:=tz },lt,tl,⟨q1,q2,q3,((htz.ch D).ch G),((hys.ch D).ch G),B9 u.an A P,Ci u.bu A P (by simp),u.fa.ch A,u.ae.ch A,u.av.ch A,u.bN.ch A,u.sS⟩,⟨q4,q5,q6,Ep U.br A P (by simp),U.ed.ch A⟩,K.new⟩,(((hc.nil (TN i)).n D).trans (G.mono (by simp[TN])))⟩
theorem Mm{b:Bal}(h:(p.au b).2.2≠0):(p.au b).1=p:=by
 unfold Nod.au at h ⊢;split
 .rfl
 .rename_i h1
  rw[if_neg h1]at h
  split
  .rename_i h2;rw[if_pos h2]at h;exact absurd rfl h
  .rename_i h2
   rw[if_neg h2]at h
   split
   .rfl
   .rename_i h3;rw[if_neg h3]at h;exact absurd rfl h
theorem Vv(h:(p.cl v).2≠0):(p.cl v).1=p:=by
 unfold Nod.cl at h ⊢;split
 .rfl
 .rename_i h1
  rw[if_neg h1]at h
  split
  .rename_i h2;rw[if_pos h2]at h;exact absurd rfl h
  .rename_i h2
   rw[if_neg h2]at h
   split
   .rfl
   .rename_i h3;rw[if_neg h3]at h;exact absurd rfl h
theorem FP(p:Nod)(b:Bal):(p.au b).1.bu=p.bu:=by
 unfold Nod.au
 repeat' split
 all_goals rfl
theorem Hm(p:Nod)(v:Vt):(p.cl v).1.bu=p.bu:=by
 unfold Nod.cl
 repeat' split
 all_goals rfl
theorem Jg(h:NS i nb ob g w p ls ts){w0:World}(hB:Base w0 g w)(hT:Tabs w0)(o:Nat)(l:Let)(hl:CP g w o l)(hk:l.kind=0)(hb:p.bu.length<100000000) :
  Calls prog 81 #[pt nb 0,pt o 0] w (NP i nb ob g w (.tuple #[]) (p.take l) ls ts):=by
 obtain⟨x,lt,tl,W,X,hg⟩:=h;refine gI (fn:=f81) (TN i) g func81 hg (qN W (qO X ?_));have V:=hl;obtain⟨vs,wh,G,b5,b6⟩:=hl;refine Cq ⟨o,.cells (FF l vs wh) 183,.z,false⟩ (λ_=>⟨G.r,G.z,λh=>(by cases h),λh=>absurd rfl h⟩) (by kernel_rfl) ?_;refine qR [] 12 [0,0,0,0,5,0,3,2,4,4,6,8,2] λd g1 w1 q=>Ea 27 (λS w' e L=>∃ (yv:S3) (b4:Nat),e=[(2,pt (d 0) 0),(3,pt (d 1) 0),(4,pt b4 0),(5,iv (p.au l.hU).2.2)]/\L=[⟨o,.cells (FF l vs wh) 183,.z,false⟩,⟨(d 0),.cells #[pt nb 0] 116,.z,false⟩,⟨(d 1),.cells #[pt o 0] 184,.z,false⟩,⟨b4,.cells #[S3.v yv] 122,.l,false⟩]/\FSv S w' yv (p.au l.hU).2.1/\NS i nb ob S w' (p.au l.hU).1 ls ts/\Cg w.heap.size (TN i) g w S w') (by kernel_rfl) ?_ ?_
 .intro J hJ;refine DT 5 9 (by kernel_rfl) ?_ ?_
  .refine Af λK=>?_;have N4:NS i nb ob g1 w1 p ls ts:=(nsC W X q K);refine qG 5 (TN i) [false,false,true,true,true] (FI N4 (hB.ch (q.nil (TN i)) (Bx i)) hT l.hU) ?_;rintro e' w4 ⟨y4,g4,rfl,Y,M4,H⟩;refine⟨_,g4,rfl,H,M4.new,?_⟩;replace H:=H.ret (B:=w.heap.size);refine qR [] 7 [12,14,16,19,1,0,21,3,0,22] λs6 g6 w6 Q=>qB [true,true,true,true] λz M K=>hJ _ _ _ z _ ⟨y4,(s6 0),rfl,rfl,(Y.ch Q),NS.sr M4 Q M.new,(((q.nil (TN i)).trans (H)).n Q)⟩ K
  .refine qR [] 1 [1,0] λs7 g7 w7 R=>Af λK=>?_;have N8:NS i nb ob g7 w7 p ls ts:=(nsC W X (q.n R) K);refine qG 5 (TN i) [false,false,true,true,true,true] (FI N8 (hB.ch ((q.nil (TN i)).n R) (Bx i)) hT l.hU) ?_;rintro e' w8 ⟨y8,g8,rfl,Z,M8,I⟩;refine⟨_,g8,rfl,I,M8.new,?_⟩;replace I:=I.ret (B:=w.heap.size);refine qR [] 6 [12,14,16,21,3,0,22] λb8 a6 d0 j=>qB [true,true,true,true] λz M K=>hJ _ _ _ z _ ⟨y8,(s7 0),rfl,rfl,(Z.ch j),NS.sr M8 j M.new,((((q.nil (TN i)).n R).trans (I)).n j)⟩ K
 .rintro g2 w2 _ z2 _ ⟨yv,b4,rfl,rfl,hyv,hM,hc⟩;obtain⟨x1,b7,c9,k,m,b3⟩:=hM;refine qN k (qO m (kw 3 b4 (by kernel_rfl) λa7 a=>qR [] 6 [] λb9 a8 d1 b=>?_));by_cases A:(p.au l.hU).2.2≠0
  .refine qI (((p.au l.hU).2.2 != 0)) true (by simpa using A) (qR [] 8 [6,0,1,2,2,4,6,8,0,10] λc0 T a0 t=>?_);have hp:=Mm A;rw[show p.take l=p.ew l.src (p.au l.hU).2.2 from by unfold Nod.take;rw[hk];exact if_pos A];refine Af λK=>?_;have s:NS i nb ob T a0 ((p.au l.hU).1) ls ts:=(nsC k m ((a.n b).n t) K);rw[hp]at s
   refine qS0 6 [true,true,true,true,false,false] (Mv s hb l.src (p.au l.hU).2.2) λa9 d2 d6 a2 a4 C E O=>qR [] 1 [] λc2 b0 d3 u=>qF C E u ((((((hc).n a).n b).n t).trans (O)).n u)
  .refine qI (((p.au l.hU).2.2 != 0)) false (by simpa using A) (qR [] 4 [1] λc3 U a1 c=>?_);rw[show p.take l=(p.au l.hU).1.wait (.prom l.src l.hU (p.au l.hU).2.1)from by unfold Nod.take;rw[hk];exact if_neg A];refine Af λK=>?_;obtain⟨z1,z2⟩:=K.sI 1 (d 0) (.cells #[pt nb 0] 116) false (by kernel_rfl);obtain⟨z3,z4⟩:=K.sI 2 (d 1) (.cells #[pt o 0] 184) false (by kernel_rfl);obtain⟨z5,z6⟩:=K.sI 3 b4 (.cells #[S3.v yv] 122) false (by kernel_rfl);have N:NS i nb ob U a1 ((p.au l.hU).1) ls ts:=(nsC k m ((a.n b).n c) K);refine qS0 2 [true,true,true,true,false,false] (AY N (by rw[FP];exact hb) _ _ (.prom l.src l.hU (p.au l.hU).2.1) ⟨(d 0),(d 1),b4,yv,o,l,rfl,⟨z1,z2⟩,⟨z3,z4⟩,⟨z5,z6⟩,(((hyv.ch a).ch b).ch c),V.ch ((((hc).n a).n b).n c) (Bx i),rfl,rfl⟩) λb1 d4 d7 a3 a5 D F P=>qR [] 1 [] λc5 b2 d5 y=>qF D F y ((((((hc).n a).n b).n c).trans (P)).n y)
theorem JS(h:NS i nb ob g w p ls ts){R:World}(X:Base R g w)(Y:Tabs R)(s:Nat)(l:Let)(O:CP g w s l)(N:l.kind=3)(M:p.bu.length<100000000)(E:p.vo.vs.length<100000000) :
  Calls prog 84 #[pt nb 0,pt s 0] w (NP i nb ob g w (.tuple #[]) (p.take l) ls ts):=by
 obtain⟨x,lt,tl,J,L,Z⟩:=h;refine gI (fn:=f84) (TN i) g func84 Z (qN J (qO L ?_));have B:=O;obtain⟨vs,wh,q,a0,a1⟩:=O;refine Cq ⟨s,.cells (FF l vs wh) 183,.z,false⟩ (λ_=>⟨q.r,q.z,λh=>(by cases h),λh=>absurd rfl h⟩) (by kernel_rfl) ?_;refine qR [] 13 [0,0,0,0,5,0,3,2,4,4,6,8,2] λt g1 w1 b=>qS 5 [false,false,true,true,true] J L b (λS=>Oz S (X.ch (b.nil (TN i)) (Bx i)) Y l.cl E) λg2 w2 x2 a2 a6 k o y=>qR [] 7 [12] λs4 g4 w4 d=>?_;by_cases e:(p.cl l.cl).2≠0
 .refine qI (((p.cl l.cl).2 != 0)) true (by simpa using e) (qR [] 8 [6,0,1,2,2,4,6,8,0,10] λs5 W w5 H=>?_);have hp:=Vv e;rw[show p.take l=p.ew l.src (p.cl l.cl).2 from by unfold Nod.take;rw[N];exact if_pos e];refine Af λK=>?_;have G:NS i nb ob W w5 ((p.cl l.cl).1) ls ts:=(nsC k o (d.n H) K);rw[hp]at G
  refine qS0 6 [true,true,true,false,false] (Mv G M l.src (p.cl l.cl).2) λg6 w6 x6 a3 a7 C D T=>qR [] 1 [] λs8 g8 w8 I=>qF C D I ((((((b.nil (TN i)).trans (y)).n d).n H).trans (T)).n I)
 .refine qI (((p.cl l.cl).2 != 0)) false (by simpa using e) (qR [] 4 [1] λa4 A F a=>?_);rw[show p.take l=(p.cl l.cl).1.wait (.voted l.src l.cl)from by unfold Nod.take;rw[N];exact if_neg e];refine Af λK=>?_;obtain⟨z1,z2⟩:=K.sI 1 (t 0) (.cells #[pt nb 0] 116) false (by kernel_rfl);obtain⟨z3,z4⟩:=K.sI 2 (t 1) (.cells #[pt s 0] 184) false (by kernel_rfl);have u:NS i nb ob A F ((p.cl l.cl).1) ls ts:=(nsC k o (d.n a) K);refine qS0 2 [true,true,true,false,false] (AY u (by rw[Hm];exact M) _ _ (.voted l.src l.cl) ⟨(t 0),(t 1),s,l,rfl,⟨z1,z2⟩,⟨z3,z4⟩,B.ch ((((b.nil (TN i)).trans (y)).n d).n a) (Bx i),rfl,rfl⟩) λU a8 b0 P Q j m v=>qR [] 1 [] λa5 V a9 c=>qF j m c ((((((b.nil (TN i)).trans (y)).n d).n a).trans (v)).n c)
theorem PK(h:NS i nb ob g w p ls ts)(d:Nat)(l:Let)(F:CP g w d l)(E:l.kind=5)(O:p.bu.length<100000000)(y:p.ae.length<100000000)(A:l.gC.length<100000000) :
  Calls prog 86 #[pt nb 0,pt d 0] w (NP i nb ob g w (.tuple #[]) (p.take l) ls ts):=by
 obtain⟨x,lt,tl,e,t,P⟩:=h;refine gI (fn:=f86) (TN i) g func86 P (qN e (qO t ?_));have o:=F;have hn:=e.ae.num;obtain⟨V,G,c,Q,B⟩:=F;refine Cq ⟨d,.cells (FF l V G) 183,.z,false⟩ (λ_=>⟨c.r,c.z,λh=>(by cases h),λh=>absurd rfl h⟩) (by kernel_rfl) ?_;refine qR [] 20 [0,0,0,0,11,0,4,2,4,6,2,8,3,10,12,14,16,0,18,20] λj g1 w1 a=>?_;by_cases D:p.ae.length<l.bt
 .refine qI ((decide ((x.ae.n:Int)<(l.bt:Int)))) true (O' (by omega)) (qR [] 4 [3] λs2 N X k=>?_);rw[show p.take l=p.wait (.askNews l.src)from by unfold Nod.take;rw[E];exact if_pos D];refine Af λK=>?_;obtain⟨Y,Z⟩:=K.sI 3 (j 0) (.cells #[pt nb 0] 116) false (by kernel_rfl);obtain⟨z3,z4⟩:=K.sI 4 (j 1) (.cells #[pt d 0] 184) false (by kernel_rfl);have H:NS i nb ob N X p ls ts:=(nsC e t (a.n k) K);refine qS0 2 [false,false,true,true,true] (AY H O _ _ (.askNews l.src) ⟨(j 0),(j 1),d,l,rfl,⟨Y,Z⟩,⟨z3,z4⟩,o.ch ((a.nil (TN i)).n k) (Bx i),rfl⟩) λg3 w3 x3 R T q u J=>qR [] 1 [] λs5 g5 w5 C=>qF q u C ((((a.nil (TN i)).n k).trans (J)).n C)
 .refine qI ((decide ((x.ae.n:Int)<(l.bt:Int)))) false (H' (by omega)) (qR [] 11 [9,0,3,2,4,4,6,8,2,10,4,12,14,16,2] λs7 g7 w7 m=>?_);rw[show p.take l=p.lr l.bt l.gC from by unfold Nod.take;rw[E];exact if_neg D];refine qS 9 [false,false,true,true,true] e t (a.n m) (λI=>Ov I l.bt l.gC G (B.ch ((a.nil (TN i)).n m) (Bx i)) (by omega) y A) λg8 w8 x8 lt8 U s v L=>qR [] 1 [] λS M W b=>qF s v b ((((a.nil (TN i)).n m).trans (L)).n b)
end
end Go.Proofs.YthkjeoamjgnpoaaGreatDoor
