/- Part 7 of the walk. -/
import Derived.Test.YthkjeoamjgnpoaaGreatDoorZ6
set_option maxRecDepth 100000
set_option maxHeartbeats 4000000
open Go.Proofs.Tryz
set_option linter.unusedVariables false
namespace Go.Proofs.YthkjeoamjgnpoaaGreatDoor
open Go.RowKit
section
variable{b born k n:Nat}{es:Array MapEntry}{l:List Vt}{v:Vt}{w w':World}
theorem LV{a:Acc}:Dh a (v::l)=Dh (if Bb a v=0 then⟨BI a v,Br a v⟩else a) l:=rfl
theorem U7{j:Nat}(h:l[j]?=some v):l.drop j=v::l.drop (j+1):=by
 obtain⟨a,b⟩:=V'.1 h;rw[<- b];exact n7 a
theorem QB{g:Gh}{i nb d:Nat}{p:Nod}{ls:List Let}{ts:List Tol}(h:NS i nb d g w p ls ts){w0:World}(hB:Base w0 g w)(hT:Tabs w0)(j:Nat)(hj:j<5)(vs:List Vt)(y:S3)(hy:FSv g w y vs)(hb:(p.bn.an j).vs.length<100000000) :
  Calls prog 95 #[pt nb 11,iv (j:Int),y.v] w (NP i nb d g w (.tuple #[]) { p with bn:=p.bn.sw j vs } ls ts):=by
 obtain⟨x,lt,H,o,hO,hg⟩:=h;refine gI (fn:=f95) (TN i) g func95 hg (qN o (qO hO (qR [] 18 [0,1,0,2,0] λE g1 w1 c1=>Ea 50 (λG I e L=>e=[(0,pt nb 11),(1,iv (j:Int)),(6,pt (E 0) 0),(23,S3.v (x.hv j)),(24,iv ((x.hv j).n:Int)),(25,iv 0)]/\L=[⟨nb,.cells (AJ i d p x) 136,.n 0 i,false⟩,⟨d,.cells #[S3.v lt,S3.v H] 113,.n 50 0,false⟩,⟨(E 0),.cells #[iv p.bn.hU.r,iv p.bn.hU.n,S3.v y] 124,.l,false⟩]/\True/\Cg w.heap.size ([]:List Tg) g1 w1 G I) (by kernel_rfl) ?_ ?_)))
 .intro J hJ;rcases se hj with rfl|rfl|rfl|rfl|rfl <;>
  (refine qR [] 6 [0] λs3 g3 w3 c3=>?_;exact qB [true,true,true] λz K0 K=>hJ _ _ _ z _ ⟨rfl,rfl,trivial,(c3.nil ([]:List Tg))⟩ K)
 rintro g2 w2 _ z2 _ ⟨rfl,rfl,_,c2⟩;have hH:=o.an j hj;have hn:(x.hv j).n=(p.bn.an j).vs.length:=by obtain⟨a,b7,hh⟩:=hH.s.shape;simp only[Value.slice.injEq]at hh;exact hh.2.1
 obtain⟨l,hl⟩:∃ l,l=(p.bn.an j).vs:=⟨_,rfl⟩;rw[<- hl]at hH hn hb
 refine qR [] 1 [] λs4 g4 w4 c4=>Cd 50 [(0,pt nb 11),(1,iv (j:Int)),(6,pt (E 0) 0),(23,S3.v (x.hv j)),(24,iv ((x.hv j).n:Int)),(25,iv 0)] [true,true,true] [⟨nb,.cells (AJ i d p x) 136,.n 0 i,false⟩,⟨d,.cells #[S3.v lt,S3.v H] 113,.n 50 0,false⟩,⟨(E 0),.cells #[iv p.bn.hU.r,iv p.bn.hU.n,S3.v y] 124,.l,false⟩] (λk G I e L=>∃ (k0:Nat) (a:Acc) (ya:S3),k=l.length-k0/\k0<=l.length/\e=[(0,pt nb 11),(1,iv (j:Int)),(6,pt (E 0) 0),(23,S3.v (x.hv j)),(24,iv ((x.hv j).n:Int)),(25,iv (k0:Int))]/\L=[⟨nb,.cells (AJ i d p x) 136,.n 0 i,false⟩,⟨d,.cells #[S3.v lt,S3.v H] 113,.n 50 0,false⟩,⟨(E 0),.cells #[iv a.p.r,iv a.p.n,S3.v ya] 124,.l,false⟩]/\Dh a (l.drop k0)=Dh ⟨p.bn.hU,vs⟩ l/\FSv G I ya a.vs/\Cg w.heap.size [] g w G I) (by kernel_rfl) (by kernel_rfl) (by kernel_rfl) (by kernel_rfl) l.length (λK=>?_) ?_
 .exact⟨0,⟨p.bn.hU,vs⟩,y,rfl,by omega,rfl,rfl,rfl,(((hy.ch c1).ch c2).ch c4),((c1.trans c2).trans c4)⟩
 .rintro k gr wr _ zr _ ⟨k0,a,ya,rfl,hk0,rfl,rfl,hI,hya,hC⟩ J hJ;refine qR [] 5 [] λs5 g5 w5 C=>?_;by_cases h1:k0<l.length
  .refine qI ((decide ((k0:Int)<((x.hv j).n:Int)))) true (O' (by omega)) ?_;obtain⟨v,hv⟩:∃ v,l[k0]?=some v:=⟨_,E' h1⟩;have X:=hH.ch hC;obtain⟨bx,ox,Y,d3,a9⟩:=X.s.spot k0 v hv;refine qR [] 5 [] λs6 g6 w6 F=>qV 0 (pt bx (ox+8*k0)) (Va Y k0 (by omega)) ?_;have b0:=((X.ch C).ch F).s.spot k0 v hv;obtain⟨b6,d5,q,b4,A⟩:=b0;rw[Y]at q
   simp only[Z',Addr.mk.injEq,and_true]at q;obtain⟨rfl,rfl⟩:=q;refine qV 1 (.agg #[iv v.bt,iv v.b.r,iv v.b.n,iv v.w.k,iv v.w.c,iv v.w.s,iv v.w.n,iv v.w.v]) (eJ v A) (qR [] 7 [0,0,3,0,2,3] λs8 g8 w8 W=>Af λa1=>?_);have a8:=((((hya.ch C).ch F).ch W)).s;have a6:=hB.ch (hC.trans ((C.trans F).trans W)) (by simp);have a7:∀ z,w8.heap.size<=z->g8.t z=.z:=λz hz=>(a1.new z hz).1;refine qC 2 (Ct a.p _ a.vs v w8 a8 (a6.tn hT)) ?_;rintro e' e5 ⟨f4,rfl,Z,b5,N⟩;refine⟨_,rfl,N,?_⟩;have D:=Cg.eb (B:=w.heap.size) (T:=[]) (g:=g8) N;obtain⟨ys,rfl,d4,b1⟩:=Eq Z a7 (by omega);refine qR [] 12 [0,0,4,0] λd6 b8 e6 u=>?_;by_cases h2:Bb a v=0
   .refine qI (((Bb a v)==0)) true (by simpa using h2) (qR [] 6 [4,2,0] λd7 b9 e7 O=>qV 0 (iv ((k0:Int)+1)) (AX 25 (k0:Int) underlying3 (by omega)) (qR [] 2 [] λd8 c0 e8 P=>qB [true,true,true,false,false] λz K0 K=>hJ (l.length-(k0+1)) _ _ _ z _ (by omega) ⟨k0+1,⟨BI a v,Br a v⟩,ys,rfl,by omega,rfl,rfl,?_,(((b1.ch u).ch O).ch P),hC.trans ((((((C.trans F).trans W).trans D).trans u).trans O).trans P)⟩ K));rw[<- hI,U7 hv,LV,if_pos h2]
   .refine qI (((Bb a v)==0)) false (by simpa using h2) (qR [] 3 [] λd9 c7 e9 Q=>qV 0 (iv ((k0:Int)+1)) (AX 25 (k0:Int) underlying3 (by omega)) (qR [] 2 [] λe0 c9 f0 R=>qB [true,true,true,false,false] λz K0 K=>hJ (l.length-(k0+1)) _ _ _ z _ (by omega) ⟨k0+1,a,ya,rfl,by omega,rfl,rfl,?_,(((((((hya.ch C).ch F).ch W).ch D).ch u).ch Q).ch R),hC.trans ((((((C.trans F).trans W).trans D).trans u).trans Q).trans R)⟩ K));rw[<- hI,U7 hv,LV,if_neg h2]
  .refine qI ((decide ((k0:Int)<((x.hv j).n:Int)))) false (H' (by omega)) ?_;obtain rfl:k0=l.length:=by omega
   rw[o8]at hI
   refine qR [] 8 [8,0,2,4,6,10,12] λe1 a4 b2 S=>Ea 50 (λG I e L=>e=[(0,pt nb 11)]/\L=[⟨nb,.cells (AJ i d ({ p with bn:={ p.bn with rN:=upN p.bn.rN j true,an:=upN p.bn.an j a } }) ({ x with hv:=upN x.hv j ya })) 136,.n 0 i,false⟩,⟨d,.cells #[S3.v lt,S3.v H] 113,.n 50 0,false⟩,⟨(E 0),.cells #[iv a.p.r,iv a.p.n,S3.v ya] 124,.l,false⟩]/\True/\Cg w.heap.size ([.n 0 i]:List Tg) a4 b2 G I) (by kernel_rfl) ?_ ?_
   .intro J hJ;rcases se hj with rfl|rfl|rfl|rfl|rfl <;>
    (refine qR [] 3 [14,18,20] λe2 d0 f1 V=>?_;exact DT 4 8 (by kernel_rfl) (by(refine qR [.n 0 i] 5 [2,17,0,1,22,25,0,1] λe3 d1 f2 a2=>?_;exact qB [true,true,true] λz K0 K=>hJ _ _ _ z _ ⟨rfl,rfl,trivial,((V.nil ([.n 0 i]:List Tg)).trans a2)⟩ K)) (by(refine qR [.n 0 i] 5 [0,1,9,2,22,25,0,1] λe4 d2 f3 a3=>?_;exact qB [true,true,true] λz K0 K=>hJ _ _ _ z _ ⟨rfl,rfl,trivial,((V.nil ([.n 0 i]:List Tg)).trans a3)⟩ K)))
   rintro a5 b3 _ f5 _ ⟨rfl,rfl,_,U⟩;refine qE (.tuple #[]) λK=>?_;obtain⟨q1,q2,q3⟩:=K.sJ 0 nb (.cells (AJ i d { p with bn:={ p.bn with rN:=upN p.bn.rN j true,an:=upN p.bn.an j a } } { x with hv:=upN x.hv j ya }) 136) 0 i (by kernel_rfl);obtain⟨q4,q5,q6⟩:=K.sJ 1 d (.cells #[S3.v lt,S3.v H] 113) 50 0 (by kernel_rfl);have hE:p.bn.sw j vs={ p.bn with rN:=upN p.bn.rN j true,an:=upN p.bn.an j a }:=by unfold Rnd.sw;rw[<- hl,<- hI];rfl
   rw[hE];have m:Cg w.heap.size [.n 0 i] g w a5 b3:=((((hC.nil [.n 0 i]).n C).n S).trans U);have M:Tg.z∉[Tg.n 0 i]:=by simp
   have a0:=(((hya.ch C).ch S).ch U);refine⟨_,rfl,⟨{ x with hv:=upN x.hv j ya },lt,H,⟨q1,q2,q3,o.tape.ch m M,o.mv.ch m M,?_,Ci o.bu m M (by simp),o.fa.ch m,o.ae.ch m,o.av.ch m,o.bN.ch m,o.sS⟩,⟨q4,q5,q6,Ep hO.br m M (by simp),hO.ed.ch m⟩,K.new⟩,m.mono (by simp[TN])⟩;intro k hk;show FSv _ _ (upN x.hv j ya k) (upN p.bn.an j a k).vs;unfold upN;split
   .exact a0
   .exact(o.an k hk).ch m M
theorem Y4(u v:Vt)(w:World):(Op.equal 181 (.agg (vtA u)) (.agg (vtA v))).run prog w=.ok (decide (u=v)) w:=by
 have a:=Y2 u.bt u.b.r u.b.n u.w.k u.w.c u.w.s u.w.n u.w.v v.bt v.b.r v.b.n v.w.k v.w.c v.w.s v.w.n v.w.v w;have d:decide (u.bt=v.bt/\u.b.r=v.b.r/\u.b.n=v.b.n/\u.w.k=v.w.k/\u.w.c=v.w.c/\u.w.s=v.w.s/\u.w.n=v.w.n/\u.w.v=v.w.v)=decide (u=v):=by
  apply ol.2;constructor
  .rintro⟨a1,a2,a3,a4,a5,a6,a7,a8⟩;exact(Vt.eq_iff u v).1 ⟨a1,(Bal.eq_iff _ _).1 ⟨a2,a3⟩,(Cmd.eq_iff _ _).1 ⟨a4,a5,a6,a7,a8⟩⟩
  .rintro rfl;exact⟨rfl,rfl,rfl,rfl,rfl,rfl,rfl,rfl⟩
 rw[d]at a
 rw[run_eql_struct]at a
 show(Op.equalIn 10000 _ _ _).run _ _=_;simp only[vtA,vtC];cases hr:(Op.equalIn 10000 181 (.agg #[.int .i64 u.bt,.int .i64 u.b.r,.int .i64 u.b.n,.int .i64 u.w.k,.int .i64 u.w.c,.int .i64 u.w.s,.int .i64 u.w.n,.int .i64 u.w.v]) (.agg #[.int .i64 v.bt,.int .i64 v.b.r,.int .i64 v.b.n,.int .i64 v.w.k,.int .i64 v.w.c,.int .i64 v.w.s,.int .i64 v.w.n,.int .i64 v.w.v])).run prog w with
 | ok b w'=>rw[hr]at a;simp[Result.andThen]at a;rw[a.1,a.2]
 | _=>rw[hr]at a;simp[Result.andThen]at a
abbrev Cnt:=Vt × Nat × Nat
def mkE(x:Cnt):MapEntry:={ key:=.agg (vtA x.1),val:=.int .i64 (x.2.1:Int),born:=x.2.2 }
def LO(v:Vt):List Cnt->Nat->Option (Nat × Value)
 | [],_=>none
 | x::c,i=>if v=x.1 then some (i,.int .i64 (x.2.1:Int))else LO v c (i+1)
theorem NR(v:Vt)(w:World):∀ (c:List Cnt) (i:Nat),(Instr.findAsking 181 (.agg (vtA v)) (c.map mkE) i).run prog w=.ok (LO v c i) w
 | [],i=>by simp[Instr.findAsking,LO]
 | x::c,i=>by
  have h:=Y4 v x.1 w;rw[nO,Instr.findAsking,Sem.run_bind];show((Op.equal 181 (.agg (vtA v)) (.agg (vtA x.1))).run _ w).andThen _=_;rw[h,Result.andThen_ok,LO];by_cases e:v=x.1
  .rw[O' e,if_pos e];simp[mkE]
  .rw[H' e,if_neg e];simpa using NR v w c (i+1)
theorem KY(v:Vt)(w:World)(c:List Cnt):(Instr.findKey 181 (.agg (vtA v)) (c.map mkE)).run prog w=.ok (LO v c 0) w:=by
 rw[Instr.findKey,Sem.run_bind,run_underlying underlying181 w,Result.andThen_ok];cases c with
 | nil=>simp[Instr.findNow,LO]
 | cons x c =>
  show Sem.run _ (match(none:Option (Option (Nat × Value)))with|some r=>pure r|none=>Instr.findAsking 181 (.agg (vtA v)) ((x::c).map mkE)) w=_;exact NR v w (x::c) 0
theorem I1(a:Bool)(v:Vt)(w:World):(Instr.checkKey a 10000 181 (.agg (vtA v))).run prog w=.ok () w:=by
 obtain⟨s,⟨r,n⟩,⟨k,c,q,m,x⟩⟩:=v;kernel_rfl
def DQ(c:List Cnt)(v:Vt):Nat:=match c.find? (λx=>decide (v=x.1))with|some x=>x.2.1|none=>0
theorem LQ(v:Vt):∀ (c:List Cnt) (i:Nat),(LO v c i=none/\DQ c v=0/\∀ x∈c,v≠x.1)\/∃ a x b,c=a++x::b/\x.1=v/\(∀ y∈a,v≠y.1)/\LO v c i=some (i+a.length,.int .i64 (x.2.1:Int))/\DQ c v=x.2.1
 | [],i=>.inl ⟨rfl,rfl,λx hx=>by cases hx⟩
 | x::c,i=>by
  by_cases e:v=x.1
  .refine .inr ⟨[],x,c,rfl,e.symm,λy hy=>(Q' hy).elim,?_,?_⟩
   .rw[LO,if_pos e];simp
   .simp[DQ,e]
  .rcases LQ v c (i+1)with⟨h1,h2,h3⟩|⟨a,y,b,rfl,hy,h3,h4,h5⟩
   .refine .inl ⟨by rw[LO,if_neg e,h1],?_,λy hy=>?_⟩
    .rw[<- h2];simp[DQ,e]
    .rcases mZ.1 hy with rfl|hy
     .exact e
     .exact h3 y hy
   .refine .inr ⟨x::a,y,b,rfl,hy,λz hz=>?_,?_,?_⟩
    .rcases mZ.1 hz with rfl|hz
     .exact e
     .exact h3 z hz
    .rw[LO,if_neg e,h4];simp;omega
    .rw[<- h5];simp[DQ,e]
structure CMap(w:World)(b:Nat)(c:List Cnt):Prop where
 ex:∃ clock,w.heap[b]?=some (.map (c.map mkE).toArray clock)/\∀ x∈c,x.2.2<clock
 uT:c.Pairwise λx y=>x.2.2≠y.2.2
variable{a c d:List Cnt}
theorem CMap.lt(h:CMap w b c):b<w.heap.size:=by
 obtain⟨⟨k,a,_⟩,_⟩:=h;exact(U'.1 a).1
theorem CMap.nn(h:CMap w b c)(f:w'.heap[b]?=w.heap[b]?):CMap w' b c:=by
 obtain⟨⟨k,a,d⟩,e⟩:=h;exact⟨⟨k,f.trans a,d⟩,e⟩
theorem CMap.af(h:CMap w b c)(a:Bw w w'):CMap w' b c:=h.nn (a.block b h.lt)
theorem CMap.made(w:World):CMap (w.alloc (.map #[] 0)) w.heap.size []:=⟨⟨0,heap_alloc_new _ _,λx a=>by cases a⟩,List.Pairwise.nil⟩
theorem mm(w:World):(zeroValue 3).run prog w=.ok (.int .i64 0) w:=by kernel_rfl
theorem CMap.look(h:CMap w b c)(v:Vt):(Instr.lookup 286 (.map (some b)) (.agg (vtA v)) false).run prog w=.ok (.int .i64 (DQ c v:Int)) w:=by
 obtain⟨⟨k,f,_⟩,_⟩:=h;have e:(getObj b).run prog w=.ok (.map (c.map mkE).toArray k) w:=by simp[getObj,Sem.run,f]
 rcases LQ v c 0 with⟨h1,h2,_⟩|⟨a,x,d,_,_,_,h1,h2⟩
 .simp[Instr.lookup,run_underlying underlying286,e,I1,KY,h1,h2]
 .simp[Instr.lookup,run_underlying underlying286,e,I1,KY,h1,h2]
theorem fb(v:Vt)(n:Nat):Instr.sameBits (n+1) (.agg (vtA v)) (.agg (vtA v))=true:=by
 simp[Instr.sameBits,vtA,vtC]
theorem aU(v:Vt)(w:World):(Instr.keyThatStays (.agg (vtA v)) (.agg (vtA v))).run prog w=.ok (.agg (vtA v)) w:=by
 rw[Instr.keyThatStays,if_pos (fb v 9999)];rfl
theorem VJ{u:Vt}{m:Nat}(b:∀ y∈a,v≠y.1):DQ (a++(v,m,born)::d) u=if u=v then m else DQ (a++(v,n,born)::d) u:=by
 unfold DQ;rw[oU,oU,pR,pR];by_cases e:u=v
 .subst e;have c:a.find? (λx=>decide (u=x.1))=none:=by
   rw[oG];intro y f;simp[b y f]
  rw[c];simp
 .rw[if_neg e];simp[e]
theorem JL(a:w.heap[b]?=some (.map es k))(o:Obj):Below b w (ChangeMaps.setBlock w b o) :=
 ⟨rfl,rfl,rfl,by simp[ChangeMaps.setBlock],λi c=>ChangeMaps.heap_setBlock_other a o (by omega)⟩
theorem JM(a:w.heap[b]?=some (.map es k))(o:Obj)(i:Nat)(h:i≠b):(ChangeMaps.setBlock w b o).heap[i]?=w.heap[i]?:=ChangeMaps.heap_setBlock_other a o h
theorem CMap.entry(h:CMap w b c)(v:Vt):∃ (a d:List Cnt) (born:Nat) (w':World),(Instr.mapEntry 286 (.map (some b)) (.agg (vtA v))).run prog w=.ok (.tuple #[.int .i64 (DQ c v:Int),.int .i64 (born:Int)]) w'/\CMap w' b (a++(v,DQ c v,born)::d)/\(∀ y∈a,v≠y.1)/\(∀ u,DQ (a++(v,DQ c v,born)::d) u=DQ c u)/\Below b w w'/\∀ i,i≠b->w'.heap[i]?=w.heap[i]?:=by
 obtain⟨⟨k,f,j⟩,m⟩:=h;have n:(getObj b).run prog w=.ok (.map (c.map mkE).toArray k) w:=by simp[getObj,Sem.run,f]
 rcases LQ v c 0 with⟨h1,h2,h3⟩|⟨a,x,d,rfl,rfl,h3,h1,h2⟩
 .refine⟨c,[],k,ChangeMaps.setBlock w b (.map ((c++[(v,0,k)]).map mkE).toArray (k+1)),?_,⟨⟨k+1,?_,?_⟩,?_⟩,h3,?_,JL f _,JM f _⟩
  .have hs:=MapKept.run_setObj_map (P:=prog) (w:=w) (.map ((c++[(v,0,k)]).map mkE).toArray (k+1)) f;have g:((c.map mkE).toArray.push { key:=.agg (vtA v),val:=.int .i64 0,born:=k })=((c++[(v,0,k)]).map mkE).toArray:=by simp[mkE]
   rw[Instr.mapEntry];simp only[Sem.run_bind,run_underlying underlying286,Result.andThen_ok,n,I1,KY,h1,h2,mm,g,hs];rfl
  .rw[h2];exact ChangeMaps.heap_setBlock_same f _
  .intro y hy;rcases P'.1 hy with hy|hy
   .have:=j y hy;omega
   .obtain rfl:y=(v,DQ c v,k):=by simpa using hy
    show k<k+1;omega
  .rw[pq];refine⟨m,qi _ _,λy hy z p=>?_⟩;obtain rfl:z=(v,DQ c v,k):=by simpa using p
   have:=j y hy;show y.2.2≠k;omega
  .intro u;rw[h2];unfold DQ;rw[oU];cases hf:c.find? (λx=>decide (u=x.1))with
   | some y=>rfl
   | none =>
    by_cases e:u=v
    .subst e;simp
    .simp[e]
 .refine⟨a,d,x.2.2,ChangeMaps.setBlock w b (.map ((a++x::d).map mkE).toArray k),?_,⟨⟨k,?_,?_⟩,?_⟩,h3,?_,JL f _,JM f _⟩
  .have hs:=MapKept.run_setObj_map (P:=prog) (w:=w) (.map ((a++x::d).map mkE).toArray k) f;have o:((a++x::d).map mkE).toArray[a.length]?=some (mkE x):=by simp
   have g:(((a++x::d).map mkE).toArray.modify a.length λe=>{ e with key:=.agg (vtA x.1) })=((a++x::d).map mkE).toArray:=by
    apply oX;intro i;rw[pS];split
    .rename_i hi
     subst hi;rw[o];rfl
    .rfl
   have l:=aU x.1 w;rw[Instr.mapEntry];simp only[Sem.run_bind,run_underlying underlying286,Result.andThen_ok,n,I1,KY,h1,nM,o,nW,qQ];rw[show(mkE x).key=.agg (vtA x.1)from rfl,l,Result.andThen_ok,g,hs];simp[goInt,ChangeMaps.setBlock,h2,mkE]
  .rw[h2];exact ChangeMaps.heap_setBlock_same f _
  .rw[h2];exact j
  .rw[h2];exact m
  .intro u;rw[h2]
theorem CMap.store(h:CMap w b (a++(v,n,born)::d))(m:Nat):∃ w',(Instr.entryStore 286 (.map (some b)) (.int .i64 (born:Int)) (.int .i64 (m:Int))).run prog w=.ok () w'/\CMap w' b (a++(v,m,born)::d)/\Below b w w'/\∀ i,i≠b->w'.heap[i]?=w.heap[i]?:=by
 obtain⟨⟨k,f,l⟩,c⟩:=h;have r:(getObj b).run prog w=.ok (.map ((a++(v,n,born)::d).map mkE).toArray k) w:=by simp[getObj,Sem.run,f]
 refine⟨ChangeMaps.setBlock w b (.map ((a++(v,m,born)::d).map mkE).toArray k),?_,⟨⟨k,ChangeMaps.heap_setBlock_same f _,?_⟩,?_⟩,JL f _,JM f _⟩
 .have hs:=MapKept.run_setObj_map (P:=prog) (w:=w) (.map ((a++(v,m,born)::d).map mkE).toArray k) f;have p:((a++(v,n,born)::d).map mkE).toArray.findIdx? (λe=>(e.born:Int)==(born:Int))=some a.length:=by
   rw[List.findIdx?_toArray,nG,List.findIdx?_append];have o:(a.map mkE).findIdx? (λe=>(e.born:Int)==(born:Int))=none:=by
    rw[List.findIdx?_eq_none_iff];intro e j;obtain⟨y,hy,rfl⟩:=nw.1 j;have:=(pq.1 c).2.2 y hy (v,n,born) (by simp);simp[mkE];intro g;exact this (show y.2.2=born by omega)
   rw[o,nO,List.findIdx?_cons];simp[mkE]
  have j:(((a++(v,n,born)::d).map mkE).toArray.modify a.length λe=>{ e with val:=.int .i64 (m:Int) })=((a++(v,m,born)::d).map mkE).toArray:=by
   apply oX;intro i;rw[pS];split
   .rename_i hi
    subst hi;simp[mkE]
   .rename_i hi
    simp only[nV,nG,nO];rcases nU i a.length with g|g
    .rw[nk (by simpa using g),nk (by simpa using g)]
    .rw[nr (by simpa using g),nr (by simpa using g)];obtain⟨q,s⟩:∃ q,i-(a.map mkE).length=q+1:=⟨i-a.length-1,by simp;omega⟩;rw[s];rfl
  rw[Instr.entryStore];simp only[Sem.run_bind,r,Result.andThen_ok,asInt,asIntOf,Sem.run_pure,p,j,hs];rfl
 .intro y hy;rcases P'.1 hy with hy|hy
  .exact l y (mV _ hy)
  .rcases mZ.1 hy with rfl|hy
   .exact l (v,n,born) (by simp)
   .exact l y (mU _ (I' _ hy))
 .rw[pq,List.pairwise_cons]at c ⊢
  refine⟨c.1,⟨λy hy=>c.2.1.1 y hy,c.2.1.2⟩,λy hy z hz=>?_⟩;rcases mZ.1 hz with rfl|hz
  .exact c.2.2 y hy (v,n,born) (by simp)
  .exact c.2.2 y hy z (I' _ hz)
end
section
variable{P:Program}{md:Region.Mode}{ops:Array Oper}{Q:Exit->Act->World->Prop}{S:World->Prop}
section
variable{K:Act->World->Prop}{a:Act}{d i:Nat}{o:Oper}{w w':World}
theorem ZK(k:ops[i]?=some o)(l:Region.wanted o (yielded ops a.tmps)=true)(g:o.dst=some d)(t:TypeId)(m x:Operand)(c:o.op=.lookup t m x false)(e f v:Value)(j:a.eval m=e)(n:a.eval x=f)(b:(Instr.lookup t e f false).run P w=.ok v w)(h:K (a.put (some d) v) w):wpOp P ops Q i K a w :=
 ZL k l g (by unfold execOp;simp only[c,j,n,Sem.run_bind,b,Result.andThen_ok,Sem.run_pure]) h
theorem UU(k:ops[i]?=some o)(l:Region.wanted o (yielded ops a.tmps)=true)(g:o.dst=some d)(t:TypeId)(m x:Operand)(c:o.op=.mapEntry t m x)(e f v:Value)(j:a.eval m=e)(n:a.eval x=f)(b:(Instr.mapEntry t e f).run P w=.ok v w')(h:K (a.put (some d) v) w'):wpOp P ops Q i K a w :=
 ZL k l g (by unfold execOp;simp only[c,j,n,Sem.run_bind,b,Result.andThen_ok,Sem.run_pure]) h
theorem QW(l:ops[i]?=some o)(n:Region.wanted o (yielded ops a.tmps)=true)(j:o.dst=none)(t:TypeId)(m x y:Operand)(c:o.op=.entryStore t m x y)(d e f:Value)(k:a.eval m=d)(p:a.eval x=e)(q:a.eval y=f)(b:(Instr.entryStore t d e f).run P w=.ok () w')(h:K a w'):wpOp P ops Q i K a w :=
 wpOp_step l λr g=>by
  rw[if_pos n];unfold Oper.wp execOp;simp only[c,k,p,q,Sem.run_bind,b,Result.andThen_ok,Sem.run_pure];exact g _ _ (by rw[j];exact h)
end
end
section
variable{P:Program}{W w:World}{a:Act}{ac:List Acc}{b i j m nb ob:Nat}{g:Gh}{l:List Int}{ls:List Let}{n s:Int}{ops:Array Oper}{p:Nod}{ts:List Tol}{x:S3}{y:Value}
theorem OU{S:World->Prop}{op:Oper}(d:Region.wanted op (yielded ops a.tmps)=true)(x:Operand)(c:op.op=.binOp .add 3 x (.const (.int .i64 1)) 3)(n m:Nat)(e:a.eval x=.int .i64 (n:Int))(g:m=n+1)(f:n<=1000) :
  YieldsIf prog ops S op (.int .i64 (m:Int)) a :=
 .inl ⟨d,λw _=>by
  have b:a.eval (.const (.int .i64 1))=.int .i64 1:=rfl;unfold execOp;simp only[c,e,b];simp[go_sem];rw[IntKind.wrap_i64];omega⟩
theorem ZP{d:Nat}{K:Act->World->Prop}{Q:Exit->Act->World->Prop}(R:Nat->World->Prop){A:Nat->Act}(c:∀ K':Act->World->Prop,Hid (∀ x W2,R x W2->K' (A x) W2)->(Code.region d ops true).wp P (Exit.then K' Q) a w)(b:∀ x W2,R x W2->K (A x) W2):(Code.region d ops true).wp P (Exit.then K Q) a w:=c K b
def II(l:List Vt)(m:Nat):Cmd:=((Ho l m).map (·.w)).getD ⟨0,0,0,0,0⟩
def IJ(l:List Vt)(m:Nat):Int:=if(Ho l m).isSome then 0 else 9
theorem JB{l:List Vt}{v:Vt}(h:Ho l m=some v):II l m=v.w/\IJ l m=0:=by unfold II IJ;rw[h];exact⟨rfl,rfl⟩
theorem JA{l:List Vt}(h:Ho l m=none):II l m=⟨0,0,0,0,0⟩/\IJ l m=9:=by unfold II IJ;rw[h];exact⟨rfl,rfl⟩
theorem cP:(prog.info? 24).map (·.size)=some 5:=by kernel_rfl
theorem jQ:(prog.info? 124).map (·.size)=some 3:=by kernel_rfl
theorem QT(l:List Vt)(u v:Vt):BK (l++[u]) v=if v=u then BK l v+1 else BK l v:=by
 unfold BK;rw[pl];by_cases e:v=u
 .subst e;simp
 .rw[if_neg e];simp;exact λg=>e g.symm
theorem Zy(x:Value)(ac:List Acc)(s:Int)(w:World)(h:Sac w x ac)(P:ac.length<=5)(a4:∀ a∈ac,Ag a) :
  Calls prog 185 #[x,.int .i64 s] w λe w'=>e=.returned (.tuple #[.agg (cmC (II (D5 ac s) ac.length)),.int .i64 (IJ (D5 ac s) ac.length)])/\Bw w w':=by
 have a0:Hid (∀ a∈ac,Ag a):=a4;clear a4;obtain⟨ax,cp,rfl⟩:=h.shape;obtain⟨N,hN⟩:∃ N,ac.length=N:=⟨_,rfl⟩;have HN:Hid (ac.length=N):=hN;rw[hN]at h P ⊢
 clear hN;have f8:(zV5:Array Value).all (·.oneCell')=true:=by simp[Value.oneCell']
 have rr:=heap_alloc_new w (.cells zV5 24);have bb:Bw w (w.alloc (.cells zV5 24)):=(Below.refl _ _).alloc (A' _) _;have z0:(w.alloc (.cells zV5 24)).heap.size=w.heap.size+1:=by simp
 generalize e6:w.alloc (.cells zV5 24)=w1 at rr bb z0;have h0:=h.af bb;clear h;have b0:Below (w.heap.size+1) w1 (w1.alloc (.map #[] 0)):=(Below.refl _ _).alloc (by omega) _;have v0:CMap (w1.alloc (.map #[] 0)) (w.heap.size+1) []:=by rw[<- z0];exact CMap.made _
 generalize e8:w1.alloc (.map #[] 0)=WA at b0 v0;have f4:=@run_makeMap prog;go_enter func185,ntmps185
 go_wp2_with fail
 clear e8 e6 f4;have b7:w.heap.size<w.heap.size+1:=by omega
 generalize hB:w.heap.size+1=B at b0 v0 z0 b7 ⊢;have HB:Hid (B=w1.heap.size):=z0.symm;clear hB z0
 go_loopw [14] (λiv wr=>∃ (j:Nat) (c:List Cnt),j<=N/\iv=.int .i64 (j:Int)/\CMap wr B c/\(∀ v,DQ c v=BK (Ae ((ac.take j).map (·.vs)).flatten s) v)/\(∀ v,2*BK (Ae ((ac.take j).map (·.vs)).flatten s) v<=N)/\Below B w1 wr) (λiv _=>((N:Int)-intOf iv).toNat)
 case atStart=>exact⟨0,[],by omega,rfl,v0,λv=>rfl,λv=>by simp[BK,Ae],b0⟩
 case round =>
  clear v0 b0;obtain⟨j,c,hj,rfl,b3,a1,c8,E⟩:=hrel;have HC:Hid (∀ v,DQ c v=BK (Ae ((ac.take j).map (·.vs)).flatten s) v):=a1;have HL:Hid (∀ v,2*BK (Ae ((ac.take j).map (·.vs)).flatten s) v<=N):=c8;clear a1 c8;by_cases f3:j<N
  .have hji:(j:Int)<(N:Int):=by omega
   obtain⟨A,hA⟩:∃ A,ac[j]?=some A:=⟨_,E' (by have:=HN.out;omega)⟩;obtain⟨b,e0,y,rfl,g0,d2,R⟩:=h0.spot j A hA;have d0:Ag A:=a0.out A (oD.2 ⟨j,hA⟩);obtain⟨⟨pr,pn⟩,l⟩:=A;simp only at d2 R;have c7:=WW b e0 N cp j f3;obtain⟨ay,cy,hy⟩:=R.shape;obtain⟨M,hM⟩:∃ M,l.length=M:=⟨_,rfl⟩;have HM:Hid (l.length=M):=hM;rw[hM]at hy
   subst hy;have H:Hid (BM l):=d0.2.2;have HF:Hid (((ac.take (j+1)).map (·.vs)).flatten=((ac.take j).map (·.vs)).flatten++l):=Ud ac j _ hA;clear hA hM d0;have d3:=Tz E (show b<B by rw[HB.out];exact g0) d2;have d4:=R.af (E.mono (by rw[HB.out];exact A' _));have F:Bw wr (wr.alloc (.cells #[.int .i64 0,.int .i64 0,.slice none 0 0] 124)):=(Below.refl _ _).alloc (A' _) _;have Z:=heap_alloc_new wr (.cells #[.int .i64 0,.int .i64 0,.slice none 0 0] 124);have d1:(#[.int .i64 pr,.int .i64 pn,.slice ay M cy]:Array Value).all (·.oneCell')=true:=by simp[Value.oneCell']
   generalize a7:wr.alloc (.cells #[.int .i64 0,.int .i64 0,.slice none 0 0] 124)=WN at F Z
   go_upto_region 5 with((with_reducible (refine CZ ?_));first|(refine wpList_load_mid rfl 124 _ rfl b (e0+3*j) rfl [.int .i64 pr,.int .i64 pn,.slice ay M cy] _ d3 underlying124 rfl jQ ?_)|(refine wpList_store_row rfl 124 (.tmp 8) (.tmp 17) rfl wr.heap.size (#[.int .i64 pr,.int .i64 pn,.slice ay M cy]) rfl rfl 124 _ Z jQ rfl d1 ?_))
   clear a7;have q:=setRow_heap WN wr.heap.size _ (#[.int .i64 pr,.int .i64 pn,.slice ay M cy]) 124 _ Z;replace F:=ER F (A' _) (#[.int .i64 pr,.int .i64 pn,.slice ay M cy]);generalize WN.setRow wr.heap.size (#[.int .i64 pr,.int .i64 pn,.slice ay M cy])=W at q F ⊢;have Y:wr.heap.size<W.heap.size:=(U'.1 q).1;have O:=b3.af F;have d5:=E.size;have f9:B<wr.heap.size:=b3.lt;have eW:=E.trans (F.mono (by omega));have sW:=d4.af F;generalize wr.heap.size=G at q Y f9 ⊢;have c2:W.cell? ⟨G,2,none⟩=some (.slice ay M cy):=cell_of_row _ _ 2 _ _ _ q;clear Z d3 c7 F b3 d4 E d5;go_wp2_with fail
   refine(Kp _ l s W H.out sW).mono ?_;rintro e W2 ⟨p,rfl,hp,b2⟩;have HP:Hid (Plc l s p):=hp;have c2:=(b2.cell (p:=⟨G,2,none⟩) Y).trans c2;have V:=O.af b2;have s2:=sW.af b2;have e2:=eW.trans (b2.mono (by omega));have g2:G<W2.heap.size:=X' Y b2.size;clear hp b2 O sW eW q Y;go_wp2_with fail
   refine(Kh _ l p s W2 s2).mono ?_;rintro e T ⟨rfl,rfl⟩;generalize hh:LT l p s=bh;cases bh
   .have HT:Hid (Ae ((ac.take (j+1)).map (·.vs)).flatten s=Ae ((ac.take j).map (·.vs)).flatten s):=by
     unfold Hid;rw[HF.out,DN,Plc.sO H.out HP.out (LU hh),nB]
    clear hh;go_wp2
    go_roundw
    case rel=>exact⟨j+1,c,by omega,by go_num,V,by rw[HT.out];exact HC.out,by rw[HT.out];exact HL.out,e2⟩
    case measure=>simp[intOf];omega
   .obtain⟨u,hu,hus⟩:=Ol hh;have HT:Hid (Ae ((ac.take (j+1)).map (·.vs)).flatten s=Ae ((ac.take j).map (·.vs)).flatten s++[u]):=by
     unfold Hid;rw[HF.out,DN,Plc.sY H.out hu hus]
    have f6:p<M:=by have:=(V'.1 hu).1;have:=HM.out;omega
    obtain⟨b4,o4,f0,d8,c0⟩:=s2.spot p u hu;subst f0;have f2:=JJ b4 o4 M cy p f6;have hi:=aN u;have c6:DQ c u=BK (Ae ((ac.take j).map (·.vs)).flatten s) u:=HC.out u;have f5:=HL.out u;obtain⟨n,X⟩:∃ n,BK (Ae ((ac.take j).map (·.vs)).flatten s) u=n:=⟨_,rfl⟩;rw[X]at c6 f5
    have c3:Hid (BK (Ae ((ac.take (j+1)).map (·.vs)).flatten s) u=n+1):=by unfold Hid;rw[HT.out,QT,if_pos rfl,X]
    have a5:Hid (∀ v,BK (Ae ((ac.take (j+1)).map (·.vs)).flatten s) v=if v=u then n+1 else BK (Ae ((ac.take j).map (·.vs)).flatten s) v):=λv=>by
     rw[HT.out,QT];split
     .rename_i g;rw[g,X]
     .rfl
    clear hu hus hh X HT;obtain⟨D,⟨C,z⟩,⟨k,f,o,m,r⟩⟩:=u;simp only[vtC]at c0 hi;have F:Bw T (T.alloc (.cells zV8 181)):=(Below.refl _ _).alloc (A' _) _;have Z:=heap_alloc_new T (.cells zV8 181);have b9:(#[.int .i64 D,.int .i64 C,.int .i64 z,.int .i64 k,.int .i64 f,.int .i64 o,.int .i64 m,.int .i64 r]:Array Value).all (·.oneCell')=true:=by simp[Value.oneCell']
    generalize a7:T.alloc (.cells zV8 181)=WN at F Z
    go_upto_region 8 with((with_reducible (refine CZ ?_));first|(refine wpList_load_mid rfl 181 _ rfl b4 (o4+8*p) rfl [.int .i64 D,.int .i64 C,.int .i64 z,.int .i64 k,.int .i64 f,.int .i64 o,.int .i64 m,.int .i64 r] _ c0 underlying181 rfl hi ?_)|(refine wpList_store_row rfl 181 (.tmp 10) (.tmp 32) rfl T.heap.size (#[.int .i64 D,.int .i64 C,.int .i64 z,.int .i64 k,.int .i64 f,.int .i64 o,.int .i64 m,.int .i64 r]) rfl rfl 181 _ Z hi rfl b9 ?_))
    clear a7;have q:=setRow_heap WN T.heap.size _ (#[.int .i64 D,.int .i64 C,.int .i64 z,.int .i64 k,.int .i64 f,.int .i64 o,.int .i64 m,.int .i64 r]) 181 _ Z;replace F:=ER F (A' _) (#[.int .i64 D,.int .i64 C,.int .i64 z,.int .i64 k,.int .i64 f,.int .i64 o,.int .i64 m,.int .i64 r]);generalize WN.setRow T.heap.size (#[.int .i64 D,.int .i64 C,.int .i64 z,.int .i64 k,.int .i64 f,.int .i64 o,.int .i64 m,.int .i64 r])=W at q F ⊢;have d7:T.heap.size<W.heap.size:=(U'.1 q).1;have O:=V.af F;have d6:B<T.heap.size:=V.lt;have eW:=e2.trans (F.mono (by omega));generalize T.heap.size=G2 at q d7 d6 ⊢;clear Z c0 f2 F V e2 c2 s2 d8;apply ZP (λt W2=>∃ U,CMap W2 B U/\(∀ u,DQ U u=if u=⟨D,⟨C,z⟩,⟨k,f,o,m,r⟩⟩then n+1 else DQ c u)/\W2.heap[G2]?=some (.cells (vtA ⟨D,⟨C,z⟩,⟨k,f,o,m,r⟩⟩) 181 (0,0))/\Below B W W2)
    .intro K2 HK2;refine wp_region_held (S:=λw':World=>w'.heap[G2]?=some (.cells (vtA ⟨D,⟨C,z⟩,⟨k,f,o,m,r⟩⟩) 181 (0,0))) (by kernel_rfl) ?_;have L:(λw':World=>w'.heap[G2]?=some (.cells (vtA ⟨D,⟨C,z⟩,⟨k,f,o,m,r⟩⟩) 181 (0,0))) W.drew:=q;have c5:CMap W.drew B c:=O.nn rfl;refine Be (i:=0) 33 (v:=.map (some B)) rfl rfl (by kernel_rfl) (by kernel_rfl) (by kernel_rfl) (λ_ _ _ h=>h) (rO ⟨by rfl,λ_ _=>by kernel_rfl⟩) L ?_;simp only[Act.put,na,ng,nh];refine Be (i:=1) 34 (v:=.agg (vtA ⟨D,⟨C,z⟩,⟨k,f,o,m,r⟩⟩)) rfl rfl (by kernel_rfl) (by kernel_rfl) (by kernel_rfl) (λ_ _ _ h=>h) (fX (by rfl) (.tmp 10) rfl G2 rfl ⟨D,⟨C,z⟩,⟨k,f,o,m,r⟩⟩ (λw' f7=>f7)) L ?_;simp only[Act.put,na,ng,nh];obtain⟨ca,cd,t,w5,K,J,e9,c1,b5,k5⟩:=c5.entry ⟨D,⟨C,z⟩,⟨k,f,o,m,r⟩⟩;have P:DQ c ⟨D,⟨C,z⟩,⟨k,f,o,m,r⟩⟩=n:=c6;rw[P]at K J c1
     have I:w5.heap[G2]?=some (.cells (vtA ⟨D,⟨C,z⟩,⟨k,f,o,m,r⟩⟩) 181 (0,0)):=(k5 G2 (by omega)).trans L;obtain⟨w6,Q,f1,b6,k6⟩:=J.store (n+1);have a6:w6.heap[G2]?=some (.cells (vtA ⟨D,⟨C,z⟩,⟨k,f,o,m,r⟩⟩) 181 (0,0)):=(k6 G2 (by omega)).trans I;have a2:=c5.look ⟨D,⟨C,z⟩,⟨k,f,o,m,r⟩⟩;rw[P]at a2
     have a3:=J.look ⟨D,⟨C,z⟩,⟨k,f,o,m,r⟩⟩;rw[c1,P]at a3
     have c4:Hid (∃ U,CMap w6 B U/\(∀ u,DQ U u=if u=⟨D,⟨C,z⟩,⟨k,f,o,m,r⟩⟩then n+1 else DQ c u)/\w6.heap[G2]?=some (.cells (vtA ⟨D,⟨C,z⟩,⟨k,f,o,m,r⟩⟩) 181 (0,0))/\Below B W w6):=⟨_,f1,λu=>by rw[VJ (n:=n) e9,c1],a6,((Below.refl B W).drew.trans b5).trans b6⟩;refine dE (i:=2) (i':=4) (by kernel_rfl) (ZK (i:=2) (d:=35) rfl (by kernel_rfl) rfl 286 (.tmp 33) (.tmp 34) rfl (.map (some B)) (.agg (vtA ⟨D,⟨C,z⟩,⟨k,f,o,m,r⟩⟩)) (.int .i64 (n:Int)) (by kernel_rfl) (by kernel_rfl) a2 ⟨L,?_⟩) (UU (i:=4) (d:=37) rfl (by kernel_rfl) rfl 286 (.tmp 33) (.tmp 34) rfl (.map (some B)) (.agg (vtA ⟨D,⟨C,z⟩,⟨k,f,o,m,r⟩⟩)) (.tuple #[.int .i64 (n:Int),.int .i64 (t:Int)]) (by kernel_rfl) (by kernel_rfl) K ⟨I,?_⟩)
     .simp only[Act.put,na,ng,nh];refine Be (i:=3) 36 (v:=.int .i64 ((n+1:Nat):Int)) rfl rfl (by kernel_rfl) (by kernel_rfl) (by kernel_rfl) (λ_ _ _ h=>h) (OU (by rfl) (.tmp 35) rfl n (n+1) rfl rfl (by omega)) L ?_;simp only[Act.put,na,ng,nh];refine Eo (i:=4) (by kernel_rfl) (UU (i:=4) (d:=37) rfl (by kernel_rfl) rfl 286 (.tmp 33) (.tmp 34) rfl (.map (some B)) (.agg (vtA ⟨D,⟨C,z⟩,⟨k,f,o,m,r⟩⟩)) (.tuple #[.int .i64 (n:Int),.int .i64 (t:Int)]) (by kernel_rfl) (by kernel_rfl) K ⟨I,?_⟩);simp only[Act.put,na,ng,nh];refine Be (i:=5) 38 (v:=.int .i64 (t:Int)) rfl rfl (by kernel_rfl) (by kernel_rfl) (by kernel_rfl) (λ_ _ _ h=>h) (rO ⟨by rfl,λ_ _=>by kernel_rfl⟩) I ?_;simp only[Act.put,na,ng,nh];refine Eo (i:=6) (by kernel_rfl) (QW (i:=6) rfl (by kernel_rfl) rfl 286 (.tmp 33) (.tmp 38) (.tmp 36) rfl (.map (some B)) (.int .i64 (t:Int)) (.int .i64 ((n+1:Nat):Int)) (by kernel_rfl) (by kernel_rfl) (by kernel_rfl) Q ⟨a6,?_⟩);exact wpAnyH_done (by kernel_rfl) (HK2.out t _ c4.out) _
     .simp only[Act.put,na,ng,nh];refine Be (i:=5) 38 (v:=.int .i64 (t:Int)) rfl rfl (by kernel_rfl) (by kernel_rfl) (by kernel_rfl) (λ_ _ _ h=>h) (rO ⟨by rfl,λ_ _=>by kernel_rfl⟩) I ?_;simp only[Act.put,na,ng,nh];refine Eo (i:=2) (by kernel_rfl) (ZK (i:=2) (d:=35) rfl (by kernel_rfl) rfl 286 (.tmp 33) (.tmp 34) rfl (.map (some B)) (.agg (vtA ⟨D,⟨C,z⟩,⟨k,f,o,m,r⟩⟩)) (.int .i64 (n:Int)) (by kernel_rfl) (by kernel_rfl) a3 ⟨I,?_⟩);simp only[Act.put,na,ng,nh];refine Be (i:=3) 36 (v:=.int .i64 ((n+1:Nat):Int)) rfl rfl (by kernel_rfl) (by kernel_rfl) (by kernel_rfl) (λ_ _ _ h=>h) (OU (by rfl) (.tmp 35) rfl n (n+1) rfl rfl (by omega)) I ?_;simp only[Act.put,na,ng,nh];refine Eo (i:=6) (by kernel_rfl) (QW (i:=6) rfl (by kernel_rfl) rfl 286 (.tmp 33) (.tmp 38) (.tmp 36) rfl (.map (some B)) (.int .i64 (t:Int)) (.int .i64 ((n+1:Nat):Int)) (by kernel_rfl) (by kernel_rfl) (by kernel_rfl) Q ⟨a6,?_⟩);exact wpAnyH_done (by kernel_rfl) (HK2.out t _ c4.out) _
    intro t W5 e7;obtain⟨U,J,b1,q5,b5⟩:=e7;have e5:=eW.trans b5;have c9:=J.look ⟨D,⟨C,z⟩,⟨k,f,o,m,r⟩⟩;rw[b1,if_pos rfl]at c9
    have e3:Hid (∀ v,DQ U v=BK (Ae ((ac.take (j+1)).map (·.vs)).flatten s) v):=λv=>by rw[b1,a5.out v,HC.out v]
    have e1:Hid (CMap W5 B U):=J;clear b1 J q eW b5 O HC;have a9:((n+1:Nat):Int)=(n:Int)+1:=by omega
    rw[a9]at c9
    by_cases g1:N<2*(n+1)
    .have HCH:Hid (II (D5 ac s) N=⟨k,f,o,m,r⟩/\IJ (D5 ac s) N=0):=by
      refine JB (v:=⟨D,⟨C,z⟩,⟨k,f,o,m,r⟩⟩) (Sa ?_ ?_)
      .have g:=ii a0.out s;rw[HN.out]at g
       exact g
      .have g:=eh (Ae ((ac.take (j+1)).map (·.vs)).flatten s) (Ae ((ac.drop (j+1)).map (·.vs)).flatten s) ⟨D,⟨C,z⟩,⟨k,f,o,m,r⟩⟩;rw[<- DN,<- List.flatten_append,<- nG,oq,c3.out]at g
       show N<2*BK (D5 ac s) ⟨D,⟨C,z⟩,⟨k,f,o,m,r⟩⟩;unfold D5;omega
     have a8:(N:Int)<2*((n:Int)+1):=by omega
     have x3:W5.cell? ⟨G2,3,none⟩=some (.int .i64 k):=cell_of_row _ _ 3 _ _ _ q5;have x4:W5.cell? ⟨G2,4,none⟩=some (.int .i64 f):=cell_of_row _ _ 4 _ _ _ q5;have x5:W5.cell? ⟨G2,5,none⟩=some (.int .i64 o):=cell_of_row _ _ 5 _ _ _ q5;have x6:W5.cell? ⟨G2,6,none⟩=some (.int .i64 m):=cell_of_row _ _ 6 _ _ _ q5;have x7:W5.cell? ⟨G2,7,none⟩=some (.int .i64 r):=cell_of_row _ _ 7 _ _ _ q5;have rR:=(e5.block w.heap.size b7).trans rr;have b8:(#[.int .i64 k,.int .i64 f,.int .i64 o,.int .i64 m,.int .i64 r]:Array Value).all (·.oneCell')=true:=by simp[Value.oneCell']
     go_wp2_with ((with_reducible (refine CZ ?_));first|(refine wpList_load_row rfl 181 (.tmp 10) rfl G2 rfl 181 _ (0,0) _ q5 underlying181 rfl hi ?_)|(refine wpList_store_row rfl 24 (.tmp 4) (.tmp 47) rfl w.heap.size #[.int .i64 k,.int .i64 f,.int .i64 o,.int .i64 m,.int .i64 r] rfl rfl 24 _ rR cP rfl b8 ?_))
     have q9:=setRow_heap W5 w.heap.size _ (#[.int .i64 k,.int .i64 f,.int .i64 o,.int .i64 m,.int .i64 r]) 24 _ rR;have d9:=ER (bb.trans (e5.mono (by omega))) (A' _) (#[.int .i64 k,.int .i64 f,.int .i64 o,.int .i64 m,.int .i64 r]);refine bodyPost_ret (gh rfl _ _ w.heap.size 24 _ (0,0) _ rfl q9 underlying24 rfl cP) rfl ?_;rw[HCH.out.1,HCH.out.2];exact⟨rfl,d9⟩
    .have a8:¬ (N:Int)<2*((n:Int)+1):=by omega
     have e4:Hid (∀ v,2*BK (Ae ((ac.take (j+1)).map (·.vs)).flatten s) v<=N):=λv=>by
      rw[a5.out v];split
      .omega
      .exact HL.out v
     clear a5 c3 HL;go_wp2_with ((with_reducible (refine CZ ?_));(refine wpList_load_row rfl 181 (.tmp 10) rfl G2 rfl 181 _ (0,0) _ q5 underlying181 rfl hi ?_))
     go_roundw
     case rel=>exact⟨j+1,U,by omega,by go_num,e1.out,e3.out,e4.out,e5⟩
     case measure=>simp[intOf];omega
  .have HCH:Hid (II (D5 ac s) N=⟨0,0,0,0,0⟩/\IJ (D5 ac s) N=9):=by
    refine JA (XU λv=>?_);have g:=HL.out v;rw[nf (by have:=HN.out;omega)]at g
    exact g
   have rR:=(E.block w.heap.size b7).trans rr;go_wp2_with ((with_reducible (refine CZ ?_));(refine wpList_store_row rfl 24 (.tmp 4) (.tmp 49) rfl w.heap.size zV5 rfl rfl 24 _ rR cP rfl f8 ?_))
   have q9:=setRow_heap wr w.heap.size _ (zV5) 24 _ rR;have d9:=ER (bb.trans (E.mono (by omega))) (A' _) (zV5);refine bodyPost_ret (gh rfl _ _ w.heap.size 24 _ (0,0) _ rfl q9 underlying24 rfl cP) rfl ?_;rw[HCH.out.1,HCH.out.2];exact⟨rfl,d9⟩
theorem lz{c:Nat}(d:x.a=some ⟨b,c,none⟩)(j:Nat)(f:j<x.n):(Instr.indexAt 240 x.v (iv (j:Int))).run prog W=.ok (pt b (c+3*j)) W:=by
 unfold S3.v;rw[d];exact P6 (P:=prog) (e:=124) (z:=3) underlying240 (by kernel_rfl) (by kernel_rfl) f _ rfl
theorem go{k:Nat}{a:Acc}{y:S3}(h:W.rangeAt b k [iv a.p.r,iv a.p.n,S3.v y]):(Instr.loadAt 124 (pt b k)).run prog W=.ok (.agg #[iv a.p.r,iv a.p.n,S3.v y]) W:=by
 have c:=run_loadVar_mid (P:=prog) W b k 124 _ _ h underlying124 rfl (by kernel_rfl);simp only[Instr.loadAt,Instr.sureAddr,Sem.run_bind,Sem.run_pure,Result.andThen_ok];exact c
theorem XW(h:(0<=s/\s<=39)/\(1<=(ac.length:Int)/\(ac.length:Int)<=5))(b:∀ a∈ac,Ag a):CQ ac s=II (D5 ac s) ac.length/\CX ac s=IJ (D5 ac s) ac.length:=by
 cases ho:Ho (D5 ac s) ac.length with
 | none=>rw[(JA ho).1,(JA ho).2];exact XX h b ho
 | some v=>rw[(JB ho).1,(JB ho).2];exact XY h b ho
theorem Lw(x:Value)(ac:List Acc)(s:Int)(w:World)(h:Sac w x ac)(ht:NTab w) :
  Calls prog 157 #[x,.int .i64 s] w λe w'=>e=.returned (.tuple #[.agg (cmC (CQ ac s)),.int .i64 (CX ac s)])/\Bw w w':=by
 have a1:=h.len;obtain⟨a,i,rfl⟩:=h.shape;obtain⟨y,H⟩:∃ y:S3,y=⟨a,ac.length,i⟩:=⟨_,rfl⟩;have a2:y.n=ac.length:=by rw[H]
 rw[show(.slice a ac.length i:Value)=y.v by rw[H]]at h ⊢
 clear H;refine tIn [] func157 trivial (tR 9 [1,0] λb _ _=>?_);by_cases L:0<=s/\s<=39
 .refine tC1 1 (λF C=>Ey (r:=true) (O' L)) λ_=>tR 4 [] λa3 _ _=>?_;by_cases h2:y.n<1
  .refine tV 6 (.bool true) (λF C=>(rLt (t:=3) (m:=(y.n:Int)) (n:=1) (x:=(.tmp 14)) (y:=(.const (iv 1))) (O' (by omega)))) ?_;refine tR 14 [0,0] λa4 _ _=>tX λF C=>qE2 4 5 24 0 (b 0) #[iv 0,iv 0,iv 0,iv 0,iv 0] (iv 2) λ_=>by rw[(D9 (ac:=ac) (s:=s) (by omega)).1,(D9 (ac:=ac) (s:=s) (by omega)).2];exact⟨rfl,CgQ.af C⟩
  .refine tV 6 (.bool false) (λF C=>(rLt (t:=3) (m:=(y.n:Int)) (n:=1) (x:=(.tmp 14)) (y:=(.const (iv 1))) (H' (by omega)))) (tR 4 [] λa5 _ _=>?_);by_cases h3:5<y.n
   .refine tV 11 (.bool true) (λF C=>(rGt (t:=3) (m:=(y.n:Int)) (n:=5) (x:=(.tmp 19)) (y:=(.const (iv 5))) (O' (by omega)))) ?_;refine tR 9 [0,0] λa6 _ _=>tX λF C=>qE2 4 5 24 0 (b 0) #[iv 0,iv 0,iv 0,iv 0,iv 0] (iv 2) λ_=>by rw[(D9 (ac:=ac) (s:=s) (by omega)).1,(D9 (ac:=ac) (s:=s) (by omega)).2];exact⟨rfl,CgQ.af C⟩
   .refine tV 11 (.bool false) (λF C=>(rGt (t:=3) (m:=(y.n:Int)) (n:=5) (x:=(.tmp 19)) (y:=(.const (iv 5))) (H' (by omega)))) ?_;have N:(0<=s/\s<=39)/\(1<=(ac.length:Int)/\(ac.length:Int)<=5):=by omega
    refine tR 12 [] λa7 _ _=>Ek 41 [(0,S3.v y),(1,iv s),(4,pt (b 0) 0),(23,S3.v y),(24,iv (y.n:Int)),(25,iv 0)] [true] [⟨(b 0),.cells #[iv 0,iv 0,iv 0,iv 0,iv 0] 24,.l,false⟩] [] (λkk ee LL o=>∃ (j:Nat),kk=y.n-j/\ee=[(0,S3.v y),(1,iv s),(4,pt (b 0) 0),(23,S3.v y),(24,iv (y.n:Int)),(25,iv (j:Int))]/\LL=[⟨(b 0),.cells #[iv 0,iv 0,iv 0,iv 0,iv 0] 24,.l,false⟩]/\o=[]/\j<=ac.length/\∀ a∈ac.take j,Ag a) (y.n) ⟨0,rfl,rfl,rfl,rfl,by omega,λa u=>(by simp at u)⟩ (λF=>trivial) ?_;rintro k _ _ _ ⟨j,rfl,rfl,rfl,rfl,hj,d⟩ _ _ _ J hJ;refine tR 5 [] λa8 _ _=>?_;by_cases h4:j<y.n
    .refine tI ((decide ((j:Int)<(y.n:Int)))) true (O' (by omega)) ?_;obtain⟨A,B⟩:∃ A,ac[j]?=some A:=⟨_,E' (by omega)⟩;obtain⟨bb,K,yl,I,G,hr,P⟩:=h.spot j A B;obtain⟨z,rfl⟩:=P.s3;refine tR 5 [] λa9 _ _=>tV 0 (pt bb (K+3*j)) (λF C=>(lz I j (by omega))) (tV 1 (.agg #[iv A.p.r,iv A.p.n,S3.v z]) (λF C=>(go (a:=A) (Tz (CgQ.af C) G hr))) (tR 6 [0,0,1,0,1] λR _ _=>tC1 1 (λF C=>Jx A.p z.v A.vs _ (P.af (CgQ.af C)) (ht.af (CgQ.af C))) λ_=>tR 7 [] λS _ _=>?_));by_cases q:Ag A
     .have f:F5 ⟨A.p,A.vs⟩=0:=if_pos q;refine tI (((F5 ⟨A.p,A.vs⟩) != 0)) false (by rw[f];decide) (tR 3 [] λT _ _=>tV 0 (iv ((j:Int)+1)) (λF C=>(AX 25 (j:Int) underlying3 (by omega))) (tR 2 [] λU _ _=>tB hJ (y.n-(j+1)) (by omega) [true,false] ⟨j+1,rfl,rfl,rfl,rfl,by omega,λa u=>by rw[oF,B]at u;exact(P'.1 u).elim (d a) λg=>by rw[show a=A by simpa using g];exact q⟩ (λF=>trivial)))
     .have f:F5 ⟨A.p,A.vs⟩=5:=if_neg q;have M:=VF N λg=>q (g A (np B));refine tI (((F5 ⟨A.p,A.vs⟩) != 0)) true (by rw[f];decide) ?_;refine tR 7 [0,0] λV _ _=>tX λF C=>qE2 4 5 24 0 (b 0) #[iv 0,iv 0,iv 0,iv 0,iv 0] (iv (F5 ⟨A.p,A.vs⟩)) λ_=>by rw[f,M.1,M.2];exact⟨rfl,CgQ.af C⟩
    .refine tI ((decide ((j:Int)<(y.n:Int)))) false (H' (by omega)) ?_;rw[nf (show ac.length<=j by omega)]at d
     obtain⟨X,O⟩:∃ X,II (D5 ac s) ac.length=X:=⟨_,rfl⟩;obtain⟨E,f⟩:∃ E,IJ (D5 ac s) ac.length=E:=⟨_,rfl⟩;have Q:=λW g=>Zy y.v ac s W g (by omega) d;have D:=XW N d;rw[O,f]at D
     simp only[O,f]at Q;refine tR 5 [] λY _ _=>tC1 2 (λF C=>Q _ (h.af (CgQ.af C))) λ_=>tR 5 [0,0] λZ _ _=>tX λF C=>qE2 4 5 24 0 (b 0) #[iv X.k,iv X.c,iv X.s,iv X.n,iv X.v] (iv E) λ_=>by rw[D.1,D.2];exact⟨rfl,CgQ.af C⟩
 .refine tC1 1 (λF C=>Ey (r:=false) (H' L)) λ_=>tR 19 [0,0] λa0 _ _=>tX λF C=>qE2 4 5 24 0 (b 0) #[iv 0,iv 0,iv 0,iv 0,iv 0] (iv 2) λ_=>by rw[(D9 (ac:=ac) (s:=s) (by omega)).1,(D9 (ac:=ac) (s:=s) (by omega)).2];exact⟨rfl,CgQ.af C⟩
theorem Mf{g:Gh}{x:NX}(b:w.heap[nb]?=some (.cells (AJ i ob p x) 136))(a:j<5):w.rangeAt nb (18+3*j) [iv (p.bn.an j).p.r,iv (p.bn.an j).p.n,S3.v (x.hv j)]:=by
 rcases se a with rfl|rfl|rfl|rfl|rfl<;>exact Rn b _ _ rfl
theorem QP{x:NX}(h:NodeAt g w i nb ob x p):Sac w (.slice (some ⟨nb,18,none⟩) 5 5) p.bn.hZ:=by
 refine⟨⟨some ⟨nb,18,none⟩,5,rfl,.inr ⟨nb,18,rfl,rl h.row,λj A a=>?_⟩⟩,by show 5<=3518437208780;decide⟩;have b:j<5:=by have:=(V'.1 a).1;exact this
 refine⟨S3.v (x.hv j),?_⟩;have c:=Mf (g:=g) h.row b;have d:=(h.an j b).s;rcases se b with rfl|rfl|rfl|rfl|rfl<;>(simp[Rnd.hZ]at a;subst a;exact⟨c,d⟩)
theorem XS(h:40<=s):CX ac s≠0:=by rw[(D9 (by omega)).2];decide
theorem XV{n:Nat}(h:CX ac (n:Int)=0):n<=39:=by
 rcases nU 39 n with h2|h2
 .exact absurd h (XS (by omega))
 .exact h2
theorem AR.at{L:List Sh}(h:AR L W)(k b:Nat)(o:Obj)(t:Tg)(a:L[k]?=some ⟨b,o,t,false⟩):W.heap[b]?=some o:=h _ (np a)
theorem Gc(h:NS i nb ob g w p ls ts){w0:World}(hB:Base w0 g w)(hT:Tabs w0)(hb:p.ae.length<=40) :
  Calls prog 126 #[pt nb 0] w (NP i nb ob g w (.tuple #[]) p.sf ls ts):=by
 obtain⟨x,lt,tl,hN,hO,hg⟩:=h;refine gI (fn:=f126) (TN i) g func126 hg (qN hN (qO hO (qR [] 1 [] λs1 g1 w1 c1=>Cd 34 [(0,pt nb 0)] [false,false] [] (λk O Q e L=>∃ l:List Cmd,e=[(0,pt nb 0)]/\L=[]/\NS i nb ob O Q { p with ae:=l } ls ts/\FG k p.bn l=FG 41 p.bn p.ae/\41<=l.length+k/\l.length<=41/\Cg w.heap.size (TN i) g w O Q) (by kernel_rfl) (by kernel_rfl) (by kernel_rfl) (by kernel_rfl) 41 (λK=>?_) ?_)))
 .have C2:=c1;exact⟨p.ae,rfl,rfl,(nsC hN hO C2 K),rfl,by omega,by omega,(c1.nil (TN i))⟩
 .rintro k gr wr _ zr _ ⟨l,rfl,rfl,hM,hI,hk1,hk2,hC⟩ J hJ;obtain⟨b,H,M,a,u,a7⟩:=hM;refine qN a (qO u ?_);have q:b.ae.n=l.length:=a.ae.num;refine qR [] 15 [19,0,2,4,6,8,10,12,14,16,18,20,0,22] λs3 g3 w3 y=>Ea 34 (λO Q e L=>∃ (bA:Nat),e=[(0,pt nb 0),(2,pt bA 0),(3,iv (CX p.bn.hZ (b.ae.n:Int)))]/\L=[⟨nb,.cells (AJ i ob ({ p with ae:=l }) b) 136,.n 0 i,false⟩,⟨ob,.cells #[S3.v H,S3.v M] 113,.n 50 0,false⟩,⟨bA,.cells #[iv (CQ p.bn.hZ (b.ae.n:Int)).k,iv (CQ p.bn.hZ (b.ae.n:Int)).c,iv (CQ p.bn.hZ (b.ae.n:Int)).s,iv (CQ p.bn.hZ (b.ae.n:Int)).n,iv (CQ p.bn.hZ (b.ae.n:Int)).v] 24,.l,false⟩]/\Cg w.heap.size [] gr wr O Q) (by kernel_rfl) ?_ ?_
  .intro J hJ;refine DT 12 16 (by kernel_rfl) ?_ ?_
   .have hS6:=QP (a.ch y);have W:=hB.ch (((hC.n y))) (Bx i);refine qC 12 (Lw _ _ (b.ae.n:Int) w3 hS6 (W.tn hT)) ?_;rintro e' w7 ⟨rfl,Z⟩;refine⟨_,rfl,Z,?_⟩;have c7:=Cg.eb (B:=w.heap.size) (T:=[]) (g:=g3) Z;refine qR [] 7 [26,28,30,33,1,0,35,2,0,36] λs8 g8 w8 c8=>qB [true,true,true] λz N K=>hJ _ _ _ z _ ⟨(s8 0),rfl,rfl,((y.trans c7).trans c8)⟩ K
   .refine qR [] 1 [1,0] λs9 g9 w9 V=>?_;have G:=QP (a.ch (y.trans V));have F:=hB.ch (hC.trans ((y.trans V).nil _)) (Bx i);refine qC 12 (Lw _ _ (b.ae.n:Int) w9 G (F.tn hT)) ?_;rintro e' b2 ⟨rfl,A⟩;refine⟨_,rfl,A,?_⟩;have S:=Cg.eb (B:=w.heap.size) (T:=[]) (g:=g9) A;refine qR [] 6 [26,28,30,35,2,0,36] λa9 a2 b3 U=>qB [true,true,true] λz N K=>hJ _ _ _ z _ ⟨(s9 0),rfl,rfl,(((y.trans V).trans S).trans U)⟩ K
  .rintro g4 w4 _ z4 _ ⟨bA,rfl,rfl,hc⟩;refine qR [] 6 [] λb0 a3 b4 o=>?_;by_cases P:CX p.bn.hZ (b.ae.n:Int)≠0
   .refine qI (((CX p.bn.hZ (b.ae.n:Int)) != 0)) true (by simpa using P) (qE (.tuple #[]) λK=>?_);have hE:p.sf={ p with ae:=l }:=by unfold Nod.sf;rw[<- hI];cases k with|zero=>rfl|succ k=>rw[FG,if_neg (by rw[<- q];exact P)]
    rw[hE];exact⟨_,rfl,(nsC a u (hc.n o) K),((hC.n hc).n o)⟩
   .refine qI (((CX p.bn.hZ (b.ae.n:Int)) != 0)) false (by simpa using P) ?_;have E:CX p.bn.hZ (b.ae.n:Int)=0:=by simpa using P
    have a0:l.length<=39:=by rw[<- q];exact XV E
    obtain⟨k,rfl⟩:∃ k1,k=k1+1:=⟨k-1,by omega⟩;refine qR [] 10 [12,0,2,4,6,8,10,0,12,2,15,0,0] λI a4 b5 r=>KD 8 (x:=b.ae) 45 45 24 5 40 (.agg #[iv 0,iv 0,iv 0,iv 0,iv 0]) ⟨(I 0),0,none⟩ 1 1 [iv (CQ p.bn.hZ (b.ae.n:Int)).k,iv (CQ p.bn.hZ (b.ae.n:Int)).c,iv (CQ p.bn.hZ (b.ae.n:Int)).s,iv (CQ p.bn.hZ (b.ae.n:Int)).n,iv (CQ p.bn.hZ (b.ae.n:Int)).v] (a.ae.ch ((hc.trans o).trans r) (by simp) (by simp)) (by kernel_rfl) (by kernel_rfl) (by kernel_rfl) underlying45 (by kernel_rfl) (by kernel_rfl) (by decide) (by decide) rfl (by simp[Value.oneCell']) (λK=>Dz K 3 (I 0) [iv (CQ p.bn.hZ (b.ae.n:Int)).k,iv (CQ p.bn.hZ (b.ae.n:Int)).c,iv (CQ p.bn.hZ (b.ae.n:Int)).s,iv (CQ p.bn.hZ (b.ae.n:Int)).n,iv (CQ p.bn.hZ (b.ae.n:Int)).v] 24 .z true (by kernel_rfl)) (by unfold maxLen;omega) (by omega) ?_;intro Y a5 b6 R a8 D a1;have C:=D w.heap.size [.n 3 i] (D'.2 rfl);refine qR [.n 0 i] 6 [18,20,22,25,0,1] λb1 a6 b8 t=>EP J 34 [(0,pt nb 0)] [false,false,false,false] [] (by kernel_rfl) (by kernel_rfl) (by kernel_rfl) (by kernel_rfl) (by kernel_rfl) (λz N K=>?_);have X:CQ p.bn.hZ (b.ae.n:Int)=CQ p.bn.hZ (l.length:Int):=by rw[q]
    refine hJ k _ _ _ z _ (by omega) ⟨l++[CQ p.bn.hZ (l.length:Int)],rfl,rfl,?_,?_,by simp;omega,by simp;omega,(((((hC.n hc).n o).n r).trans (C.mono (by simp[TN]))).trans (t.mono (by simp[TN])))⟩ K
    skip
    have d:=((((hc.nil ([.n 3 i,.n 0 i]:List Tg)).n o).n r).m C).m t;have j:Tg.z∉([.n 3 i,.n 0 i]:List Tg):=by simp
    .rw[<- X];exact⟨{ b with ae:=Y },H,M,N.nd 0 (a.tape.ch d j) (a.mv.ch d j) (B9 a.an d j) (Ci a.bu d j (by simp)) (a.fa.ch d) (by rw[Cu];exact R.ch t) (a.av.ch d) (a.bN.ch d) a.sS,u.ch d j (by simp<;>omega),N.new⟩
    .rw[<- hI,FG,if_pos (by rw[<- q];exact E)]
theorem Oa(h:NS i nb ob g w p ls ts){w0:World}(hB:Base w0 g w)(hT:Tabs w0)(j:Nat)(hj:j<5)(v:Vt)(hb:p.ae.length<=40) :
  Calls prog 129 #[pt nb 0,iv (j:Int),.agg #[iv v.bt,iv v.b.r,iv v.b.n,iv v.w.k,iv v.w.c,iv v.w.s,iv v.w.n,iv v.w.v]] w (NP i nb ob g w (.tuple #[]) (p.count j v) ls ts):=by
 obtain⟨x,lt,tl,d,hO,hg⟩:=h;refine gI (fn:=f129) (TN i) g func129 hg (qN d (qO hO (qR [] 15 [0,0,9,0,2,2,4,6,8,10,12,14,0] λs1 g1 w1 C=>?_)));by_cases S:v.b≠p.bn.hU
 .refine qT 8 (.bool true) (λ_=>(IU (x:=(.tmp 9)) (y:=(.tmp 15)) v.b p.bn.hU S)) (qR [] 2 [] λs2 g2 w2 c2=>qE (.tuple #[]) λK=>?_);rw[show p.count j v=p from if_pos S];exact⟨_,rfl,(nsC d hO (C.n c2) K),((C.nil (TN i)).n c2)⟩
 .have h10:v.b=p.bn.hU:=by simpa using S
  refine qT 8 (.bool false) (λ_=>(IT (x:=(.tmp 9)) (y:=(.tmp 15)) v.b p.bn.hU h10)) (qR [] 11 [16,0,2,4,6,8,10] λs4 g4 w4 G=>?_);refine Q5 6 (pt nb (18+3*j)) false (λW hW=>by rcases se hj with rfl|rfl|rfl|rfl|rfl<;>kernel_rfl) (by kernel_rfl) ?_;refine qU 7 (.agg #[iv (p.bn.an j).p.r,iv (p.bn.an j).p.n,S3.v (x.hv j)]) (λW hW=>(go (Mf (g:=g) (AR.at (hW rfl) 0 nb (.cells (AJ i ob p x) 136) (.n 0 i) (by kernel_rfl)) hj))) (qR [] 1 [16,2] λs6 g6 w6 H=>Ea 42 (λg' w' e L=>∃ (ys:S3) (bA:Nat),e=[(0,pt nb 0),(1,iv (j:Int)),(6,pt bA 0),(7,iv (Bb (p.bn.an j) v))]/\L=[⟨nb,.cells (AJ i ob p x) 136,.n 0 i,false⟩,⟨ob,.cells #[S3.v lt,S3.v tl] 113,.n 50 0,false⟩,⟨(s1 0),.cells #[iv v.bt,iv v.b.r,iv v.b.n,iv v.w.k,iv v.w.c,iv v.w.s,iv v.w.n,iv v.w.v] 181,.z,false⟩,⟨bA,.cells #[iv (BI (p.bn.an j) v).r,iv (BI (p.bn.an j) v).n,S3.v ys] 124,.l,false⟩]/\FSv g' w' ys (Br (p.bn.an j) v)/\Cg w.heap.size [] g w g' w') (by kernel_rfl) ?_ ?_)
  .intro J hJ;refine DT 9 13 (by kernel_rfl) ?_ ?_
   .refine Af λa5=>?_;have b5:=((d.an j hj).ch ((C.trans G).trans H) (by simp)).s;have b3:=hB.ch ((C.trans G).trans H) (by simp);have b4:∀ z,w6.heap.size<=z->g6.t z=.z:=λz hz=>(a5.new z hz).1;refine qC 9 (Ct (p.bn.an j).p _ (p.bn.an j).vs v w6 b5 (b3.tn hT)) ?_;rintro e' e3 ⟨f3,rfl,a0,c5,M⟩;refine⟨_,rfl,M,?_⟩;have a7:=Cg.eb (B:=w.heap.size) (T:=[]) (g:=g6) M;obtain⟨a3,rfl,b6,E⟩:=Eq a0 b4 (by omega);refine qR [] 7 [20,22,24,27,1,0,29,3,0,30] λb8 d0 e4 O=>qB [true,true,true,true] λz K0 K=>hJ _ _ _ z _ ⟨a3,(b8 0),rfl,rfl,(E.ch O),((((C.trans G).trans H).trans a7).trans O)⟩ K
   .refine qR [] 1 [1,0] λb9 R a2 D=>Af λI=>?_;have Z:=((d.an j hj).ch (((C.trans G).trans H).trans D) (by simp)).s;have U:=hB.ch (((C.trans G).trans H).trans D) (by simp);have V:∀ z,a2.heap.size<=z->R.t z=.z:=λz hz=>(I.new z hz).1;refine qC 9 (Ct (p.bn.an j).p _ (p.bn.an j).vs v a2 Z (U.tn hT)) ?_;rintro e' e5 ⟨f4,rfl,a1,c7,N⟩;refine⟨_,rfl,N,?_⟩;have a8:=Cg.eb (B:=w.heap.size) (T:=[]) (g:=R) N;obtain⟨a4,rfl,b7,F⟩:=Eq a1 V (by omega);refine qR [] 6 [20,22,24,29,3,0,30] λd7 d1 e6 P=>qB [true,true,true,true] λz K0 K=>hJ _ _ _ z _ ⟨a4,(b9 0),rfl,rfl,(F.ch P),(((((C.trans G).trans H).trans D).trans a8).trans P)⟩ K
  .rintro g7 w7 _ z7 _ ⟨ys,bA,rfl,rfl,hys,hc⟩;refine qR [] 6 [] λd8 d2 e7 m=>?_;by_cases h2:Bb (p.bn.an j) v≠0
   .refine qI (((Bb (p.bn.an j) v) != 0)) true (by simpa using h2) (qE (.tuple #[]) λK=>?_);rw[show p.count j v=p from by unfold Nod.count;rw[if_neg S,if_pos h2]];exact⟨_,rfl,(nsC d hO (hc.n m) K),((hc.nil (TN i)).n m)⟩
   .refine qI (((Bb (p.bn.an j) v) != 0)) false (by simpa using h2) (qR [] 10 [8,0,2,4,3,6,8,10,12] λd9 b1 c0 q=>Ea 42 (λg' w' e L=>e=[(0,pt nb 0)]/\L=[⟨nb,.cells (AJ i ob ({ p with bn:={ p.bn with an:=upN p.bn.an j ⟨BI (p.bn.an j) v,Br (p.bn.an j) v⟩ } }) ({ x with hv:=upN x.hv j ys })) 136,.n 0 i,false⟩,⟨ob,.cells #[S3.v lt,S3.v tl] 113,.n 50 0,false⟩,⟨(s1 0),.cells #[iv v.bt,iv v.b.r,iv v.b.n,iv v.w.k,iv v.w.c,iv v.w.s,iv v.w.n,iv v.w.v] 181,.z,false⟩,⟨bA,.cells #[iv (BI (p.bn.an j) v).r,iv (BI (p.bn.an j) v).n,S3.v ys] 124,.l,false⟩]/\True/\Cg w.heap.size ([.n 0 i]:List Tg) b1 c0 g' w') (by kernel_rfl) ?_ ?_)
    .intro J hJ;rcases se hj with rfl|rfl|rfl|rfl|rfl <;>
     (refine qR [.n 0 i] 3 [14,17,0,1] λe0 d4 e9 a9=>?_;exact qB [true,true,true,true] λz K0 K=>hJ _ _ _ z _ ⟨rfl,rfl,trivial,a9⟩ K)
    rintro d3 e8 _ f5 _ ⟨rfl,rfl,_,u⟩;refine qR [] 2 [] λe1 b2 c3 A=>?_;rw[show p.count j v=Nod.sf { p with bn:={ p.bn with an:=upN p.bn.an j ⟨BI (p.bn.an j) v,Br (p.bn.an j) v⟩ } }from by unfold Nod.count;rw[if_neg S,if_neg h2]];refine Af λK=>?_;have a:=((((hc.nil ([.n 0 i]:List Tg)).n m).n q).trans (u)).n A;have o:Tg.z∉([.n 0 i]:List Tg):=by simp
    have a6:NS i nb ob b2 c3 ({ p with bn:={ p.bn with an:=upN p.bn.an j ⟨BI (p.bn.an j) v,Br (p.bn.an j) v⟩ } }) ls ts:=⟨{ x with hv:=upN x.hv j ys },lt,tl,K.nd 0 (d.tape.ch a o) (d.mv.ch a o) (λk hk=>(by show FSv _ _ (upN x.hv j ys k) (upN p.bn.an j ⟨BI (p.bn.an j) v,Br (p.bn.an j) v⟩ k).vs;unfold upN;split;exact((((hys.ch m).ch q).ch u).ch A);exact(d.an k hk).ch a o)) (Ci d.bu a o (by simp)) (d.fa.ch a) (d.ae.ch a) (d.av.ch a) (d.bN.ch a) d.sS,hO.ch a o (by simp<;>omega),K.new⟩;refine qS0 1 [false,false,true,true] (Gc a6 (hB.ch (((((hc.nil (TN i)).n m).n q).trans (u.mono (by simp[TN]))).n A) (Bx i)) hT hb) λd5 f0 f2 c8 c9 X Y b0=>qR [] 1 [] λe2 d6 f1 Q=>qF X Y Q (((((((hc.nil (TN i)).n m).n q).trans (u.mono (by simp[TN]))).n A).trans (b0)).n Q)
theorem PL(h:NS i nb ob g w p ls ts){o:World}(t:Base o g w)(u:Tabs o)(e:Nat)(l:Let)(A:CP g w e l)(D:l.src<5)(v:p.ae.length<=40) :
  Calls prog 85 #[pt nb 0,pt e 0] w (NP i nb ob g w (.tuple #[]) (p.count l.src l.cl) ls ts):=by
 obtain⟨x,lt,N,k,m,y⟩:=h;refine gI (fn:=f85) (TN i) g func85 y (qN k (qO m ?_));obtain⟨G,H,a,B,C⟩:=A;refine Cq ⟨e,.cells (FF l G H) 183,.z,false⟩ (λ_=>⟨a.r,a.z,λh=>(by cases h),λh=>absurd rfl h⟩) (by kernel_rfl) ?_;refine qR [] 10 [9,0,2,4,6,8,2,10,12,14,16,2] λL I O b=>qS 9 [false,false,true] k m b (λq=>Oa q (t.ch (b.nil (TN i)) (Bx i)) u l.src D l.cl v) λJ P R E F c d s=>qR [] 1 [] λM K Q j=>qF c d j (((b.nil (TN i)).trans (s)).n j)
theorem Ha(q:List Cmd)(c:Cmd)(l:List Cmd):Hp q (c::l)=Hp (if q.length<40/\c∉q then q++[c]else q) l:=rfl
theorem DS{l:List Cmd}{c:Cmd}(h:l[j]?=some c):l.drop j=c::l.drop (j+1):=by
 obtain⟨a,b⟩:=V'.1 h;rw[<- b];exact n7 a
theorem dg(q l:List Cmd)(h:q.length<=40):(Hp q l).length<=40:=by
 induction l generalizing q with
 | nil=>exact h
 | cons c l ih =>
  rw[Ha];refine ih _ ?_;split
  .rw[G'];show _+1<=_;omega
  .exact h
theorem Kd(h:NS i nb ob g w p ls ts)(a:List Cmd)(I:S3)(hw:Rc g w I a)(hb:a.length<100000000)(hq:p.bn.fa.length<=40) :
  Calls prog 131 #[pt nb 0,I.v] w (NP i nb ob g w (.tuple #[]) (p.dT a) ls ts):=by
 have c3:=h;obtain⟨x,lt,tl,hN,hO,hg⟩:=h;have d1:=hw.len;refine gI (fn:=f131) (TN i) g func131 hg (qN hN (qO hO (qR [] 4 [] λs1 g1 w1 R=>Af λK=>?_)));have N3:NS i nb ob g1 w1 p ls ts:=(nsC hN hO R K);refine qC 1 (Ou N3) ?_;rintro e' w4 ⟨rfl,b4⟩;refine⟨_,rfl,b4,?_⟩;have c4:=Cg.eb (B:=w.heap.size) (T:=[]) (g:=g1) b4;refine qR [] 2 [] λs5 g5 w5 c5=>?_;by_cases h1:p.leads=true
 .refine qI ((!p.leads)) false (by simpa using h1) ?_;rw[show p.dT a={ p with bn:={ p.bn with fa:=Hp p.bn.fa a } }from if_pos h1];refine qR [] 8 [] λs6 g6 w6 c6=>Cd 49 [(0,pt nb 0),(9,S3.v I),(10,iv (I.n:Int)),(11,iv 0)] [false,false] [] (λk g' w' e L=>∃ (j:Nat) (q:List Cmd),k=a.length-j/\j<=a.length/\e=[(0,pt nb 0),(9,S3.v I),(10,iv (I.n:Int)),(11,iv (j:Int))]/\L=[]/\NS i nb ob g' w' { p with bn:={ p.bn with fa:=q } } ls ts/\Hp q (a.drop j)=Hp p.bn.fa a/\q.length<=40/\Cg w.heap.size (TN i) g w g' w') (by kernel_rfl) (by kernel_rfl) (by kernel_rfl) (by kernel_rfl) a.length (λK=>?_) ?_
  .have C7:=((R.n c4).n c5).n c6;exact⟨0,p.bn.fa,rfl,by omega,rfl,rfl,(nsC hN hO C7 K),rfl,hq,((((R.nil (TN i)).n c4).n c5).n c6)⟩
  .rintro k gr wr _ zr _ ⟨j,q,rfl,hj,rfl,rfl,hM,hI,hq1,hC⟩ J hJ;obtain⟨xr,a6,a7,b,F,c7⟩:=hM;refine qN b (qO F ?_);have d0:xr.fa.n=q.length:=b.fa.num;refine qR [] 5 [] λs8 g8 w8 E=>?_;by_cases h2:j<a.length
   .refine qI ((decide ((j:Int)<(I.n:Int)))) true (O' (by omega)) ?_;obtain⟨c,H⟩:∃ c,a[j]?=some c:=⟨_,E' h2⟩;have a4:=hw.ch hC (Bx i);obtain⟨bx,ox,a0⟩:=hw.addr h2;refine qR [] 5 [] λs9 g9 w9 G=>qV 0 (pt bx (ox+5*j)) (Ms a0 j (by omega)) ?_;have a5:=a4.ch (E.trans G);refine qV 1 (.agg #[iv c.k,iv c.c,iv c.s,iv c.n,iv c.v]) (TG c λq_ u hu=>a5.cellAt a0 H hu) (qR [] 12 [0,0,2,0,19,0,2,4,6,8,10,0,12] λd3 b0 e3 o=>?_);by_cases h3:(xr.fa.n:Int)<40
    .refine qT 7 (.bool true) (λ_=>(rLt (t:=3) (x:=(.tmp 21)) (y:=(.const (iv 40))) (O' h3))) (qR [] 8 [16,18,20,22,24,26,28,0,30,2] λd4 a3 e4 r=>qC 16 (F8 (l:=q) (b.fa.ch (((E.trans G).trans o).trans r) (by simp) (by simp)).rd (by omega) c) ?_);rintro e' e5 ⟨rfl,Q⟩;refine⟨_,rfl,Q,?_⟩;have C:=Cg.eb (B:=w.heap.size) (T:=[]) (g:=a3) Q;refine qR [] 3 [34,36] λd5 b1 e6 D=>?_;by_cases h4:c∈q
     .refine qI ((!(decide (c∈q)))) false (by simpa using h4) (qR [] 3 [] λd6 b2 e7 S=>qV 0 (iv ((j:Int)+1)) (AX 11 (j:Int) underlying3 (by omega)) (qR [] 2 [] λd7 b3 e8 U=>qB [false,false,false] λz P K=>hJ (a.length-(j+1)) _ _ _ z _ (by omega) ⟨j+1,q,rfl,by omega,rfl,rfl,?_,?_,by omega,((((((((hC.n E).n G).n o).n r).n C).n D).n S).n U)⟩ K))
      .exact(nsC b F (((((((E.n G).n o).n r).n C).n D).n S).n U) P)
      .rw[<- hI,DS H,Ha,if_neg (λh=>h.2 h4)]
     .refine qI ((!(decide (c∈q)))) true (by simpa using h4) (qR [] 10 [14,0,2,4,6,8,10,12,0,14,2,17,0,0] λa1 b5 e9 M=>KD 9 (x:=xr.fa) 45 45 24 5 40 (.agg #[iv 0,iv 0,iv 0,iv 0,iv 0]) ⟨(a1 0),0,none⟩ 1 1 [iv c.k,iv c.c,iv c.s,iv c.n,iv c.v] (b.fa.ch ((((((E.trans G).trans o).trans r).trans C).trans D).trans M) (by simp) (by simp)) (by kernel_rfl) (by kernel_rfl) (by kernel_rfl) underlying45 (by kernel_rfl) (by kernel_rfl) (by decide) (by decide) rfl (by simp[Value.oneCell']) (λK=>Dz K 3 (a1 0) [iv c.k,iv c.c,iv c.s,iv c.n,iv c.v] 24 .z true (by kernel_rfl)) (by unfold maxLen;omega) (by omega) ?_);intro a8 b6 f0 a2 d2 Z a9;have V:=Z w.heap.size [.n 2 i] (D'.2 rfl);refine qR [.n 0 i] 8 [20,22,24,26,29,0,1] λd8 b7 f1 N=>qV 0 (iv ((j:Int)+1)) (AX 11 (j:Int) underlying3 (by omega)) (qR [] 2 [] λd9 b8 f2 O=>qB [false,false,false,false] λz P K=>hJ (a.length-(j+1)) _ _ _ z _ (by omega) ⟨j+1,(q++[c]),rfl,by omega,rfl,rfl,?_,?_,by simp;omega,((((((((((hC.n E).n G).n o).n r).n C).n D).n M).trans (V.mono (by simp[TN]))).trans (N.mono (by simp[TN]))).n O)⟩ K);have d:=(((((((((E.nil ([.n 2 i,.n 0 i]:List Tg)).n G).n o).n r).n C).n D).n M).m V).m N).n O;have A:Tg.z∉([.n 2 i,.n 0 i]:List Tg):=by simp
      .exact⟨{ xr with fa:=a8 },a6,a7,P.nd 0 (b.tape.ch d A) (b.mv.ch d A) (B9 b.an d A) (Ci b.bu d A (by simp)) (by rw[Cu];exact((a2.ch N).ch O)) (b.ae.ch d) (b.av.ch d) (b.bN.ch d) b.sS,F.ch d A (by simp<;>omega),P.new⟩
      .rw[<- hI,DS H,Ha,if_pos ⟨by omega,h4⟩]
    .refine qT 7 (.bool false) (λ_=>(rLt (t:=3) (x:=(.tmp 21)) (y:=(.const (iv 40))) (H' h3))) (qR [] 16 [16,18,20,22,24,26,28,30,32,34,36] λe0 b9 f3 W=>qV 0 (iv ((j:Int)+1)) (AX 11 (j:Int) underlying3 (by omega)) (qR [] 2 [] λe1 c0 f4 X=>qB [false,false,false] λz P K=>hJ (a.length-(j+1)) _ _ _ z _ (by omega) ⟨j+1,q,rfl,by omega,rfl,rfl,?_,?_,by omega,(((((hC.n E).n G).n o).n W).n X)⟩ K))
     .exact(nsC b F ((((E.n G).n o).n W).n X) P)
     .rw[<- hI,DS H,Ha,if_neg (by omega)]
   .refine qI ((decide ((j:Int)<(I.n:Int)))) false (H' (by omega)) (qR [] 1 [] λe2 c2 f5 Y=>?_);obtain rfl:j=a.length:=by omega
    rw[o8]at hI
    refine qE (.tuple #[]) λK=>?_;rw[<- hI];exact⟨_,rfl,(nsC b F (E.n Y) K),((hC.n E).n Y)⟩
 .refine qI ((!p.leads)) true (by simpa using h1) (qE (.tuple #[]) λK=>?_);rw[show p.dT a=p from if_neg h1];exact⟨_,rfl,(nsC hN hO ((R.n c4).n c5) K),(((R.nil (TN i)).n c4).n c5)⟩
theorem Fp(h:NS i nb ob g w p ls ts){b:Bool}(a:p.leads=b) :
  Calls prog 125 #[pt nb 0] w λe w'=>e=.returned (.bool b)/\Bw w w':=by subst a;exact Ou h
theorem Y1(p:Nod)(l:List Cmd):(p.dT l).bu=p.bu:=by unfold Nod.dT;split<;>rfl
theorem MN(h:NS i nb ob g w p ls ts)(k:Nat)(l:Let)(F:CP g w k l)(E:l.kind=6)(O:p.bu.length<100000000)(v:l.gC.length<100000000)(R:p.bn.fa.length<=40) :
  Calls prog 87 #[pt nb 0,pt k 0] w (NP i nb ob g w (.tuple #[]) (p.take l) ls ts):=by
 obtain⟨x,lt,tl,C,D,P⟩:=h;refine gI (fn:=f87) (TN i) g func87 P (qN C (qO D ?_));have s:=F;obtain⟨X,G,j,Q,y⟩:=F;refine Cq ⟨k,.cells (FF l X G) 183,.z,false⟩ (λ_=>⟨j.r,j.z,λh=>(by cases h),λh=>absurd rfl h⟩) (by kernel_rfl) ?_;refine qR [] 12 [0,0,0,0,5,0,3,2,4,4,6,8,2] λm g1 w1 b=>qS 5 [false,false,true,true,true] C D b (λI=>Kd I l.gC G (y.ch (b.nil (TN i)) (Bx i)) v R) λg2 w2 H S V a e o=>?_;have hn:=a.ae.num;refine qR [] 15 [11,0,2,2,4,6,0,8,1,10,12,14,16,3,18,20] λs4 g4 w4 d=>?_;by_cases B:l.bt<(p.dT l.gC).ae.length
 .refine qI ((decide ((l.bt:Int)<(H.ae.n:Int)))) true (O' (by omega)) (qR [] 3 [1] λs5 N Z q=>?_);rw[show p.take l=(p.dT l.gC).wait (.tell l.src l.bt)from by unfold Nod.take;rw[E];exact if_pos B];refine Af λK=>?_;obtain⟨z1,z2⟩:=K.sI 1 (m 0) (.cells #[pt nb 0] 116) false (by kernel_rfl);obtain⟨z3,z4⟩:=K.sI 2 (m 1) (.cells #[pt k 0] 184) false (by kernel_rfl);have J:NS i nb ob N Z (p.dT l.gC) ls ts:=(nsC a e (d.n q) K);refine qS0 2 [true,true,true,false,false] (AY J (by rw[Y1];exact O) _ _ (.tell l.src l.bt) ⟨(m 0),(m 1),k,l,rfl,⟨z1,z2⟩,⟨z3,z4⟩,s.ch ((((b.nil (TN i)).trans (o)).n d).n q) (Bx i),rfl,rfl⟩) λg6 w6 x6 T W t u L=>qR [] 1 [] λs8 g8 w8 A=>qF t u A ((((((b.nil (TN i)).trans (o)).n d).n q).trans (L)).n A)
 .refine qI ((decide ((l.bt:Int)<(H.ae.n:Int)))) false (H' (by omega)) (qR [] 1 [] λU M Y c=>qE (.tuple #[]) λK=>?_);rw[show p.take l=(p.dT l.gC)from by unfold Nod.take;rw[E];exact if_neg B];exact⟨_,rfl,(nsC a e (d.n c) K),((((b.nil (TN i)).trans (o)).n d).n c)⟩
theorem KP(h:NS i nb ob g w p ls ts){w0:World}(hB:Base w0 g w)(hT:Tabs w0)(M:Nat)(l:Let)(hl:CP g w M l)(Z:l.kind=1)(hs:l.src<5)(hb:(p.lr 0 l.gC).ae.length<=40)(b2:l.gC.length<=40)(Y:(p.bn.an l.src).vs.length<100000000) :
  Calls prog 82 #[pt nb 0,pt M 0] w (NP i nb ob g w (.tuple #[]) (p.take l) ls ts):=by
 obtain⟨I,src,q,b,cl,a,c,gC⟩:=l;simp only at Z hs hb b2 Y;obtain⟨x,lt,tl,hN,hO,hg⟩:=h;refine gI (fn:=f82) (TN i) g func82 hg (qN hN (qO hO ?_));obtain⟨vs,wh,a0,b3,a1⟩:=hl;obtain⟨wa,wn,wc⟩:=wh;obtain rfl:wn=gC.length:=a1.len;have d8:p.ae.length<=40:=mS (by unfold Nod.lr;rw[G'];omega) hb;refine Cq ⟨M,.cells (FF (Let.mk I src q b cl a c gC) vs (S3.mk wa gC.length wc)) 183,.z,false⟩ (λ_=>⟨a0.r,a0.z,λh=>(by cases h),λh=>absurd rfl h⟩) (by kernel_rfl) ?_;refine qR [] 7 [2] λs1 g1 w1 A=>qS 5 [false,false,true] hN hO A (λN2=>Ov N2 0 gC (S3.mk wa gC.length wc) (a1.ch (A.nil (TN i)) (Bx i)) (by omega) (by omega) (by omega)) λg2 w2 x2 b4 b5 s t E=>?_;by_cases h1:(p.lr 0 gC).leads=false
 .refine qR [] 5 [29,0] λs4 g4 w4 c4=>Af λK=>?_;have N6:NS i nb ob g4 w4 (p.lr 0 gC) ls ts:=(nsC s t c4 K);refine qC 1 (Fp N6 h1) ?_;rintro e' w7 ⟨rfl,b7⟩;refine⟨_,rfl,b7,?_⟩;have c7:=Cg.eb (B:=w.heap.size) (T:=[]) (g:=g4) b7;refine qR [] 29 [4,6,8,10,12,14,16,18,20,22,24,26,28,30,32,34,36,38,40,42,44,46,48,50,52,54,56] λs8 g8 w8 c8=>qE (.tuple #[]) λK=>?_;rw[show p.take (Let.mk I src q b cl a c gC)=(p.lr 0 gC)from by unfold Nod.take;rw[Z];exact if_pos (.inl h1)];exact⟨_,rfl,(nsC s t ((c4.n c7).n c8) K),(((((A.nil (TN i)).trans (E)).n c4).n c7).n c8)⟩
 .have h10:(p.lr 0 gC).leads=true:=by simpa using h1
  refine qR [] 5 [29,0] λd9 S b6 d=>Af λK=>?_;have a3:NS i nb ob S b6 (p.lr 0 gC) ls ts:=(nsC s t d K);refine qC 1 (Fp a3 h10) ?_;rintro e' e9 ⟨rfl,O⟩;refine⟨_,rfl,O,?_⟩;have j:=Cg.eb (B:=w.heap.size) (T:=[]) (g:=S) O;refine qR [] 12 [4,6,8,10,12,14,0,16,18,20,22,24,26,1] λe0 c6 f0 k=>?_;by_cases h2:b≠(p.lr 0 gC).bn.hU
  .refine qT 14 (.bool true) (λ_=>(IU (x:=(.tmp 17)) (y:=(.tmp 23)) b (p.lr 0 gC).bn.hU h2)) (qR [] 16 [30,32,34,36,38,40,42,44,46,48,50,52,54,56] λe1 c9 f1 P=>qE (.tuple #[]) λK=>?_);rw[show p.take (Let.mk I src q b cl a c gC)=(p.lr 0 gC)from by unfold Nod.take;rw[Z];exact if_pos (.inr (.inl h2))];exact⟨_,rfl,(nsC s t (((d.n j).n k).n P) K),((((((A.nil (TN i)).trans (E)).n d).n j).n k).n P)⟩
  .have h20:b=(p.lr 0 gC).bn.hU:=by simpa using h2
   refine qT 14 (.bool false) (λ_=>(IT (x:=(.tmp 17)) (y:=(.tmp 23)) b (p.lr 0 gC).bn.hU h20)) (qR [] 11 [30,32,34,36,38,40,42,0,44,46,48,50] λe2 a9 b8 m=>Ea 69 (λg' w' e L=>e=[(0,pt nb 0),(1,pt M 0),(38,.bool ((p.lr 0 gC).bn.rN src))]/\L=[⟨M,.cells (FF (Let.mk I src q b cl a c gC) vs (S3.mk wa gC.length wc)) 183,.z,false⟩,⟨nb,.cells (AJ i ob (p.lr 0 gC) x2) 136,.n 0 i,false⟩,⟨ob,.cells #[S3.v b4,S3.v b5] 113,.n 50 0,false⟩]/\True/\Cg w.heap.size ([]:List Tg) a9 b8 g' w') (by kernel_rfl) ?_ ?_)
   .intro J hJ;rcases se hs with rfl|rfl|rfl|rfl|rfl <;>
    (refine qR [] 4 [52,54,1,56] λe3 d1 f3 a6=>?_;exact qB [true,true,true] λz K0 K=>hJ _ _ _ z _ ⟨rfl,rfl,trivial,(a6.nil ([]:List Tg))⟩ K)
   rintro d0 f2 _ g3 _ ⟨rfl,rfl,_,o⟩;by_cases h3:(p.lr 0 gC).bn.rN src=true
   .refine qI (((p.lr 0 gC).bn.rN src)) true h3 (qE (.tuple #[]) λK=>?_);rw[show p.take (Let.mk I src q b cl a c gC)=(p.lr 0 gC)from by unfold Nod.take;rw[Z];exact if_pos (.inr (.inr h3))];exact⟨_,rfl,(nsC s t ((((d.n j).n k).n m).n o) K),(((((((A.nil (TN i)).trans (E)).n d).n j).n k).n m).n o)⟩
   .refine qI (((p.lr 0 gC).bn.rN src)) false (by simpa using h3) (qR [] 15 [12,0,2,4,6,8,10,12,14,0,16,18,20,22,0] λe4 d2 f4 u=>qS 12 [true,false,false] s t (((((d.n j).n k).n m).n o).n u) (λa4=>QB a4 (hB.ch ((((((((A.nil (TN i)).trans (E)).n d).n j).n k).n m).n o).n u) (Bx i)) hT src hs a vs (b3.ch ((((((((A.nil (TN i)).trans (E)).n d).n j).n k).n m).n o).n u) (Bx i)) Y) λd3 f5 a2 C D U W Q=>qR [] 17 [15,0,2,4,6,8,0,10,12,14,16,0,18,20,22,24,26] λe5 b0 b9 F=>Ea 69 (λg' w' e L=>e=[(0,pt nb 0)]/\L=[⟨M,.cells (FF (Let.mk I src q b cl a c gC) vs (S3.mk wa gC.length wc)) 183,.z,false⟩,⟨nb,.cells (AJ i ob ({ (p.lr 0 gC)with bn:={ (p.lr 0 gC).bn.sw src a with bw:=upN (p.lr 0 gC).bn.bw src gC.length } }) a2) 136,.n 0 i,false⟩,⟨ob,.cells #[S3.v C,S3.v D] 113,.n 50 0,false⟩]/\True/\Cg w.heap.size ([.n 0 i]:List Tg) b0 b9 g' w') (by kernel_rfl) ?_ ?_)
    .intro J hJ;rcases se hs with rfl|rfl|rfl|rfl|rfl <;>
     (refine qR [.n 0 i] 3 [28,31,1,1] λe6 d5 f7 a7=>?_;exact qB [true,true,true] λz K0 K=>hJ _ _ _ z _ ⟨rfl,rfl,trivial,a7⟩ K)
    rintro d4 f6 _ g5 _ ⟨rfl,rfl,_,G⟩;refine qR [] 2 [] λe7 b1 c0 H=>?_;rw[show p.take (Let.mk I src q b cl a c gC)=Nod.sf { (p.lr 0 gC)with bn:={ (p.lr 0 gC).bn.sw src a with bw:=upN (p.lr 0 gC).bn.bw src gC.length } }from by unfold Nod.take;rw[Z];exact if_neg (by rintro(h|h|h);exact h1 h;exact h2 h;exact h3 h)];refine Af λK=>?_;have N:=((F.nil ([.n 0 i]:List Tg)).trans (G)).n H;have a5:NS i nb ob b1 c0 ({ (p.lr 0 gC)with bn:={ (p.lr 0 gC).bn.sw src a with bw:=upN (p.lr 0 gC).bn.bw src gC.length } }) ls ts:=⟨a2,C,D,K.ud 1 U N,W.ch N (hn:=by simp<;>omega),K.new⟩;refine qS0 1 [true,false,false] (Gc a5 (hB.ch ((((((((((((A.nil (TN i)).trans (E)).n d).n j).n k).n m).n o).n u).trans (Q)).n F).trans (G.mono (by simp[TN]))).n H) (Bx i)) hT hb) λd6 f8 g0 c3 c5 V X a8=>qR [] 1 [] λe8 d7 f9 R=>qF V X R ((((((((((((((A.nil (TN i)).trans (E)).n d).n j).n k).n m).n o).n u).trans (Q)).n F).trans (G.mono (by simp[TN]))).n H).trans (a8)).n R)
theorem FT(h:Sl w x.v l):x.n=l.length:=by obtain⟨a,c,b⟩:=h.sx;simp only[S3.v,Value.slice.injEq]at b;exact b.2.1
theorem bL:prog.underlying 27=some (.slice (prog.elem 27)):=by kernel_rfl
theorem ui(h:Sl w x.v l)(a:Nat)(b:a<=l.length):∃ y:S3,(∀ W,(Instr.sliceAt 27 x.v (some (iv (a:Int))) none none).run prog W=.ok y.v W)/\Sl w y.v (l.drop a)/\y.n=l.length-a:=by
 obtain⟨c,d,e,f⟩:=h.from a b;refine⟨⟨c,x.n-a,d⟩,λW=>?_,f,by rw[FT h]⟩;rw[run_sliceAt_slice _ _ _ _ _ _ bL];exact e W
theorem Rx(h:Sl w x.v l)(a:0<l.length):∃ bd od,(∀ W,(Instr.indexAt 27 x.v (iv 0)).run prog W=.ok (pt bd od) W)/\bd<w.heap.size/\w.cell? ⟨bd,od,none⟩=some (.int .u8 (l.getD 0 0)):=by
 obtain⟨j,g,k⟩:=x;have f:g=l.length:=FT h;obtain⟨bd,od,b,c,d⟩:=h.sP 0 a;subst b;exact⟨bd,od,λW=>P6 (P:=prog) (e:=5) (z:=1) (i:=0) underlying27 (by kernel_rfl) (by kernel_rfl) (by rw[f];exact a) od (by rw[Nat.mul_zero,pC]),c,d⟩
theorem WP{t:TypeId}{x y:Operand}{m:Int}{b:Bool}(h:(m==n)=b):(do Go.eqGuard .eql t x y (.int .u8 m) (.int .u8 n);Go.binOp .eql t (.int .u8 m) (.int .u8 n):Sem Value).run P w=.ok (.bool b) w:=by
 subst h;rfl
theorem rUi(h:0<=n/\n<256):(convert 5 3 (.int .u8 n)).run prog w=.ok (iv n) w:=gk (by kernel_rfl) underlying3 (by kernel_rfl) (by rw[IntKind.wrap_i64];omega)
theorem Py{B:Nat}(h:w.ownsRow B 5 1 y l.length (l.map (Value.int .u8)))(e:l.length<=140737488351232)(d:∀ x∈l,0<=x/\x<256):∃ z:S3,y=z.v/\Sl w z.v l:=by
 have c:=Sl.ov h e d;obtain⟨a,b,rfl⟩:=c.sx;exact⟨⟨a,l.length,b⟩,rfl,c⟩
theorem aO(c:Sl w y l):∃ z:S3,y=z.v/\Sl w z.v l:=by
 obtain⟨a,b,rfl⟩:=c.sx;exact⟨⟨a,l.length,b⟩,rfl,c⟩
theorem NJ(w:World):Sl w s30.v []:=⟨⟨none,0,rfl,A' _,λ_=>rfl,.inl rfl⟩,by simp,by simp⟩
theorem Mc(x:Value)(d:List Int)(s:Int)(w:World)(h:Sl w x d) :
  Calls prog 145 #[.agg (tpA x s)] w λe w'=>e=.returned (.bool (decide (AV d s)))/\Bw w w':=by
 have b:=h.len;obtain⟨f,i,rfl⟩:=h.sx;obtain⟨M,k⟩:∃ M,d.length=M:=⟨_,rfl⟩;have l:Hid (d.length=M):=k;rw[k]at b ⊢
 clear k h;simp only[tpA];have a:Bw w (w.alloc (.cells #[.slice f M i,.int .i64 s] 134)):=(Below.refl _ _).alloc (A' _) _;have j:=heap_alloc_new w (.cells #[.slice f M i,.int .i64 s] 134);generalize q:w.alloc (.cells #[.slice f M i,.int .i64 s] 134)=W0 at a j;have o:W0.cell? ⟨w.heap.size,0,none⟩=some (.slice f M i):=cell_of_row _ _ 0 _ _ _ j;have p:W0.cell? ⟨w.heap.size,1,none⟩=some (.int .i64 s):=cell_of_row _ _ 1 _ _ _ j;clear j;have c:Hid (AV d s↔(M<=100000/\0<=s/\s<=(M:Int))):=by
  unfold Hid AV;rw[l.out]
 by_cases m:M<=100000
 .have h1i:(M:Int)<=100000:=by omega
  by_cases n:0<=s
  .by_cases h3:s<=(M:Int)
   .go_enter func145,ntmps145
    go_wp2
    go_ret;exact⟨Ay (by rw[O' (c.out.2 ⟨m,n,h3⟩)]),a⟩
   .go_enter func145,ntmps145
    go_wp2
    go_ret;exact⟨Ay (by rw[H' (λg=>absurd (c.out.1 g).2.2 (by omega))]),a⟩
  .go_enter func145,ntmps145
   go_wp2
   go_ret;exact⟨Ay (by rw[H' (λg=>absurd (c.out.1 g).2.1 (by omega))]),a⟩
 .have h1i:¬ (M:Int)<=100000:=by omega
  go_enter func145,ntmps145
  go_wp2
  go_ret;exact⟨Ay (by rw[H' (λg=>absurd (c.out.1 g).1 (by omega))]),a⟩
theorem Ke(x:Value)(d:List Int)(s:Int)(n:Nat)(w:World)(h:Sl w x d)(G:n<=d.length) :
  Calls prog 146 #[.agg (tpA x s),.int .i64 (n:Int)] w λe w'=>∃ y,e=.returned (.agg (tpA y (n:Int)))/\w'.ownsRow w.heap.size 5 1 y n ((d.take n).map (Value.int .u8))/\Bw w w':=by
 have i:=h.len;obtain⟨b,c,rfl⟩:=h.sx;obtain⟨M,q⟩:∃ M,d.length=M:=⟨_,rfl⟩;have HM:Hid (d.length=M):=q;have N:Hid (n<=d.length):=G;obtain⟨t,u⟩:∃ t,t=d.take n:=⟨_,rfl⟩;have O:Hid (t=d.take n):=u;rw[<- u];clear u;rw[q]at h i G ⊢
 clear q;simp only[tpA];have v:=heap_alloc2_old w (.cells #[.slice b M c,.int .i64 s] 134) (.cells #[.slice none 0 0,.int .i64 0] 134);have z:=heap_alloc2_new w (.cells #[.slice b M c,.int .i64 s] 134) (.cells #[.slice none 0 0,.int .i64 0] 134);have l:Bw w ((w.alloc (.cells #[.slice b M c,.int .i64 s] 134)).alloc (.cells #[.slice none 0 0,.int .i64 0] 134)):=((Below.refl _ _).alloc (A' _) _).alloc (by simp) _;have f:((w.alloc (.cells #[.slice b M c,.int .i64 s] 134)).alloc (.cells #[.slice none 0 0,.int .i64 0] 134)).heap.size=w.heap.size+2:=by simp
 generalize U:(w.alloc (.cells #[.slice b M c,.int .i64 s] 134)).alloc (.cells #[.slice none 0 0,.int .i64 0] 134)=W0 at v z l f;have s0:=h.af l;have p:Hid (W0.heap.size=w.heap.size+2):=f;have K:w.heap.size+1<W0.heap.size:=by omega
 have L:w.heap.size<W0.heap.size:=by omega
 clear f;go_enter func146,ntmps146
 go_wp2_with ((with_reducible (refine Ed ?_));at_make;refine Nk _ rfl _ _ 27 rfl W0.heap.size 5 underlying27 Ax n rfl rfl (by omega) (A' _) ?_)
 clear U;intro A o F;have j:Bw W0 A:=(Below.refl _ _).grown F (A' _) (λk r=>by cases r);have I:=(j.block w.heap.size L).trans v;have J:=(j.block (w.heap.size+1) K).trans z;have Y:=s0.af j;obtain⟨Z,o⟩:=o.out;have C:Hid (A.ownsRow W0.heap.size 5 1 (.slice (some ⟨W0.heap.size,0,none⟩) n n) n Z):=o;have R:=l.trans (j.mono l.size);clear o v z F;have Q:A.cell? ⟨w.heap.size,0,none⟩=some (.slice b M c):=cell_of_row _ _ 0 _ _ _ I;go_wp2_with ((with_reducible (refine Ed ?_));refine Ni _ rfl _ _ 27 27 rfl W0.heap.size 5 underlying27 kf W0.heap.size n _ rfl C.out _ rfl d N.out Y t O.out ?_)
 intro B H P;have a:Hid (B.ownsRow W0.heap.size 5 1 (.slice (some ⟨W0.heap.size,0,none⟩) n n) n (t.map (Value.int .u8))):=H;have E:=P.mono (show w.heap.size+2<=W0.heap.size by have:=p.out;omega);have p1:=(E.block (w.heap.size+1) (by omega)).trans J;have S:=R.trans (E.mono (by omega));obtain⟨g,m⟩:∃ g,W0.heap.size=g:=⟨_,rfl⟩;have HG:Hid (W0.heap.size=g):=m;have f:g=w.heap.size+2:=m.symm.trans p.out;have D:Hid (g=w.heap.size+2):=f;rw[m]at a ⊢
 clear H C I J Q m f K L p;have W:=bJ (some ⟨g,0,none⟩) n n (n:Int);go_wp2_with ((with_reducible (refine Ed ?_));refine wpList_store_row rfl 134 (.tmp 4) (.tmp 14) rfl (w.heap.size+1) #[.slice (some ⟨g,0,none⟩) n n,.int .i64 (n:Int)] rfl rfl 134 _ p1 MV rfl W ?_)
 have X:=setRow_heap B (w.heap.size+1) _ (#[.slice (some ⟨g,0,none⟩) n n,.int .i64 (n:Int)]) 134 _ p1;have T:=Dc S (show w.heap.size<=w.heap.size+1 by omega) (#[.slice (some ⟨g,0,none⟩) n n,.int .i64 (n:Int)]);have V:(B.setRow (w.heap.size+1) #[.slice (some ⟨g,0,none⟩) n n,.int .i64 (n:Int)]).ownsRow g 5 1 (.slice (some ⟨g,0,none⟩) n n) n (t.map (Value.int .u8)):=DI a.out (λk r=>setRow_other _ _ _ _ (by have:=(a.out.lt k r).1;have:=D.out;omega));refine bodyPost_ret (bj rfl _ _ (w.heap.size+1) 134 _ (0,0) _ rfl X underlying134 rfl MV) rfl ?_;exact⟨_,rfl,FW V (by have:=D.out;omega),T⟩
theorem Uw:(prog.info? 24).map (·.size)=some 5:=by kernel_rfl
theorem Vy:(prog.info? 181).map (·.size)=some 8:=by kernel_rfl
theorem j6{v r:Value}{b a:Option Value}(h:∀ W,(Instr.slice 27 v b a none).run prog W=.ok r W)(w:World) :
  (do let x <- Instr.slice 27 v b a none;pure (Next.value x):Sem Next).run prog w=.ok (.value r) w:=by
 simp only[Sem.run_bind,h w,Result.andThen_ok,Sem.run_pure]
theorem Sl.uv(w:World)(b0 a b c d f h i:Int)(e:TypeId){g:Nat}(n:g=w.heap.size)(p:0<=b0/\b0<256)(q:0<=a/\a<256)(r:0<=b/\b<256)(s:0<=c/\c<256)(j:d=b0)(k:f=a)(l:h=b)(m:i=c) :
  Sl (w.alloc (.cells #[.int .u8 d,.int .u8 f,.int .u8 h,.int .u8 i] e)) (.slice (some ⟨g,0,none⟩) 4 4) [b0,a,b,c]:=by
 subst j k l m;exact Sl.built w [d,f,h,i] e n (by simp) (by intro x o;simp at o;omega)
theorem R8(w:World)(l:List Int)(e:TypeId){g:Nat}(c:g=w.heap.size){a:Nat}(b:a<=w.heap.size)(d:l.length<=1000):(w.alloc (.cells (l.map (Value.int .u8)).toArray e)).ownsRow a e 1 (.slice (some ⟨g,0,none⟩) l.length l.length) l.length (l.map (Value.int .u8)):=by
 subst c;refine⟨by simp,.inr ⟨w.heap.size,l.length,_,rfl,b,heap_alloc_new _ _,A' _,by unfold maxLen;omega,by simp,by rw[nf (by simp)]⟩⟩
theorem JQ(w:World)(b c:Int)(e:TypeId){g:Nat}(h:g=w.heap.size){a:Nat}(d:a<=w.heap.size)(f:c=b):(w.alloc (.cells #[.int .u8 c] e)).ownsRow a e 1 (.slice (some ⟨g,0,none⟩) 1 1) [b].length ([b].map (Value.int .u8)):=by
 subst f;exact R8 w [c] e h d (by simp)
def Dl(ns:List Int):List Int:=ns.flatMap Ab
theorem W9(ns:List Int):(Dl ns).length=4*ns.length:=by
 induction ns with
 | nil=>rfl
 | cons n ns ih =>
  show(Ab n++Dl ns).length=_;rw[G',BF,ih,nK];omega
theorem Tn(ns:List Int)(n:Int):Dl (ns++[n])=Dl ns++Ab n:=by simp[Dl]
theorem Uf(l:List Int)(k:Nat)(a:k<l.length):l.take (k+1)=l.take k++[l.getD k 0]:=by
 rw[nu a,AQ a]
theorem G9(v:Value)(l ns:List Int)(B g:Nat)(w:World)(I:w.ownsRow B 5 1 v l.length (l.map (Value.int .u8)))(O:B<=w.heap.size)(T:l.length<=1000)(z:ns.length<=10)(H:∀ x∈ns,0<=x/\x<2147483648)(G:w.heap[g]?=some (.cells (ns.map (Value.int .i64)).toArray 3)) :
  Calls prog 194 #[v,.slice (some ⟨g,0,none⟩) ns.length ns.length] w λe w'=>∃ v',e=.returned v'/\w'.ownsRow B 5 1 v' (l++Dl ns).length ((l++Dl ns).map (Value.int .u8))/\Below B w w':=by
 obtain⟨N,t⟩:∃ N,ns.length=N:=⟨_,rfl⟩;have D:Hid (ns.length=N):=t;have M:Hid (∀ x∈ns,0<=x/\x<2147483648):=H;rw[t]at z ⊢
 clear t H;have i:Hid (w.ownsRow B 5 1 v (l++Dl (ns.take 0)).length ((l++Dl (ns.take 0)).map (Value.int .u8))):=by unfold Hid;simpa[Dl]using I
 clear I;go_enter func194,ntmps194
 go_wp2_with fail
 go_loopw [0,9] (λv iv wr=>∃ j:Nat,j<=N/\iv=.int .i64 (j:Int)/\Hid (wr.ownsRow B 5 1 v (l++Dl (ns.take j)).length ((l++Dl (ns.take j)).map (Value.int .u8)))/\wr.heap[g]?=some (.cells (ns.map (Value.int .i64)).toArray 3)/\Below B w wr) (λ_ iv _=>N-(intOf iv).toNat)
 case atStart=>exact⟨0,by omega,rfl,i,G,Below.refl _ _⟩
 case round =>
  obtain⟨j,S,rfl,f,c,a⟩:=hrel;clear i G;by_cases y:j<N
  .have hji:(j:Int)<(N:Int):=by omega
   have b:j<ns.length:=by rw[D.out];exact y
   have o:=f.out.lt;have Q:B<=wr.heap.size:=mS O a.size;have P:=M.out (ns.getD j 0) (by rw[AQ b];exact nJ b);have F:wr.cell? ⟨g,j,none⟩=some (.int .i64 (ns.getD j 0)):=by
    rw[cell_of_row _ _ j _ _ _ c,AQ b];simp[List.getElem?_eq_getElem b]
   have s:Hid (ns.take (j+1)=ns.take j++[ns.getD j 0]):=Uf ns j b;have d:(l++Dl (ns.take j)).length+4<=140737488355328:=by
    rw[G',W9,j'];omega
   have p:=MK f.out c (by decide);have lg:g<wr.heap.size:=(U'.1 c).1;have K:Hid (∀ n,Ab n=[n/16777216%256,n/65536%256,n/256%256,n%256]):=λn=>rfl;generalize ns.getD j 0=n at P F s;generalize E:l++Dl (ns.take j)=L at f d;have C:Hid (l++Dl (ns.take j)=L):=E;clear E b;go_wp2_with (at_builtin;refine Aa _ rfl _ _ 27 rfl B 5 underlying27 Ax _ _ rfl rfl L [n/16777216%256,n/65536%256,n/256%256,n%256] (f.out.alloc _) (Sl.uv _ (n/16777216%256) (n/65536%256) (n/256%256) (n%256) _ _ _ _ _ rfl (by omega) (by omega) (by omega) (by omega) (by omega) (by omega) (by omega) (by omega)) d (by simp;omega) ?_)
   intro R A q h;have u:Below B w A:=(a.alloc Q _).grown h (by simp;omega) (λk z=>(o k z).1);have m:A.heap[g]?=some (.cells (ns.map (Value.int .i64)).toArray 3):=by
    rw[h.block g (by simp;omega) (λe=>p g e.symm rfl),heap_alloc_old _ _ lg];exact c
   have r:Hid (A.ownsRow B 5 1 R (l++Dl (ns.take (j+1))).length ((l++Dl (ns.take (j+1))).map (Value.int .u8))):=by
    unfold Hid;rw[s.out,Tn,<- mY,C.out,K.out];simpa using q
   clear q h a d f p o c F s C;go_wp2
   go_roundw
   case rel=>exact⟨j+1,by omega,by go_num,r,m,u⟩
   case measure=>simp[intOf];omega
  .obtain rfl:j=N:=by omega
   have J:ns.take j=ns:=nf (by rw[D.out];exact A' _);rw[J]at f
   clear J;go_wp2
   go_ret;exact⟨_,rfl,f.out,a⟩
end
end Go.Proofs.YthkjeoamjgnpoaaGreatDoor
