/- Part 16 of the walk. -/
import Derived.Test.YtalbmmghmoggcadGreatDoorZ10
import Derived.Test.YtalbmmghmoggcadGreatDoorZ15
set_option maxRecDepth 100000
set_option maxHeartbeats 4000000
open Go.Proofs.Tryz
set_option linter.unusedVariables false
namespace Go.Proofs.YtalbmmghmoggcadGreatDoor
open Go.RowKit
section
variable{b born k n:Nat}{es:Array MapEntry}{l:List Vt}{v:Vt}{w w':World}
theorem KS{a:Acc}:CX a (v::l)=CX (if AQ a v=0 then⟨BR a v,Ca a v⟩else a) l:=rfl
theorem SN{j:Nat}(h:l[j]?=some v):l.drop j=v::l.drop (j+1):=by
 obtain⟨h1,h2⟩:=Q'.1 h;rw[<- h2];exact js h1
theorem Pv{g:Gh}{i nb ob:Nat}{p:Nod}{ls:List Let}{ts:List Tol}(h:NS i nb ob g w p ls ts){w0:World}(hB:Base w0 g w)(hT:Tabs w0)(j:Nat)(hj:j<5)(vs:List Vt)(y:S3)(hy:FSv g w y vs)(hb:(p.rnd.heard j).vs.length<100000000) :
  Calls prog 85 #[pt nb 11,iv (j:Int),y.v] w (NP i nb ob g w (.tuple #[]) { p with rnd:=p.rnd.hear j vs } ls ts):=by
 obtain⟨x,lt,tl,hN,hO,hg⟩:=h;refine gI (fn:=f85) (TN i) g func85 hg ?_;refine qN hN ?_;refine qO hO ?_;refine qR [] 18 [0,1,0,2,0] λs1 g1 w1 c1=>?_;refine BX 50 (λg' w' e L=>e=[(0,pt nb 11),(1,iv (j:Int)),(6,pt (s1 0) 0),(23,S3.v (x.hv j)),(24,iv ((x.hv j).n:Int)),(25,iv 0)]/\L=[⟨nb,.cells (AB i ob p x) 123,.n 0 i,false⟩,⟨ob,.cells #[S3.v lt,S3.v tl] 94,.n 50 0,false⟩,⟨(s1 0),.cells #[iv p.rnd.bal.r,iv p.rnd.bal.n,S3.v y] 105,.l,false⟩]/\True/\Cg w.heap.size ([]:List Tg) g1 w1 g' w') (by kernel_rfl) ?_ ?_
 .intro J hJ;rcases five hj with rfl|rfl|rfl|rfl|rfl <;>
  (refine qR [] 6 [0] λs3 g3 w3 c3=>?_;exact qB [true,true,true] λz K0 K=>hJ _ _ _ z _ ⟨rfl,rfl,trivial,(c3.nil ([]:List Tg))⟩ K)
 rintro g2 w2 _ z2 _ ⟨rfl,rfl,_,c2⟩;have hH:=hN.heard j hj;have hn:(x.hv j).n=(p.rnd.heard j).vs.length:=by obtain⟨a,cap,hh⟩:=hH.s.shape;simp only[Value.slice.injEq]at hh;exact hh.2.1
 obtain⟨l,hl⟩:∃ l,l=(p.rnd.heard j).vs:=⟨_,rfl⟩;rw[<- hl]at hH hn hb
 refine qR [] 1 [] λs4 g4 w4 c4=>?_;refine BI 50 [(0,pt nb 11),(1,iv (j:Int)),(6,pt (s1 0) 0),(23,S3.v (x.hv j)),(24,iv ((x.hv j).n:Int)),(25,iv 0)] [true,true,true] [⟨nb,.cells (AB i ob p x) 123,.n 0 i,false⟩,⟨ob,.cells #[S3.v lt,S3.v tl] 94,.n 50 0,false⟩,⟨(s1 0),.cells #[iv p.rnd.bal.r,iv p.rnd.bal.n,S3.v y] 105,.l,false⟩] (λk g' w' e L=>∃ (k0:Nat) (a:Acc) (ya:S3),k=l.length-k0/\k0<=l.length/\e=[(0,pt nb 11),(1,iv (j:Int)),(6,pt (s1 0) 0),(23,S3.v (x.hv j)),(24,iv ((x.hv j).n:Int)),(25,iv (k0:Int))]/\L=[⟨nb,.cells (AB i ob p x) 123,.n 0 i,false⟩,⟨ob,.cells #[S3.v lt,S3.v tl] 94,.n 50 0,false⟩,⟨(s1 0),.cells #[iv a.p.r,iv a.p.n,S3.v ya] 105,.l,false⟩]/\CX a (l.drop k0)=CX ⟨p.rnd.bal,vs⟩ l/\FSv g' w' ya a.vs/\Cg w.heap.size [] g w g' w') (by kernel_rfl) (by kernel_rfl) (by kernel_rfl) (by kernel_rfl) l.length (λK=>?_) ?_
 .exact⟨0,⟨p.rnd.bal,vs⟩,y,rfl,by omega,rfl,rfl,rfl,(((hy.ch c1).ch c2).ch c4),((c1.trans c2).trans c4)⟩
 .rintro k gr wr _ zr _ ⟨k0,a,ya,rfl,hk0,rfl,rfl,hI,hya,hC⟩ J hJ;refine qR [] 5 [] λs5 g5 w5 c5=>?_;by_cases h1:k0<l.length
  .refine qI ((decide ((k0:Int)<((x.hv j).n:Int)))) true (I' (by omega)) ?_;obtain⟨v,hv⟩:∃ v,l[k0]?=some v:=⟨_,E' h1⟩;have hHr:=hH.ch hC;obtain⟨bx,ox,hxa,hbx,hcell⟩:=hHr.s.spot k0 v hv;refine qR [] 5 [] λs6 g6 w6 c6=>?_;refine qV 0 (pt bx (ox+8*k0)) (cQ hxa k0 (by omega)) ?_;have hcr:=((hHr.ch c5).ch c6).s.spot k0 v hv;obtain⟨bx2,ox2,hxa2,hbx2,hcell2⟩:=hcr;rw[hxa]at hxa2
   simp only[X',Addr.mk.injEq,and_true]at hxa2;obtain⟨rfl,rfl⟩:=hxa2;refine qV 1 (.agg #[iv v.slot,iv v.b.r,iv v.b.n,iv v.w.k,iv v.w.c,iv v.w.s,iv v.w.n,iv v.w.v]) (gn v hcell2) ?_;refine qR [] 7 [0,0,3,0,2,3] λs8 g8 w8 c8=>?_;refine Ag λKq9=>?_;have hS9:=((((hya.ch c5).ch c6).ch c8)).s;have hB9:=hB.ch (hC.trans ((c5.trans c6).trans c8)) (by simp);have hG9:∀ z,w8.heap.size<=z->g8.t z=.z:=λz hz=>(Kq9.new z hz).1;refine qC 2 (Cb a.p _ a.vs v w8 hS9 (hB9.tn hT)) ?_;rintro e' w10 ⟨y10,rfl,hy10,hl10,b10⟩;refine⟨_,rfl,b10,?_⟩;have c10:=Cg.ofBelow (B:=w.heap.size) (T:=[]) (g:=g8) b10;obtain⟨ys,rfl,hyn,hys⟩:=D0 hy10 hG9 (by omega);refine qR [] 12 [0,0,4,0] λs11 g11 w11 c11=>?_;by_cases h2:AQ a v=0
   .refine qI (((AQ a v)==0)) true (by simpa using h2) ?_;refine qR [] 6 [4,2,0] λs12 g12 w12 c12=>?_;refine qV 0 (iv ((k0:Int)+1)) (AD (x:=(.tmp 25)) (y:=(.const (iv 1))) (k0:Int) 1 underlying3 (by omega)) ?_;refine qR [] 2 [] λs13 g13 w13 c13=>?_;refine qB [true,true,true,false,false] λz K0 K=>hJ (l.length-(k0+1)) _ _ _ z _ (by omega) ⟨k0+1,⟨BR a v,Ca a v⟩,ys,rfl,by omega,rfl,rfl,?_,(((hys.ch c11).ch c12).ch c13),hC.trans ((((((c5.trans c6).trans c8).trans c10).trans c11).trans c12).trans c13)⟩ K;rw[<- hI,SN hv,KS,if_pos h2]
   .refine qI (((AQ a v)==0)) false (by simpa using h2) ?_;refine qR [] 3 [] λs14 g14 w14 c14=>?_;refine qV 0 (iv ((k0:Int)+1)) (AD (x:=(.tmp 25)) (y:=(.const (iv 1))) (k0:Int) 1 underlying3 (by omega)) ?_;refine qR [] 2 [] λs15 g15 w15 c15=>?_;refine qB [true,true,true,false,false] λz K0 K=>hJ (l.length-(k0+1)) _ _ _ z _ (by omega) ⟨k0+1,a,ya,rfl,by omega,rfl,rfl,?_,(((((((hya.ch c5).ch c6).ch c8).ch c10).ch c11).ch c14).ch c15),hC.trans ((((((c5.trans c6).trans c8).trans c10).trans c11).trans c14).trans c15)⟩ K;rw[<- hI,SN hv,KS,if_neg h2]
  .refine qI ((decide ((k0:Int)<((x.hv j).n:Int)))) false (D' (by omega)) ?_;obtain rfl:k0=l.length:=by omega
   rw[j7]at hI
   refine qR [] 8 [8,0,2,4,6,10,12] λs16 g16 w16 c16=>?_;refine BX 50 (λg' w' e L=>e=[(0,pt nb 11)]/\L=[⟨nb,.cells (AB i ob ({ p with rnd:={ p.rnd with pro:=upN p.rnd.pro j true,heard:=upN p.rnd.heard j a } }) ({ x with hv:=upN x.hv j ya })) 123,.n 0 i,false⟩,⟨ob,.cells #[S3.v lt,S3.v tl] 94,.n 50 0,false⟩,⟨(s1 0),.cells #[iv a.p.r,iv a.p.n,S3.v ya] 105,.l,false⟩]/\True/\Cg w.heap.size ([.n 0 i]:List Tg) g16 w16 g' w') (by kernel_rfl) ?_ ?_
   .intro J hJ;rcases five hj with rfl|rfl|rfl|rfl|rfl <;>
    (refine qR [] 3 [14,18,20] λs18 g18 w18 c18=>?_;exact CN 4 8 (by kernel_rfl) (by(refine qR [.n 0 i] 5 [2,17,0,1,22,25,0,1] λs19 g19 w19 c19=>?_;exact qB [true,true,true] λz K0 K=>hJ _ _ _ z _ ⟨rfl,rfl,trivial,((c18.nil ([.n 0 i]:List Tg)).trans c19)⟩ K)) (by(refine qR [.n 0 i] 5 [0,1,9,2,22,25,0,1] λs20 g20 w20 c20=>?_;exact qB [true,true,true] λz K0 K=>hJ _ _ _ z _ ⟨rfl,rfl,trivial,((c18.nil ([.n 0 i]:List Tg)).trans c20)⟩ K)))
   rintro g17 w17 _ z17 _ ⟨rfl,rfl,_,c17⟩;refine qE (.tuple #[]) λK=>?_;obtain⟨q1,q2,q3⟩:=K.isN 0 nb (.cells (AB i ob { p with rnd:={ p.rnd with pro:=upN p.rnd.pro j true,heard:=upN p.rnd.heard j a } } { x with hv:=upN x.hv j ya }) 123) 0 i (by kernel_rfl);obtain⟨q4,q5,q6⟩:=K.isN 1 ob (.cells #[S3.v lt,S3.v tl] 94) 50 0 (by kernel_rfl);have hE:p.rnd.hear j vs={ p.rnd with pro:=upN p.rnd.pro j true,heard:=upN p.rnd.heard j a }:=by unfold Rnd.hear;rw[<- hl,<- hI];rfl
   rw[hE];have CC:Cg w.heap.size [.n 0 i] g w g17 w17:=((((hC.nil [.n 0 i]).n c5).n c16).trans c17);have ZZ:Tg.z∉[Tg.n 0 i]:=by simp
   have hya2:=(((hya.ch c5).ch c16).ch c17);refine⟨_,rfl,⟨{ x with hv:=upN x.hv j ya },lt,tl,⟨q1,q2,q3,hN.tape.ch CC ZZ,hN.votes.ch CC ZZ,?_,BP hN.pend CC ZZ (by simp),hN.queue.ch CC,hN.agreed.ch CC,hN.wants.ch CC,hN.asked.ch CC,hN.upm⟩,⟨q4,q5,q6,Dz hO.lets CC ZZ (by simp),hO.told.ch CC⟩,K.new⟩,CC.mono (by simp[TN])⟩;intro k hk;show FSv _ _ (upN x.hv j ya k) (upN p.rnd.heard j a k).vs;unfold upN;split
   .exact hya2
   .exact(hN.heard k hk).ch CC ZZ
theorem WB(u v:Vt)(w:World):(Op.equal 166 (.agg (vtA u)) (.agg (vtA v))).run prog w=.ok (decide (u=v)) w:=by
 have h1:=W8 u.slot u.b.r u.b.n u.w.k u.w.c u.w.s u.w.n u.w.v v.slot v.b.r v.b.n v.w.k v.w.c v.w.s v.w.n v.w.v w;have h2:decide (u.slot=v.slot/\u.b.r=v.b.r/\u.b.n=v.b.n/\u.w.k=v.w.k/\u.w.c=v.w.c/\u.w.s=v.w.s/\u.w.n=v.w.n/\u.w.v=v.w.v)=decide (u=v):=by
  apply jZ.2;constructor
  .rintro⟨a1,a2,a3,a4,a5,a6,a7,a8⟩;exact(Vt.eq_iff u v).1 ⟨a1,(Bal.eq_iff _ _).1 ⟨a2,a3⟩,(Cmd.eq_iff _ _).1 ⟨a4,a5,a6,a7,a8⟩⟩
  .rintro rfl;exact⟨rfl,rfl,rfl,rfl,rfl,rfl,rfl,rfl⟩
 rw[h2]at h1
 rw[run_eql_struct]at h1
 show(Op.equalIn 10000 _ _ _).run _ _=_;simp only[vtA,vtC];cases hr:(Op.equalIn 10000 166 (.agg #[.int .i64 u.slot,.int .i64 u.b.r,.int .i64 u.b.n,.int .i64 u.w.k,.int .i64 u.w.c,.int .i64 u.w.s,.int .i64 u.w.n,.int .i64 u.w.v]) (.agg #[.int .i64 v.slot,.int .i64 v.b.r,.int .i64 v.b.n,.int .i64 v.w.k,.int .i64 v.w.c,.int .i64 v.w.s,.int .i64 v.w.n,.int .i64 v.w.v])).run prog w with
 | ok b w'=>rw[hr]at h1;simp[Result.andThen]at h1;rw[h1.1,h1.2]
 | _=>rw[hr]at h1;simp[Result.andThen]at h1
abbrev Cnt:=Vt × Nat × Nat
def mkE(x:Cnt):MapEntry:={ key:=.agg (vtA x.1),val:=.int .i64 (x.2.1:Int),born:=x.2.2 }
def KK(v:Vt):List Cnt->Nat->Option (Nat × Value)
 | [],_=>none
 | x::c,i=>if v=x.1 then some (i,.int .i64 (x.2.1:Int))else KK v c (i+1)
theorem ME(v:Vt)(w:World):∀ (c:List Cnt) (i:Nat),(Instr.findAsking 166 (.agg (vtA v)) (c.map mkE) i).run prog w=.ok (KK v c i) w
 | [],i=>by simp[Instr.findAsking,KK]
 | x::c,i=>by
  have h:=WB v x.1 w;rw[ji,Instr.findAsking,Sem.run_bind];show((Op.equal 166 (.agg (vtA v)) (.agg (vtA x.1))).run _ w).andThen _=_;rw[h,Result.andThen_ok,KK];by_cases e:v=x.1
  .rw[I' e,if_pos e];simp[mkE]
  .rw[D' e,if_neg e];simpa using ME v w c (i+1)
theorem Ke(v:Vt)(w:World)(c:List Cnt):(Instr.findKey 166 (.agg (vtA v)) (c.map mkE)).run prog w=.ok (KK v c 0) w:=by
 rw[Instr.findKey,Sem.run_bind,run_underlying underlying166 w,Result.andThen_ok];cases c with
 | nil=>simp[Instr.findNow,KK]
 | cons x c =>
  show Sem.run _ (match(none:Option (Option (Nat × Value)))with|some r=>pure r|none=>Instr.findAsking 166 (.agg (vtA v)) ((x::c).map mkE)) w=_;exact ME v w (x::c) 0
theorem Hj(em:Bool)(v:Vt)(w:World):(Instr.checkKey em 10000 166 (.agg (vtA v))).run prog w=.ok () w:=by
 obtain⟨s,⟨r,n⟩,⟨k,c,q,m,x⟩⟩:=v;kernel_rfl
def Dm(c:List Cnt)(v:Vt):Nat:=match c.find? (λx=>decide (v=x.1))with|some x=>x.2.1|none=>0
theorem KL(v:Vt):∀ (c:List Cnt) (i:Nat),(KK v c i=none/\Dm c v=0/\∀ x∈c,v≠x.1)\/∃ a x b,c=a++x::b/\x.1=v/\(∀ y∈a,v≠y.1)/\KK v c i=some (i+a.length,.int .i64 (x.2.1:Int))/\Dm c v=x.2.1
 | [],i=>.inl ⟨rfl,rfl,λx hx=>by cases hx⟩
 | x::c,i=>by
  by_cases e:v=x.1
  .refine .inr ⟨[],x,c,rfl,e.symm,λy hy=>(M' hy).elim,?_,?_⟩
   .rw[KK,if_pos e];simp
   .simp[Dm,e]
  .rcases KL v c (i+1)with⟨h1,h2,h3⟩|⟨a,y,b,rfl,hy,h3,h4,h5⟩
   .refine .inl ⟨by rw[KK,if_neg e,h1],?_,λy hy=>?_⟩
    .rw[<- h2];simp[Dm,e]
    .rcases iX.1 hy with rfl|hy
     .exact e
     .exact h3 y hy
   .refine .inr ⟨x::a,y,b,rfl,hy,λz hz=>?_,?_,?_⟩
    .rcases iX.1 hz with rfl|hz
     .exact e
     .exact h3 z hz
    .rw[KK,if_neg e,h4];simp;omega
    .rw[<- h5];simp[Dm,e]
structure CMap(w:World)(b:Nat)(c:List Cnt):Prop where
 ex:∃ clock,w.heap[b]?=some (.map (c.map mkE).toArray clock)/\∀ x∈c,x.2.2<clock
 dis:c.Pairwise λx y=>x.2.2≠y.2.2
variable{a c d:List Cnt}
theorem CMap.lt(h:CMap w b c):b<w.heap.size:=by
 obtain⟨⟨k,hb,_⟩,_⟩:=h;exact(H'.1 hb).1
theorem CMap.keep(h:CMap w b c)(hb:w'.heap[b]?=w.heap[b]?):CMap w' b c:=by
 obtain⟨⟨k,h1,h2⟩,h3⟩:=h;exact⟨⟨k,hb.trans h1,h2⟩,h3⟩
theorem CMap.below(h:CMap w b c)(hb:Bw w w'):CMap w' b c:=h.keep (hb.block b h.lt)
theorem CMap.made(w:World):CMap (w.alloc (.map #[] 0)) w.heap.size []:=⟨⟨0,heap_alloc_new _ _,λx hx=>by cases hx⟩,List.Pairwise.nil⟩
theorem ik(w:World):(zeroValue 3).run prog w=.ok (.int .i64 0) w:=by kernel_rfl
theorem CMap.look(h:CMap w b c)(v:Vt):(Instr.lookup 274 (.map (some b)) (.agg (vtA v)) false).run prog w=.ok (.int .i64 (Dm c v:Int)) w:=by
 obtain⟨⟨k,hb,_⟩,_⟩:=h;have hg:(getObj b).run prog w=.ok (.map (c.map mkE).toArray k) w:=by simp[getObj,Sem.run,hb]
 rcases KL v c 0 with⟨h1,h2,_⟩|⟨a,x,d,_,_,_,h1,h2⟩
 .simp[Instr.lookup,run_underlying underlying274,hg,Hj,Ke,h1,h2]
 .simp[Instr.lookup,run_underlying underlying274,hg,Hj,Ke,h1,h2]
theorem bv(v:Vt)(n:Nat):Instr.sameBits (n+1) (.agg (vtA v)) (.agg (vtA v))=true:=by
 simp[Instr.sameBits,vtA,vtC]
theorem Yw(v:Vt)(w:World):(Instr.keyThatStays (.agg (vtA v)) (.agg (vtA v))).run prog w=.ok (.agg (vtA v)) w:=by
 rw[Instr.keyThatStays,if_pos (bv v 9999)];rfl
theorem TZ{u:Vt}{m:Nat}(ha:∀ y∈a,v≠y.1):Dm (a++(v,m,born)::d) u=if u=v then m else Dm (a++(v,n,born)::d) u:=by
 unfold Dm;rw[j2,j2,kN,kN];by_cases e:u=v
 .subst e;have hn:a.find? (λx=>decide (u=x.1))=none:=by
   rw[j6];intro y hy;simp[ha y hy]
  rw[hn];simp
 .rw[if_neg e];simp[e]
theorem IN(hb:w.heap[b]?=some (.map es k))(o:Obj):Below b w (ChangeMaps.setBlock w b o) :=
 ⟨rfl,rfl,rfl,by simp[ChangeMaps.setBlock],λi hi=>ChangeMaps.heap_setBlock_other hb o (by omega)⟩
theorem IP(hb:w.heap[b]?=some (.map es k))(o:Obj)(i:Nat)(h:i≠b):(ChangeMaps.setBlock w b o).heap[i]?=w.heap[i]?:=ChangeMaps.heap_setBlock_other hb o h
theorem CMap.entry(h:CMap w b c)(v:Vt):∃ (a d:List Cnt) (born:Nat) (w':World),(Instr.mapEntry 274 (.map (some b)) (.agg (vtA v))).run prog w=.ok (.tuple #[.int .i64 (Dm c v:Int),.int .i64 (born:Int)]) w'/\CMap w' b (a++(v,Dm c v,born)::d)/\(∀ y∈a,v≠y.1)/\(∀ u,Dm (a++(v,Dm c v,born)::d) u=Dm c u)/\Below b w w'/\∀ i,i≠b->w'.heap[i]?=w.heap[i]?:=by
 obtain⟨⟨k,hb,hk⟩,hd⟩:=h;have hg:(getObj b).run prog w=.ok (.map (c.map mkE).toArray k) w:=by simp[getObj,Sem.run,hb]
 rcases KL v c 0 with⟨h1,h2,h3⟩|⟨a,x,d,rfl,rfl,h3,h1,h2⟩
 .refine⟨c,[],k,ChangeMaps.setBlock w b (.map ((c++[(v,0,k)]).map mkE).toArray (k+1)),?_,⟨⟨k+1,?_,?_⟩,?_⟩,h3,?_,IN hb _,IP hb _⟩
  .have hs:=MapKept.run_setObj_map (P:=prog) (w:=w) (.map ((c++[(v,0,k)]).map mkE).toArray (k+1)) hb;have he:((c.map mkE).toArray.push { key:=.agg (vtA v),val:=.int .i64 0,born:=k })=((c++[(v,0,k)]).map mkE).toArray:=by simp[mkE]
   rw[Instr.mapEntry];simp only[Sem.run_bind,run_underlying underlying274,Result.andThen_ok,hg,Hj,Ke,h1,h2,ik,he,hs];rfl
  .rw[h2];exact ChangeMaps.heap_setBlock_same hb _
  .intro y hy;rcases V'.1 hy with hy|hy
   .have:=hk y hy;omega
   .obtain rfl:y=(v,Dm c v,k):=by simpa using hy
    show k<k+1;omega
  .rw[km];refine⟨hd,lC _ _,λy hy z hz=>?_⟩;obtain rfl:z=(v,Dm c v,k):=by simpa using hz
   have:=hk y hy;show y.2.2≠k;omega
  .intro u;rw[h2];unfold Dm;rw[j2];cases hf:c.find? (λx=>decide (u=x.1))with
   | some y=>rfl
   | none =>
    by_cases e:u=v
    .subst e;simp
    .simp[e]
 .refine⟨a,d,x.2.2,ChangeMaps.setBlock w b (.map ((a++x::d).map mkE).toArray k),?_,⟨⟨k,?_,?_⟩,?_⟩,h3,?_,IN hb _,IP hb _⟩
  .have hs:=MapKept.run_setObj_map (P:=prog) (w:=w) (.map ((a++x::d).map mkE).toArray k) hb;have hx:((a++x::d).map mkE).toArray[a.length]?=some (mkE x):=by simp
   have he:(((a++x::d).map mkE).toArray.modify a.length λe=>{ e with key:=.agg (vtA x.1) })=((a++x::d).map mkE).toArray:=by
    apply kD;intro i;rw[lR];split
    .rename_i hi
     subst hi;rw[hx];rfl
    .rfl
   have hst:=Yw x.1 w;rw[Instr.mapEntry];simp only[Sem.run_bind,run_underlying underlying274,Result.andThen_ok,hg,Hj,Ke,h1,jm,hx,jC,mj];rw[show(mkE x).key=.agg (vtA x.1)from rfl,hst,Result.andThen_ok,he,hs];simp[goInt,ChangeMaps.setBlock,h2,mkE]
  .rw[h2];exact ChangeMaps.heap_setBlock_same hb _
  .rw[h2];exact hk
  .rw[h2];exact hd
  .intro u;rw[h2]
theorem CMap.store(h:CMap w b (a++(v,n,born)::d))(m:Nat):∃ w',(Instr.entryStore 274 (.map (some b)) (.int .i64 (born:Int)) (.int .i64 (m:Int))).run prog w=.ok () w'/\CMap w' b (a++(v,m,born)::d)/\Below b w w'/\∀ i,i≠b->w'.heap[i]?=w.heap[i]?:=by
 obtain⟨⟨k,hb,hk⟩,hd⟩:=h;have hg:(getObj b).run prog w=.ok (.map ((a++(v,n,born)::d).map mkE).toArray k) w:=by simp[getObj,Sem.run,hb]
 refine⟨ChangeMaps.setBlock w b (.map ((a++(v,m,born)::d).map mkE).toArray k),?_,⟨⟨k,ChangeMaps.heap_setBlock_same hb _,?_⟩,?_⟩,IN hb _,IP hb _⟩
 .have hs:=MapKept.run_setObj_map (P:=prog) (w:=w) (.map ((a++(v,m,born)::d).map mkE).toArray k) hb;have hf:((a++(v,n,born)::d).map mkE).toArray.findIdx? (λe=>(e.born:Int)==(born:Int))=some a.length:=by
   rw[List.findIdx?_toArray,iS,List.findIdx?_append];have h0:(a.map mkE).findIdx? (λe=>(e.born:Int)==(born:Int))=none:=by
    rw[List.findIdx?_eq_none_iff];intro e he;obtain⟨y,hy,rfl⟩:=ju.1 he;have:=(km.1 hd).2.2 y hy (v,n,born) (by simp);simp[mkE];intro g;exact this (show y.2.2=born by omega)
   rw[h0,ji,List.findIdx?_cons];simp[mkE]
  have he:(((a++(v,n,born)::d).map mkE).toArray.modify a.length λe=>{ e with val:=.int .i64 (m:Int) })=((a++(v,m,born)::d).map mkE).toArray:=by
   apply kD;intro i;rw[lR];split
   .rename_i hi
    subst hi;simp[mkE]
   .rename_i hi
    simp only[jF,iS,ji];rcases jt i a.length with g|g
    .rw[iT (by simpa using g),iT (by simpa using g)]
    .rw[iV (by simpa using g),iV (by simpa using g)];obtain⟨q,hq⟩:∃ q,i-(a.map mkE).length=q+1:=⟨i-a.length-1,by simp;omega⟩;rw[hq];rfl
  rw[Instr.entryStore];simp only[Sem.run_bind,hg,Result.andThen_ok,asInt,asIntOf,Sem.run_pure,hf,he,hs];rfl
 .intro y hy;rcases V'.1 hy with hy|hy
  .exact hk y (jl _ hy)
  .rcases iX.1 hy with rfl|hy
   .exact hk (v,n,born) (by simp)
   .exact hk y (jx _ (P' _ hy))
 .rw[km,List.pairwise_cons]at hd ⊢
  refine⟨hd.1,⟨λy hy=>hd.2.1.1 y hy,hd.2.1.2⟩,λy hy z hz=>?_⟩;rcases iX.1 hz with rfl|hz
  .exact hd.2.2 y hy (v,n,born) (by simp)
  .exact hd.2.2 y hy z (P' _ hz)
end
section
variable{P:Program}{md:Region.Mode}{ops:Array Oper}{Q:Exit->Act->World->Prop}{S:World->Prop}
section
variable{K:Act->World->Prop}{a:Act}{d i:Nat}{o:Oper}{w w':World}
theorem XD(ho:ops[i]?=some o)(hw:Region.wanted o (yielded ops a.tmps)=true)(hd:o.dst=some d)(t:TypeId)(m x:Operand)(hop:o.op=.lookup t m x false)(mv xv v:Value)(hm:a.eval m=mv)(hx:a.eval x=xv)(hrun:(Instr.lookup t mv xv false).run P w=.ok v w)(h:K (a.put (some d) v) w):wpOp P ops Q i K a w :=
 XE ho hw hd (by unfold execOp;simp only[hop,hm,hx,Sem.run_bind,hrun,Result.andThen_ok,Sem.run_pure]) h
theorem Tm(ho:ops[i]?=some o)(hw:Region.wanted o (yielded ops a.tmps)=true)(hd:o.dst=some d)(t:TypeId)(m x:Operand)(hop:o.op=.mapEntry t m x)(mv xv v:Value)(hm:a.eval m=mv)(hx:a.eval x=xv)(hrun:(Instr.mapEntry t mv xv).run P w=.ok v w')(h:K (a.put (some d) v) w'):wpOp P ops Q i K a w :=
 XE ho hw hd (by unfold execOp;simp only[hop,hm,hx,Sem.run_bind,hrun,Result.andThen_ok,Sem.run_pure]) h
theorem PL(ho:ops[i]?=some o)(hw:Region.wanted o (yielded ops a.tmps)=true)(hd:o.dst=none)(t:TypeId)(m x y:Operand)(hop:o.op=.entryStore t m x y)(mv xv yv:Value)(hm:a.eval m=mv)(hx:a.eval x=xv)(hy:a.eval y=yv)(hrun:(Instr.entryStore t mv xv yv).run P w=.ok () w')(h:K a w'):wpOp P ops Q i K a w :=
 wpOp_step ho λK' hK=>by
  rw[if_pos hw];unfold Oper.wp execOp;simp only[hop,hm,hx,hy,Sem.run_bind,hrun,Result.andThen_ok,Sem.run_pure];exact hK _ _ (by rw[hd];exact h)
end
end
section
variable{P:Program}{W w w0:World}{a:Act}{ac:List Acc}{b i j k m nb ob:Nat}{g:Gh}{l:List Int}{ls:List Let}{n:Int}{ops:Array Oper}{p:Nod}{ts:List Tol}{x:S3}{y:Value}
theorem NE{S:World->Prop}{op:Oper}(hw:Region.wanted op (yielded ops a.tmps)=true)(x:Operand)(ho:op.op=.binOp .add 3 x (.const (.int .i64 1)) 3)(n m:Nat)(hx:a.eval x=.int .i64 (n:Int))(hm:m=n+1)(h0:n<=1000) :
  YieldsIf prog ops S op (.int .i64 (m:Int)) a :=
 .inl ⟨hw,λw _=>by
  have hc:a.eval (.const (.int .i64 1))=.int .i64 1:=rfl;unfold execOp;simp only[ho,hx,hc];simp[go_sem];rw[IntKind.wrap_i64];omega⟩
theorem XI{id:Nat}{K:Act->World->Prop}{Q:Exit->Act->World->Prop}(R:Nat->World->Prop){A:Nat->Act}(hreg:∀ K':Act->World->Prop,Hid (∀ x W2,R x W2->K' (A x) W2)->(Code.region id ops true).wp P (Exit.then K' Q) a w)(hrest:∀ x W2,R x W2->K (A x) W2):(Code.region id ops true).wp P (Exit.then K Q) a w:=hreg K hrest
def H7(l:List Vt)(m:Nat):Cmd:=((Hk l m).map (·.w)).getD ⟨0,0,0,0,0⟩
def H8(l:List Vt)(m:Nat):Int:=if(Hk l m).isSome then 0 else 9
theorem Nf{l:List Vt}{v:Vt}(h:Hk l m=some v):H7 l m=v.w/\H8 l m=0:=by unfold H7 H8;rw[h];exact⟨rfl,rfl⟩
theorem Nd{l:List Vt}(h:Hk l m=none):H7 l m=⟨0,0,0,0,0⟩/\H8 l m=9:=by unfold H7 H8;rw[h];exact⟨rfl,rfl⟩
theorem Hl:(prog.info? 25).map (·.size)=some 5:=by kernel_rfl
theorem V9:(prog.info? 105).map (·.size)=some 3:=by kernel_rfl
theorem PI(l:List Vt)(u v:Vt):BN (l++[u]) v=if v=u then BN l v+1 else BN l v:=by
 unfold BN;rw[l8];by_cases e:v=u
 .subst e;simp
 .rw[if_neg e];simp;exact λg=>e g.symm
theorem X3(x:Value)(ac:List Acc)(s:Int)(w:World)(h:Sac w x ac)(hn5:ac.length<=5)(hmay:∀ a∈ac,An a) :
  Calls prog 177 #[x,.int .i64 s] w λe w'=>e=.returned (.tuple #[.agg (cmC (H7 (En ac s) ac.length)),.int .i64 (H8 (En ac s) ac.length)])/\Bw w w':=by
 have HMay:Hid (∀ a∈ac,An a):=hmay;clear hmay;obtain⟨ax,cp,rfl⟩:=h.shape;obtain⟨N,hN⟩:∃ N,ac.length=N:=⟨_,rfl⟩;have HN:Hid (ac.length=N):=hN;rw[hN]at h hn5 ⊢
 clear hN;have hz5:(zV5:Array Value).all (·.oneCell')=true:=by simp[Value.oneCell']
 have rr:=heap_alloc_new w (.cells zV5 25);have bb:Bw w (w.alloc (.cells zV5 25)):=(Below.refl _ _).alloc (A' _) _;have z0:(w.alloc (.cells zV5 25)).heap.size=w.heap.size+1:=by simp
 generalize hW0:w.alloc (.cells zV5 25)=w1 at rr bb z0;have h0:=h.below bb;clear h;have b0:Below (w.heap.size+1) w1 (w1.alloc (.map #[] 0)):=(Below.refl _ _).alloc (by omega) _;have v0:CMap (w1.alloc (.map #[] 0)) (w.heap.size+1) []:=by rw[<- z0];exact CMap.made _
 generalize hWA:w1.alloc (.map #[] 0)=WA at b0 v0;have hmm:=@run_makeMap prog;go_enter func177,ntmps177
 go_wp2_with fail
 clear hWA hW0 hmm;have hne:w.heap.size<w.heap.size+1:=by omega
 generalize hB:w.heap.size+1=B at b0 v0 z0 hne ⊢;have HB:Hid (B=w1.heap.size):=z0.symm;clear hB z0
 go_loopw [14] (λiv wr=>∃ (j:Nat) (c:List Cnt),j<=N/\iv=.int .i64 (j:Int)/\CMap wr B c/\(∀ v,Dm c v=BN (Af ((ac.take j).map (·.vs)).flatten s) v)/\(∀ v,2*BN (Af ((ac.take j).map (·.vs)).flatten s) v<=N)/\Below B w1 wr) (λiv _=>((N:Int)-intOf iv).toNat)
 case atStart=>exact⟨0,[],by omega,rfl,v0,λv=>rfl,λv=>by simp[BN,Af],b0⟩
 case round =>
  clear v0 b0;obtain⟨j,c,hj,rfl,hcm,hcnt,hle,hbel⟩:=hrel;have HC:Hid (∀ v,Dm c v=BN (Af ((ac.take j).map (·.vs)).flatten s) v):=hcnt;have HL:Hid (∀ v,2*BN (Af ((ac.take j).map (·.vs)).flatten s) v<=N):=hle;clear hcnt hle;by_cases hjN:j<N
  .have hji:(j:Int)<(N:Int):=by omega
   obtain⟨A,hA⟩:∃ A,ac[j]?=some A:=⟨_,E' (by have:=HN.out;omega)⟩;obtain⟨b,off,y,rfl,ltb,hr0,hsy0⟩:=h0.spot j A hA;have hma:An A:=HMay.out A (jG.2 ⟨j,hA⟩);obtain⟨⟨pr,pn⟩,l⟩:=A;simp only at hr0 hsy0;have hixA:=Nq b off N cp j hjN;obtain⟨ay,cy,hy⟩:=hsy0.shape;obtain⟨M,hM⟩:∃ M,l.length=M:=⟨_,rfl⟩;have HM:Hid (l.length=M):=hM;rw[hM]at hy
   subst hy;have HRise:Hid (BA l):=hma.2.2;have HF:Hid (((ac.take (j+1)).map (·.vs)).flatten=((ac.take j).map (·.vs)).flatten++l):=Sy ac j _ hA;clear hA hM hma;have hrw:=GU hbel (show b<B by rw[HB.out];exact ltb) hr0;have hsy:=hsy0.below (hbel.mono (by rw[HB.out];exact A' _));have bN:Bw wr (wr.alloc (.cells #[.int .i64 0,.int .i64 0,.slice none 0 0] 105)):=(Below.refl _ _).alloc (A' _) _;have rN:=heap_alloc_new wr (.cells #[.int .i64 0,.int .i64 0,.slice none 0 0] 105);have hone:(#[.int .i64 pr,.int .i64 pn,.slice ay M cy]:Array Value).all (·.oneCell')=true:=by simp[Value.oneCell']
   generalize hWN:wr.alloc (.cells #[.int .i64 0,.int .i64 0,.slice none 0 0] 105)=WN at bN rN
   go_upto_region 5 with((with_reducible (refine As ?_));first|(refine wpList_load_mid rfl 105 _ rfl b (off+3*j) rfl [.int .i64 pr,.int .i64 pn,.slice ay M cy] _ hrw underlying105 rfl V9 ?_)|(refine wpList_store_row rfl 105 (.tmp 8) (.tmp 17) rfl wr.heap.size (#[.int .i64 pr,.int .i64 pn,.slice ay M cy]) rfl rfl 105 _ rN V9 rfl hone ?_))
   clear hWN;have q:=setRow_heap WN wr.heap.size _ (#[.int .i64 pr,.int .i64 pn,.slice ay M cy]) 105 _ rN;replace bN:=Aj bN (A' _) (#[.int .i64 pr,.int .i64 pn,.slice ay M cy]);generalize WN.setRow wr.heap.size (#[.int .i64 pr,.int .i64 pn,.slice ay M cy])=W at q bN ⊢;have ltG:wr.heap.size<W.heap.size:=(H'.1 q).1;have hcW:=hcm.below bN;have hszB:=hbel.size;have ltB:B<wr.heap.size:=hcm.lt;have eW:=hbel.trans (bN.mono (by omega));have sW:=hsy.below bN;generalize wr.heap.size=G at q ltG ltB ⊢;have c2:W.cell? ⟨G,2,none⟩=some (.slice ay M cy):=cell_of_row _ _ 2 _ _ _ q;clear rN hrw hixA bN hcm hsy hbel hszB;go_wp2_with fail
   refine(Jx _ l s W HRise.out sW).mono ?_;rintro e W2 ⟨p,rfl,hp,b2⟩;have HP:Hid (Plc l s p):=hp;have c2:=(b2.cell (p:=⟨G,2,none⟩) ltG).trans c2;have hc2:=hcW.below b2;have s2:=sW.below b2;have e2:=eW.trans (b2.mono (by omega));have ltG2:G<W2.heap.size:=Z' ltG b2.size;clear hp b2 hcW sW eW q ltG;go_wp2_with fail
   refine(Jn _ l p s W2 s2).mono ?_;rintro e W3 ⟨rfl,rfl⟩;generalize hh:KQ l p s=bh;cases bh
   .have HT:Hid (Af ((ac.take (j+1)).map (·.vs)).flatten s=Af ((ac.take j).map (·.vs)).flatten s):=by
     unfold Hid;rw[HF.out,Dh,Plc.ofSlot_no HRise.out HP.out (KR hh),jy]
    clear hh;go_wp2
    go_roundw
    case rel=>exact⟨j+1,c,by omega,by go_num,hc2,by rw[HT.out];exact HC.out,by rw[HT.out];exact HL.out,e2⟩
    case measure=>simp[intOf];omega
   .obtain⟨u,hu,hus⟩:=MU hh;have HT:Hid (Af ((ac.take (j+1)).map (·.vs)).flatten s=Af ((ac.take j).map (·.vs)).flatten s++[u]):=by
     unfold Hid;rw[HF.out,Dh,Plc.ofSlot_has HRise.out hu hus]
    have hpM:p<M:=by have:=(Q'.1 hu).1;have:=HM.out;omega
    obtain⟨b4,o4,hay,ltb4,hr4⟩:=s2.spot p u hu;subst hay;have hix:=D7 b4 o4 M cy p hpM;have hi:=IS u;have hcn:Dm c u=BN (Af ((ac.take j).map (·.vs)).flatten s) u:=HC.out u;have hn2:=HL.out u;obtain⟨n,hnn⟩:∃ n,BN (Af ((ac.take j).map (·.vs)).flatten s) u=n:=⟨_,rfl⟩;rw[hnn]at hcn hn2
    have HN1:Hid (BN (Af ((ac.take (j+1)).map (·.vs)).flatten s) u=n+1):=by unfold Hid;rw[HT.out,PI,if_pos rfl,hnn]
    have HNx:Hid (∀ v,BN (Af ((ac.take (j+1)).map (·.vs)).flatten s) v=if v=u then n+1 else BN (Af ((ac.take j).map (·.vs)).flatten s) v):=λv=>by
     rw[HT.out,PI];split
     .rename_i g;rw[g,hnn]
     .rfl
    clear hu hus hh hnn HT;obtain⟨us,⟨ur,un⟩,⟨uk,uc,uq,um,ux⟩⟩:=u;simp only[vtC]at hr4 hi;have bN:Bw W3 (W3.alloc (.cells zV8 166)):=(Below.refl _ _).alloc (A' _) _;have rN:=heap_alloc_new W3 (.cells zV8 166);have hone8:(#[.int .i64 us,.int .i64 ur,.int .i64 un,.int .i64 uk,.int .i64 uc,.int .i64 uq,.int .i64 um,.int .i64 ux]:Array Value).all (·.oneCell')=true:=by simp[Value.oneCell']
    generalize hWN:W3.alloc (.cells zV8 166)=WN at bN rN
    go_upto_region 8 with((with_reducible (refine As ?_));first|(refine wpList_load_mid rfl 166 _ rfl b4 (o4+8*p) rfl [.int .i64 us,.int .i64 ur,.int .i64 un,.int .i64 uk,.int .i64 uc,.int .i64 uq,.int .i64 um,.int .i64 ux] _ hr4 underlying166 rfl hi ?_)|(refine wpList_store_row rfl 166 (.tmp 10) (.tmp 32) rfl W3.heap.size (#[.int .i64 us,.int .i64 ur,.int .i64 un,.int .i64 uk,.int .i64 uc,.int .i64 uq,.int .i64 um,.int .i64 ux]) rfl rfl 166 _ rN hi rfl hone8 ?_))
    clear hWN;have q:=setRow_heap WN W3.heap.size _ (#[.int .i64 us,.int .i64 ur,.int .i64 un,.int .i64 uk,.int .i64 uc,.int .i64 uq,.int .i64 um,.int .i64 ux]) 166 _ rN;replace bN:=Aj bN (A' _) (#[.int .i64 us,.int .i64 ur,.int .i64 un,.int .i64 uk,.int .i64 uc,.int .i64 uq,.int .i64 um,.int .i64 ux]);generalize WN.setRow W3.heap.size (#[.int .i64 us,.int .i64 ur,.int .i64 un,.int .i64 uk,.int .i64 uc,.int .i64 uq,.int .i64 um,.int .i64 ux])=W at q bN ⊢;have ltG3:W3.heap.size<W.heap.size:=(H'.1 q).1;have hcW:=hc2.below bN;have ltB3:B<W3.heap.size:=hc2.lt;have eW:=e2.trans (bN.mono (by omega));generalize W3.heap.size=G2 at q ltG3 ltB3 ⊢;clear rN hr4 hix bN hc2 e2 c2 s2 ltb4;apply XI (λborn W2=>∃ c',CMap W2 B c'/\(∀ u,Dm c' u=if u=⟨us,⟨ur,un⟩,⟨uk,uc,uq,um,ux⟩⟩then n+1 else Dm c u)/\W2.heap[G2]?=some (.cells (vtA ⟨us,⟨ur,un⟩,⟨uk,uc,uq,um,ux⟩⟩) 166 (0,0))/\Below B W W2)
    .intro K2 HK2;refine wp_region_held (S:=λw':World=>w'.heap[G2]?=some (.cells (vtA ⟨us,⟨ur,un⟩,⟨uk,uc,uq,um,ux⟩⟩) 166 (0,0))) (by kernel_rfl) ?_;have hS0:(λw':World=>w'.heap[G2]?=some (.cells (vtA ⟨us,⟨ur,un⟩,⟨uk,uc,uq,um,ux⟩⟩) 166 (0,0))) W.drew:=q;have hcd:CMap W.drew B c:=hcW.keep rfl;refine Ah (i:=0) 33 (v:=.map (some B)) rfl rfl (by kernel_rfl) (by kernel_rfl) (by kernel_rfl) (λ_ _ _ h=>h) (kt ⟨by rfl,λ_ _=>by kernel_rfl⟩) hS0 ?_;simp only[Act.put,N',Y',iM];refine Ah (i:=1) 34 (v:=.agg (vtA ⟨us,⟨ur,un⟩,⟨uk,uc,uq,um,ux⟩⟩)) rfl rfl (by kernel_rfl) (by kernel_rfl) (by kernel_rfl) (λ_ _ _ h=>h) (cz (by rfl) (.tmp 10) rfl G2 rfl ⟨us,⟨ur,un⟩,⟨uk,uc,uq,um,ux⟩⟩ (λw' hw'=>hw')) hS0 ?_;simp only[Act.put,N',Y',iM];obtain⟨ca,cd,born,w5,hrun5,hc5,ha5,hu5,b5,k5⟩:=hcd.entry ⟨us,⟨ur,un⟩,⟨uk,uc,uq,um,ux⟩⟩;have hn5:Dm c ⟨us,⟨ur,un⟩,⟨uk,uc,uq,um,ux⟩⟩=n:=hcn;rw[hn5]at hrun5 hc5 hu5
     have hS5:w5.heap[G2]?=some (.cells (vtA ⟨us,⟨ur,un⟩,⟨uk,uc,uq,um,ux⟩⟩) 166 (0,0)):=(k5 G2 (by omega)).trans hS0;obtain⟨w6,hrun6,hc6,b6,k6⟩:=hc5.store (n+1);have hS6:w6.heap[G2]?=some (.cells (vtA ⟨us,⟨ur,un⟩,⟨uk,uc,uq,um,ux⟩⟩) 166 (0,0)):=(k6 G2 (by omega)).trans hS5;have hlk0:=hcd.look ⟨us,⟨ur,un⟩,⟨uk,uc,uq,um,ux⟩⟩;rw[hn5]at hlk0
     have hlk5:=hc5.look ⟨us,⟨ur,un⟩,⟨uk,uc,uq,um,ux⟩⟩;rw[hu5,hn5]at hlk5
     have RES:Hid (∃ c',CMap w6 B c'/\(∀ u,Dm c' u=if u=⟨us,⟨ur,un⟩,⟨uk,uc,uq,um,ux⟩⟩then n+1 else Dm c u)/\w6.heap[G2]?=some (.cells (vtA ⟨us,⟨ur,un⟩,⟨uk,uc,uq,um,ux⟩⟩) 166 (0,0))/\Below B W w6):=⟨_,hc6,λu=>by rw[TZ (n:=n) ha5,hu5],hS6,((Below.refl B W).drew.trans b5).trans b6⟩;refine ZP (i:=2) (i':=4) (by kernel_rfl) (XD (i:=2) (d:=35) rfl (by kernel_rfl) rfl 274 (.tmp 33) (.tmp 34) rfl (.map (some B)) (.agg (vtA ⟨us,⟨ur,un⟩,⟨uk,uc,uq,um,ux⟩⟩)) (.int .i64 (n:Int)) (by kernel_rfl) (by kernel_rfl) hlk0 ⟨hS0,?_⟩) (Tm (i:=4) (d:=37) rfl (by kernel_rfl) rfl 274 (.tmp 33) (.tmp 34) rfl (.map (some B)) (.agg (vtA ⟨us,⟨ur,un⟩,⟨uk,uc,uq,um,ux⟩⟩)) (.tuple #[.int .i64 (n:Int),.int .i64 (born:Int)]) (by kernel_rfl) (by kernel_rfl) hrun5 ⟨hS5,?_⟩)
     .simp only[Act.put,N',Y',iM];refine Ah (i:=3) 36 (v:=.int .i64 ((n+1:Nat):Int)) rfl rfl (by kernel_rfl) (by kernel_rfl) (by kernel_rfl) (λ_ _ _ h=>h) (NE (by rfl) (.tmp 35) rfl n (n+1) rfl rfl (by omega)) hS0 ?_;simp only[Act.put,N',Y',iM];refine BK (i:=4) (by kernel_rfl) (Tm (i:=4) (d:=37) rfl (by kernel_rfl) rfl 274 (.tmp 33) (.tmp 34) rfl (.map (some B)) (.agg (vtA ⟨us,⟨ur,un⟩,⟨uk,uc,uq,um,ux⟩⟩)) (.tuple #[.int .i64 (n:Int),.int .i64 (born:Int)]) (by kernel_rfl) (by kernel_rfl) hrun5 ⟨hS5,?_⟩);simp only[Act.put,N',Y',iM];refine Ah (i:=5) 38 (v:=.int .i64 (born:Int)) rfl rfl (by kernel_rfl) (by kernel_rfl) (by kernel_rfl) (λ_ _ _ h=>h) (kt ⟨by rfl,λ_ _=>by kernel_rfl⟩) hS5 ?_;simp only[Act.put,N',Y',iM];refine BK (i:=6) (by kernel_rfl) (PL (i:=6) rfl (by kernel_rfl) rfl 274 (.tmp 33) (.tmp 38) (.tmp 36) rfl (.map (some B)) (.int .i64 (born:Int)) (.int .i64 ((n+1:Nat):Int)) (by kernel_rfl) (by kernel_rfl) (by kernel_rfl) hrun6 ⟨hS6,?_⟩);exact wpAnyH_done (by kernel_rfl) (HK2.out born _ RES.out) _
     .simp only[Act.put,N',Y',iM];refine Ah (i:=5) 38 (v:=.int .i64 (born:Int)) rfl rfl (by kernel_rfl) (by kernel_rfl) (by kernel_rfl) (λ_ _ _ h=>h) (kt ⟨by rfl,λ_ _=>by kernel_rfl⟩) hS5 ?_;simp only[Act.put,N',Y',iM];refine BK (i:=2) (by kernel_rfl) (XD (i:=2) (d:=35) rfl (by kernel_rfl) rfl 274 (.tmp 33) (.tmp 34) rfl (.map (some B)) (.agg (vtA ⟨us,⟨ur,un⟩,⟨uk,uc,uq,um,ux⟩⟩)) (.int .i64 (n:Int)) (by kernel_rfl) (by kernel_rfl) hlk5 ⟨hS5,?_⟩);simp only[Act.put,N',Y',iM];refine Ah (i:=3) 36 (v:=.int .i64 ((n+1:Nat):Int)) rfl rfl (by kernel_rfl) (by kernel_rfl) (by kernel_rfl) (λ_ _ _ h=>h) (NE (by rfl) (.tmp 35) rfl n (n+1) rfl rfl (by omega)) hS5 ?_;simp only[Act.put,N',Y',iM];refine BK (i:=6) (by kernel_rfl) (PL (i:=6) rfl (by kernel_rfl) rfl 274 (.tmp 33) (.tmp 38) (.tmp 36) rfl (.map (some B)) (.int .i64 (born:Int)) (.int .i64 ((n+1:Nat):Int)) (by kernel_rfl) (by kernel_rfl) (by kernel_rfl) hrun6 ⟨hS6,?_⟩);exact wpAnyH_done (by kernel_rfl) (HK2.out born _ RES.out) _
    intro born W5 hW5;obtain⟨c',hc5,hcc,q5,b5⟩:=hW5;have e5:=eW.trans b5;have hlk:=hc5.look ⟨us,⟨ur,un⟩,⟨uk,uc,uq,um,ux⟩⟩;rw[hcc,if_pos rfl]at hlk
    have HCC:Hid (∀ v,Dm c' v=BN (Af ((ac.take (j+1)).map (·.vs)).flatten s) v):=λv=>by rw[hcc,HNx.out v,HC.out v]
    have HC5:Hid (CMap W5 B c'):=hc5;clear hcc hc5 q eW b5 hcW HC;have hcast:((n+1:Nat):Int)=(n:Int)+1:=by omega
    rw[hcast]at hlk
    by_cases hbig:N<2*(n+1)
    .have HCH:Hid (H7 (En ac s) N=⟨uk,uc,uq,um,ux⟩/\H8 (En ac s) N=0):=by
      refine Nf (v:=⟨us,⟨ur,un⟩,⟨uk,uc,uq,um,ux⟩⟩) (QL ?_ ?_)
      .have g:=d8 HMay.out s;rw[HN.out]at g
       exact g
      .have g:=aD (Af ((ac.take (j+1)).map (·.vs)).flatten s) (Af ((ac.drop (j+1)).map (·.vs)).flatten s) ⟨us,⟨ur,un⟩,⟨uk,uc,uq,um,ux⟩⟩;rw[<- Dh,<- List.flatten_append,<- iS,jz,HN1.out]at g
       show N<2*BN (En ac s) ⟨us,⟨ur,un⟩,⟨uk,uc,uq,um,ux⟩⟩;unfold En;omega
     have hbigi:(N:Int)<2*((n:Int)+1):=by omega
     have x3:W5.cell? ⟨G2,3,none⟩=some (.int .i64 uk):=cell_of_row _ _ 3 _ _ _ q5;have x4:W5.cell? ⟨G2,4,none⟩=some (.int .i64 uc):=cell_of_row _ _ 4 _ _ _ q5;have x5:W5.cell? ⟨G2,5,none⟩=some (.int .i64 uq):=cell_of_row _ _ 5 _ _ _ q5;have x6:W5.cell? ⟨G2,6,none⟩=some (.int .i64 um):=cell_of_row _ _ 6 _ _ _ q5;have x7:W5.cell? ⟨G2,7,none⟩=some (.int .i64 ux):=cell_of_row _ _ 7 _ _ _ q5;have rR:=(e5.block w.heap.size hne).trans rr;have hone5:(#[.int .i64 uk,.int .i64 uc,.int .i64 uq,.int .i64 um,.int .i64 ux]:Array Value).all (·.oneCell')=true:=by simp[Value.oneCell']
     go_wp2_with ((with_reducible (refine As ?_));first|(refine wpList_load_row rfl 166 (.tmp 10) rfl G2 rfl 166 _ (0,0) _ q5 underlying166 rfl hi ?_)|(refine wpList_store_row rfl 25 (.tmp 4) (.tmp 47) rfl w.heap.size #[.int .i64 uk,.int .i64 uc,.int .i64 uq,.int .i64 um,.int .i64 ux] rfl rfl 25 _ rR Hl rfl hone5 ?_))
     have q9:=setRow_heap W5 w.heap.size _ (#[.int .i64 uk,.int .i64 uc,.int .i64 uq,.int .i64 um,.int .i64 ux]) 25 _ rR;have d9:=Aj (bb.trans (e5.mono (by omega))) (A' _) (#[.int .i64 uk,.int .i64 uc,.int .i64 uq,.int .i64 um,.int .i64 ux]);refine bodyPost_ret (FH rfl _ _ w.heap.size 25 _ (0,0) _ rfl q9 underlying25 rfl Hl) rfl ?_;rw[HCH.out.1,HCH.out.2];exact⟨rfl,d9⟩
    .have hbigi:¬ (N:Int)<2*((n:Int)+1):=by omega
     have HL2:Hid (∀ v,2*BN (Af ((ac.take (j+1)).map (·.vs)).flatten s) v<=N):=λv=>by
      rw[HNx.out v];split
      .omega
      .exact HL.out v
     clear HNx HN1 HL;go_wp2_with ((with_reducible (refine As ?_));(refine wpList_load_row rfl 166 (.tmp 10) rfl G2 rfl 166 _ (0,0) _ q5 underlying166 rfl hi ?_))
     go_roundw
     case rel=>exact⟨j+1,c',by omega,by go_num,HC5.out,HCC.out,HL2.out,e5⟩
     case measure=>simp[intOf];omega
  .have HCH:Hid (H7 (En ac s) N=⟨0,0,0,0,0⟩/\H8 (En ac s) N=9):=by
    refine Nd (VX λv=>?_);have g:=HL.out v;rw[iU (by have:=HN.out;omega)]at g
    exact g
   have rR:=(hbel.block w.heap.size hne).trans rr;go_wp2_with ((with_reducible (refine As ?_));(refine wpList_store_row rfl 25 (.tmp 4) (.tmp 49) rfl w.heap.size zV5 rfl rfl 25 _ rR Hl rfl hz5 ?_))
   have q9:=setRow_heap wr w.heap.size _ (zV5) 25 _ rR;have d9:=Aj (bb.trans (hbel.mono (by omega))) (A' _) (zV5);refine bodyPost_ret (FH rfl _ _ w.heap.size 25 _ (0,0) _ rfl q9 underlying25 rfl Hl) rfl ?_;rw[HCH.out.1,HCH.out.2];exact⟨rfl,d9⟩
theorem K4(x:Value)(ac:List Acc)(s:Int)(w:World)(h:Sac w x ac)(ht:NTab w) :
  Calls prog 147 #[x,.int .i64 s] w λe w'=>e=.returned (.tuple #[.agg (cmC (Cv ac s)),.int .i64 (CZ ac s)])/\Bw w w':=by
 have hlen:=h.len;obtain⟨ax,cp,rfl⟩:=h.shape;obtain⟨N,hN⟩:∃ N,ac.length=N:=⟨_,rfl⟩;have HN:Hid (ac.length=N):=hN;rw[hN]at h hlen ⊢
 clear hN;have hz5:(zV5:Array Value).all (·.oneCell')=true:=by simp[Value.oneCell']
 have rr:=heap_alloc_new w (.cells zV5 25);have bb:Bw w (w.alloc (.cells zV5 25)):=(Below.refl _ _).alloc (A' _) _;have z0:(w.alloc (.cells zV5 25)).heap.size=w.heap.size+1:=by simp
 generalize hW0:w.alloc (.cells zV5 25)=w1 at rr bb z0;have h0:=h.below bb;have t0:=ht.below bb;clear h ht;go_enter func147,ntmps147
 go_wp2_with fail
 clear hW0;refine(GM s _).mono ?_;rintro e w1 ⟨rfl,rfl⟩;by_cases h1:0<=s/\s<=39
 .rw[I' h1];by_cases h2:1<=(N:Int)/\(N:Int)<=5
  .have HS:Hid ((0<=s/\s<=39)/\(1<=(ac.length:Int)/\(ac.length:Int)<=5)):=⟨h1,by rw[HN.out];exact h2⟩;obtain⟨h2a,h2b⟩:=h2;have k1:¬ (N:Int)<1:=by omega
   have k2:¬ (5:Int)<(N:Int):=by omega
   clear h1;go_wp2_with fail
   clear k1 k2
   go_loopw [25] (λiv wr=>∃ j:Nat,j<=N/\iv=.int .i64 (j:Int)/\(∀ a∈ac.take j,An a)/\Bw w1 wr) (λiv _=>((N:Int)-intOf iv).toNat)
   case atStart=>exact⟨0,by omega,rfl,λa ha=>by simp at ha,Below.refl _ _⟩
   case round =>
    obtain⟨j,hj,rfl,hmay,hbel⟩:=hrel;have HMJ:Hid (∀ a∈ac.take j,An a):=hmay;clear hmay;have tr:=t0.below hbel;have hszr:=hbel.size;by_cases hjN:j<N
    .have hji:(j:Int)<(N:Int):=by omega
     obtain⟨A,hA⟩:∃ A,ac[j]?=some A:=⟨_,E' (by have:=HN.out;omega)⟩;obtain⟨b,off,y,rfl,ltb,hr0,hsy0⟩:=h0.spot j A hA;obtain⟨⟨pr,pn⟩,l⟩:=A;simp only at hr0 hsy0;have hixA:=Nq b off N cp j hjN;obtain⟨ay,cy,hy⟩:=hsy0.shape;obtain⟨M,hM⟩:∃ M,l.length=M:=⟨_,rfl⟩;rw[hM]at hy
     subst hy;have HJ:Hid (ac[j]?=some ⟨⟨pr,pn⟩,l⟩):=hA;clear hA hM;have hrw:=GU hbel ltb hr0;have hsy:=hsy0.below hbel;have bN:Bw wr (wr.alloc (.cells #[.int .i64 0,.int .i64 0,.slice none 0 0] 105)):=(Below.refl _ _).alloc (A' _) _;have rN:=heap_alloc_new wr (.cells #[.int .i64 0,.int .i64 0,.slice none 0 0] 105);have hone:(#[.int .i64 pr,.int .i64 pn,.slice ay M cy]:Array Value).all (·.oneCell')=true:=by simp[Value.oneCell']
     generalize hWN:wr.alloc (.cells #[.int .i64 0,.int .i64 0,.slice none 0 0] 105)=WN at bN rN
     go_upto_region 6 with((with_reducible (refine As ?_));first|(refine wpList_load_mid rfl 105 _ rfl b (off+3*j) rfl [.int .i64 pr,.int .i64 pn,.slice ay M cy] _ hrw underlying105 rfl V9 ?_)|(refine wpList_store_row rfl 105 (.tmp 7) (.tmp 28) rfl wr.heap.size (#[.int .i64 pr,.int .i64 pn,.slice ay M cy]) rfl rfl 105 _ rN V9 rfl hone ?_))
     clear hWN;have q:=setRow_heap WN wr.heap.size _ (#[.int .i64 pr,.int .i64 pn,.slice ay M cy]) 105 _ rN;replace bN:=Aj bN (A' _) (#[.int .i64 pr,.int .i64 pn,.slice ay M cy]);generalize WN.setRow wr.heap.size (#[.int .i64 pr,.int .i64 pn,.slice ay M cy])=W at q bN ⊢;have eW:=hbel.trans (bN.mono hbel.size);have sW:=hsy.below bN;have tW:=tr.below bN;generalize wr.heap.size=G at q ⊢;clear rN hrw hixA bN hsy hbel tr;go_wp2_with ((with_reducible (refine As ?_));refine wpList_load_row rfl 105 _ rfl G rfl 105 _ (0,0) _ q underlying105 rfl V9 ?_)
     refine(I5 ⟨pr,pn⟩ (.slice ay M cy) l W sW tW).mono ?_;rintro e W2 ⟨rfl,b2⟩;have e2:=eW.trans (b2.mono eW.size);clear b2 eW sW tW q;by_cases hA:An ⟨⟨pr,pn⟩,l⟩
     .rw[show Gn ⟨⟨pr,pn⟩,l⟩=0 from if_pos hA];have HMJ1:Hid (∀ a∈ac.take (j+1),An a):=Vs HJ.out HMJ.out hA;clear hA HMJ;go_wp2
      go_roundw
      case rel=>exact⟨j+1,by omega,by go_num,HMJ1.out,e2⟩
      case measure=>simp[intOf];omega
     .rw[show Gn ⟨⟨pr,pn⟩,l⟩=5 from if_neg hA];have HF:Hid (Cv ac s=⟨0,0,0,0,0⟩/\CZ ac s=5):=TV HS.out (λg=>hA (g _ (jG.2 ⟨j,HJ.out⟩)));clear hA HMJ;have rR:=(e2.block w.heap.size (by omega)).trans rr;go_wp2_with ((with_reducible (refine As ?_));refine wpList_store_row rfl 25 (.tmp 4) (.tmp 33) rfl w.heap.size zV5 rfl rfl 25 _ rR Hl rfl hz5 ?_)
      have q9:=setRow_heap W2 w.heap.size _ (zV5) 25 _ rR;have d9:=Aj (bb.trans (e2.mono (by omega))) (A' _) (zV5);refine bodyPost_ret (FH rfl _ _ w.heap.size 25 _ (0,0) _ rfl q9 underlying25 rfl Hl) rfl ?_;rw[HF.out.1,HF.out.2];exact⟨rfl,d9⟩
    .have HAll:Hid (∀ a∈ac,An a):=by
      have g:=HMJ.out;rw[iU (by have:=HN.out;omega)]at g
      exact g
     have HF:Hid (Cv ac s=H7 (En ac s) N/\CZ ac s=H8 (En ac s) N):=by
      have hn:=HN.out;cases ho:Hk (En ac s) N with
      | none =>
       obtain⟨g1,g2⟩:=VZ HS.out HAll.out (by rw[hn];exact ho);obtain⟨g3,g4⟩:=Nd ho;exact⟨g1.trans g3.symm,g2.trans g4.symm⟩
      | some v =>
       obtain⟨g1,g2⟩:=Wa HS.out HAll.out (x:=v) (by rw[hn];exact ho);obtain⟨g3,g4⟩:=Nf ho;exact⟨g1.trans g3.symm,g2.trans g4.symm⟩
     clear HMJ;have dr:=bb.trans (hbel.mono (by omega));have rR:=(hbel.block w.heap.size (by omega)).trans rr;have hsac:=h0.below hbel;go_wp2_with fail
     refine(X3 _ ac s wr hsac (by have:=HN.out;omega) HAll.out).mono ?_;rintro e W2 ⟨rfl,b2⟩;rw[HN.out];have d2:=dr.trans (b2.mono dr.size);replace rR:=(b2.block w.heap.size (by omega)).trans rR;generalize H7 (En ac s) N=C at HF ⊢;generalize H8 (En ac s) N=E at HF ⊢;obtain⟨ck,cc,cs,cn,cv⟩:=C;have hone5:(#[.int .i64 ck,.int .i64 cc,.int .i64 cs,.int .i64 cn,.int .i64 cv]:Array Value).all (·.oneCell')=true:=by simp[Value.oneCell']
     simp only[cmC,cmA];go_wp2_with ((with_reducible (refine As ?_));refine wpList_store_row rfl 25 (.tmp 4) (.tmp 39) rfl w.heap.size #[.int .i64 ck,.int .i64 cc,.int .i64 cs,.int .i64 cn,.int .i64 cv] rfl rfl 25 _ rR Hl rfl hone5 ?_)
     have q9:=setRow_heap W2 w.heap.size _ (#[.int .i64 ck,.int .i64 cc,.int .i64 cs,.int .i64 cn,.int .i64 cv]) 25 _ rR;have d9:=Aj d2 (A' _) (#[.int .i64 ck,.int .i64 cc,.int .i64 cs,.int .i64 cn,.int .i64 cv]);refine bodyPost_ret (FH rfl _ _ w.heap.size 25 _ (0,0) _ rfl q9 underlying25 rfl Hl) rfl ?_;rw[HF.out.1,HF.out.2];exact⟨rfl,d9⟩
  .have HF:Hid (Cv ac s=⟨0,0,0,0,0⟩/\CZ ac s=2):=I6 (λg=>h2 (by have:=g.2;rw[HN.out]at this;exact this));clear h1;by_cases h3:(N:Int)<1
   .clear h2;go_wp2_with ((with_reducible (refine As ?_));refine wpList_store_row rfl 25 (.tmp 4) (.tmp 22) rfl w.heap.size zV5 rfl rfl 25 _ rr Hl rfl hz5 ?_)
    have q9:=setRow_heap w1 w.heap.size _ (zV5) 25 _ rr;have d9:=Aj bb (A' _) (zV5);refine bodyPost_ret (FH rfl _ _ w.heap.size 25 _ (0,0) _ rfl q9 underlying25 rfl Hl) rfl ?_;rw[HF.out.1,HF.out.2];exact⟨rfl,d9⟩
   .have h4:(5:Int)<(N:Int):=by omega
    clear h2;go_wp2_with ((with_reducible (refine As ?_));refine wpList_store_row rfl 25 (.tmp 4) (.tmp 22) rfl w.heap.size zV5 rfl rfl 25 _ rr Hl rfl hz5 ?_)
    have q9:=setRow_heap w1 w.heap.size _ (zV5) 25 _ rr;have d9:=Aj bb (A' _) (zV5);refine bodyPost_ret (FH rfl _ _ w.heap.size 25 _ (0,0) _ rfl q9 underlying25 rfl Hl) rfl ?_;rw[HF.out.1,HF.out.2];exact⟨rfl,d9⟩
 .rw[D' h1];have HF:Hid (Cv ac s=⟨0,0,0,0,0⟩/\CZ ac s=2):=I6 (λg=>h1 g.1);clear h1;go_wp2_with ((with_reducible (refine As ?_));refine wpList_store_row rfl 25 (.tmp 4) (.tmp 22) rfl w.heap.size zV5 rfl rfl 25 _ rr Hl rfl hz5 ?_)
  have q9:=setRow_heap w1 w.heap.size _ (zV5) 25 _ rr;have d9:=Aj bb (A' _) (zV5);refine bodyPost_ret (FH rfl _ _ w.heap.size 25 _ (0,0) _ rfl q9 underlying25 rfl Hl) rfl ?_;rw[HF.out.1,HF.out.2];exact⟨rfl,d9⟩
theorem Lf{g:Gh}{x:NX}(hr:w.heap[nb]?=some (.cells (AB i ob p x) 123))(hj:j<5):w.rangeAt nb (18+3*j) [iv (p.rnd.heard j).p.r,iv (p.rnd.heard j).p.n,S3.v (x.hv j)]:=by
 rcases five hj with rfl|rfl|rfl|rfl|rfl<;>exact Qa hr _ _ rfl
theorem PG{x:NX}(h:NodeAt g w i nb ob x p):Sac w (.slice (some ⟨nb,18,none⟩) 5 5) p.rnd.accs:=by
 refine⟨⟨some ⟨nb,18,none⟩,5,rfl,.inr ⟨nb,18,rfl,rl h.row,λj A hA=>?_⟩⟩,by show 5<=3518437208780;decide⟩;have hj:j<5:=by have:=(Q'.1 hA).1;exact this
 refine⟨S3.v (x.hv j),?_⟩;have h1:=Lf (g:=g) h.row hj;have h2:=(h.heard j hj).s;rcases five hj with rfl|rfl|rfl|rfl|rfl<;>(simp[Rnd.accs]at hA;subst hA;exact⟨h1,h2⟩)
theorem VW{s:Int}(h:40<=s):CZ ac s≠0:=by rw[(I6 (by omega)).2];decide
theorem VY{n:Nat}(h:CZ ac (n:Int)=0):n<=39:=by
 rcases jt 39 n with h2|h2
 .exact absurd h (VW (by omega))
 .exact h2
theorem gm{a:Acc}{y:S3}(h:W.rangeAt b k [iv a.p.r,iv a.p.n,S3.v y]):(Instr.loadAt 105 (pt b k)).run prog W=.ok (.agg #[iv a.p.r,iv a.p.n,S3.v y]) W:=by
 have h1:=run_loadVar_mid (P:=prog) W b k 105 _ _ h underlying105 rfl (by kernel_rfl);simp only[Instr.loadAt,Instr.sureAddr,Sem.run_bind,Sem.run_pure,Result.andThen_ok];exact h1
theorem AP.at{L:List Sh}(h:AP L W)(k b:Nat)(o:Obj)(t:Tg)(hx:L[k]?=some ⟨b,o,t,false⟩):W.heap[b]?=some o:=h _ (jg hx)
theorem Fq(h:NS i nb ob g w p ls ts)(hB:Base w0 g w)(hT:Tabs w0)(hb:p.agreed.length<=40) :
  Calls prog 114 #[pt nb 0] w (NP i nb ob g w (.tuple #[]) p.learnC ls ts):=by
 obtain⟨x,lt,tl,hN,hO,hg⟩:=h;refine gI (fn:=f114) (TN i) g func114 hg ?_;refine qN hN ?_;refine qO hO ?_;refine qR [] 1 [] λs1 g1 w1 c1=>?_;refine BI 34 [(0,pt nb 0)] [false,false] [] (λk g' w' e L=>∃ l:List Cmd,e=[(0,pt nb 0)]/\L=[]/\NS i nb ob g' w' { p with agreed:=l } ls ts/\KW k p.rnd l=KW 41 p.rnd p.agreed/\41<=l.length+k/\l.length<=41/\Cg w.heap.size (TN i) g w g' w') (by kernel_rfl) (by kernel_rfl) (by kernel_rfl) (by kernel_rfl) 41 (λK=>?_) ?_
 .have C2:=c1;exact⟨p.agreed,rfl,rfl,(nsC hN hO C2 K),rfl,by omega,by omega,(c1.nil (TN i))⟩
 .rintro k gr wr _ zr _ ⟨l,rfl,rfl,hM,hI,hk1,hk2,hC⟩ J hJ;obtain⟨xr,ltr,tlr,hNr,hOr,hgr⟩:=hM;refine qN hNr ?_;refine qO hOr ?_;have hln:xr.agreed.n=l.length:=hNr.agreed.num;refine qR [] 15 [19,0,2,4,6,8,10,12,14,16,18,20,0,22] λs3 g3 w3 c3=>?_;refine BX 34 (λg' w' e L=>∃ (bA:Nat),e=[(0,pt nb 0),(2,pt bA 0),(3,iv (CZ p.rnd.accs (xr.agreed.n:Int)))]/\L=[⟨nb,.cells (AB i ob ({ p with agreed:=l }) xr) 123,.n 0 i,false⟩,⟨ob,.cells #[S3.v ltr,S3.v tlr] 94,.n 50 0,false⟩,⟨bA,.cells #[iv (Cv p.rnd.accs (xr.agreed.n:Int)).k,iv (Cv p.rnd.accs (xr.agreed.n:Int)).c,iv (Cv p.rnd.accs (xr.agreed.n:Int)).s,iv (Cv p.rnd.accs (xr.agreed.n:Int)).n,iv (Cv p.rnd.accs (xr.agreed.n:Int)).v] 25,.l,false⟩]/\Cg w.heap.size [] gr wr g' w') (by kernel_rfl) ?_ ?_
  .intro J hJ;refine CN 12 16 (by kernel_rfl) ?_ ?_
   .have hS6:=PG (hNr.ch c3);have hB6:=hB.ch (((hC.n c3))) (Bi i);refine qC 12 (K4 _ _ (xr.agreed.n:Int) w3 hS6 (hB6.tn hT)) ?_;rintro e' w7 ⟨rfl,b7⟩;refine⟨_,rfl,b7,?_⟩;have c7:=Cg.ofBelow (B:=w.heap.size) (T:=[]) (g:=g3) b7;refine qR [] 7 [26,28,30,33,1,0,35,2,0,36] λs8 g8 w8 c8=>?_;exact qB [true,true,true] λz K0 K=>hJ _ _ _ z _ ⟨(s8 0),rfl,rfl,((c3.trans c7).trans c8)⟩ K
   .refine qR [] 1 [1,0] λs9 g9 w9 c9=>?_;have hS10:=PG (hNr.ch (c3.trans c9));have hB10:=hB.ch (hC.trans ((c3.trans c9).nil _)) (Bi i);refine qC 12 (K4 _ _ (xr.agreed.n:Int) w9 hS10 (hB10.tn hT)) ?_;rintro e' w11 ⟨rfl,b11⟩;refine⟨_,rfl,b11,?_⟩;have c11:=Cg.ofBelow (B:=w.heap.size) (T:=[]) (g:=g9) b11;refine qR [] 6 [26,28,30,35,2,0,36] λs12 g12 w12 c12=>?_;exact qB [true,true,true] λz K0 K=>hJ _ _ _ z _ ⟨(s9 0),rfl,rfl,(((c3.trans c9).trans c11).trans c12)⟩ K
  .rintro g4 w4 _ z4 _ ⟨bA,rfl,rfl,hc⟩;refine qR [] 6 [] λs13 g13 w13 c13=>?_;by_cases h1:CZ p.rnd.accs (xr.agreed.n:Int)≠0
   .refine qI (((CZ p.rnd.accs (xr.agreed.n:Int)) != 0)) true (by simpa using h1) ?_;refine qE (.tuple #[]) λK=>?_;have hE:p.learnC={ p with agreed:=l }:=by unfold Nod.learnC;rw[<- hI];cases k with|zero=>rfl|succ k=>rw[KW,if_neg (by rw[<- hln];exact h1)]
    rw[hE];exact⟨_,rfl,(nsC hNr hOr (hc.n c13) K),((hC.n hc).n c13)⟩
   .refine qI (((CZ p.rnd.accs (xr.agreed.n:Int)) != 0)) false (by simpa using h1) ?_;have h10:CZ p.rnd.accs (xr.agreed.n:Int)=0:=by simpa using h1
    have hl39:l.length<=39:=by rw[<- hln];exact VY h10
    obtain⟨k,rfl⟩:∃ k1,k=k1+1:=⟨k-1,by omega⟩;refine qR [] 10 [12,0,2,4,6,8,10,0,12,2,15,0,0] λs16 g16 w16 c16=>?_;refine JI 8 (x:=xr.agreed) 37 37 25 5 40 (.agg #[iv 0,iv 0,iv 0,iv 0,iv 0]) ⟨(s16 0),0,none⟩ 1 1 [iv (Cv p.rnd.accs (xr.agreed.n:Int)).k,iv (Cv p.rnd.accs (xr.agreed.n:Int)).c,iv (Cv p.rnd.accs (xr.agreed.n:Int)).s,iv (Cv p.rnd.accs (xr.agreed.n:Int)).n,iv (Cv p.rnd.accs (xr.agreed.n:Int)).v] (hNr.agreed.ch ((hc.trans c13).trans c16) (by simp) (by simp)) (by kernel_rfl) (by kernel_rfl) (by kernel_rfl) underlying37 (by kernel_rfl) (by kernel_rfl) (by decide) (by decide) rfl (by simp[Value.oneCell']) (λK=>BL K 3 (s16 0) [iv (Cv p.rnd.accs (xr.agreed.n:Int)).k,iv (Cv p.rnd.accs (xr.agreed.n:Int)).c,iv (Cv p.rnd.accs (xr.agreed.n:Int)).s,iv (Cv p.rnd.accs (xr.agreed.n:Int)).n,iv (Cv p.rnd.accs (xr.agreed.n:Int)).v] 25 .z true (by kernel_rfl)) (by unfold maxLen;omega) (by omega) ?_;intro y17 g17 w17 a17 n17 cc17 G17;have c17:=cc17 w.heap.size [.n 3 i] (O'.2 rfl);refine qR [.n 0 i] 6 [18,20,22,25,0,1] λs18 g18 w18 c18=>?_;refine DX J 34 [(0,pt nb 0)] [false,false,false,false] [] (by kernel_rfl) (by kernel_rfl) (by kernel_rfl) (by kernel_rfl) (by kernel_rfl) (λz K0 K=>?_);have hcc:Cv p.rnd.accs (xr.agreed.n:Int)=Cv p.rnd.accs (l.length:Int):=by rw[hln]
    refine hJ k _ _ _ z _ (by omega) ⟨l++[Cv p.rnd.accs (l.length:Int)],rfl,rfl,?_,?_,by simp;omega,by simp;omega,(((((hC.n hc).n c13).n c16).trans (c17.mono (by simp[TN]))).trans (c18.mono (by simp[TN])))⟩ K
    skip
    have C19:=((((hc.nil ([.n 3 i,.n 0 i]:List Tg)).n c13).n c16).m c17).m c18;have Z19:Tg.z∉([.n 3 i,.n 0 i]:List Tg):=by simp
    .rw[<- hcc];exact⟨{ xr with agreed:=y17 },ltr,tlr,K0.nd 0 (hNr.tape.ch C19 Z19) (hNr.votes.ch C19 Z19) (Bl hNr.heard C19 Z19) (BP hNr.pend C19 Z19 (by simp)) (hNr.queue.ch C19) (by rw[Cd];exact a17.ch c18) (hNr.wants.ch C19) (hNr.asked.ch C19) hNr.upm,hOr.ch C19 Z19 (by simp<;>omega),K0.new⟩
    .rw[<- hI,KW,if_pos (by rw[<- hln];exact h10)]
theorem MM(h:NS i nb ob g w p ls ts)(hB:Base w0 g w)(hT:Tabs w0)(j:Nat)(hj:j<5)(v:Vt)(hb:p.agreed.length<=40) :
  Calls prog 117 #[pt nb 0,iv (j:Int),.agg #[iv v.slot,iv v.b.r,iv v.b.n,iv v.w.k,iv v.w.c,iv v.w.s,iv v.w.n,iv v.w.v]] w (NP i nb ob g w (.tuple #[]) (p.count j v) ls ts):=by
 obtain⟨x,lt,tl,hN,hO,hg⟩:=h;refine gI (fn:=f117) (TN i) g func117 hg ?_;refine qN hN ?_;refine qO hO ?_;refine qR [] 15 [0,0,9,0,2,2,4,6,8,10,12,14,0] λs1 g1 w1 c1=>?_;by_cases h1:v.b≠p.rnd.bal
 .refine qT 8 (.bool true) (λ_=>(Nm (x:=(.tmp 9)) (y:=(.tmp 15)) v.b p.rnd.bal h1)) ?_;refine qR [] 2 [] λs2 g2 w2 c2=>?_;refine qE (.tuple #[]) λK=>?_;rw[show p.count j v=p from if_pos h1];exact⟨_,rfl,(nsC hN hO (c1.n c2) K),((c1.nil (TN i)).n c2)⟩
 .have h10:v.b=p.rnd.bal:=by simpa using h1
  refine qT 8 (.bool false) (λ_=>(Nl (x:=(.tmp 9)) (y:=(.tmp 15)) v.b p.rnd.bal h10)) ?_;refine qR [] 11 [16,0,2,4,6,8,10] λs4 g4 w4 c4=>?_;refine Pq 6 (pt nb (18+3*j)) false (λW hW=>by rcases five hj with rfl|rfl|rfl|rfl|rfl<;>kernel_rfl) (by kernel_rfl) ?_;refine qU 7 (.agg #[iv (p.rnd.heard j).p.r,iv (p.rnd.heard j).p.n,S3.v (x.hv j)]) (λW hW=>(gm (Lf (g:=g) (AP.at (hW rfl) 0 nb (.cells (AB i ob p x) 123) (.n 0 i) (by kernel_rfl)) hj))) ?_;refine qR [] 1 [16,2] λs6 g6 w6 c6=>?_;refine BX 42 (λg' w' e L=>∃ (ys:S3) (bA:Nat),e=[(0,pt nb 0),(1,iv (j:Int)),(6,pt bA 0),(7,iv (AQ (p.rnd.heard j) v))]/\L=[⟨nb,.cells (AB i ob p x) 123,.n 0 i,false⟩,⟨ob,.cells #[S3.v lt,S3.v tl] 94,.n 50 0,false⟩,⟨(s1 0),.cells #[iv v.slot,iv v.b.r,iv v.b.n,iv v.w.k,iv v.w.c,iv v.w.s,iv v.w.n,iv v.w.v] 166,.z,false⟩,⟨bA,.cells #[iv (BR (p.rnd.heard j) v).r,iv (BR (p.rnd.heard j) v).n,S3.v ys] 105,.l,false⟩]/\FSv g' w' ys (Ca (p.rnd.heard j) v)/\Cg w.heap.size [] g w g' w') (by kernel_rfl) ?_ ?_
  .intro J hJ;refine CN 9 13 (by kernel_rfl) ?_ ?_
   .refine Ag λKq9=>?_;have hS9:=((hN.heard j hj).ch ((c1.trans c4).trans c6) (by simp)).s;have hB9:=hB.ch ((c1.trans c4).trans c6) (by simp);have hG9:∀ z,w6.heap.size<=z->g6.t z=.z:=λz hz=>(Kq9.new z hz).1;refine qC 9 (Cb (p.rnd.heard j).p _ (p.rnd.heard j).vs v w6 hS9 (hB9.tn hT)) ?_;rintro e' w10 ⟨y10,rfl,hy10,hl10,b10⟩;refine⟨_,rfl,b10,?_⟩;have c10:=Cg.ofBelow (B:=w.heap.size) (T:=[]) (g:=g6) b10;obtain⟨ys10,rfl,hyn10,hys10⟩:=D0 hy10 hG9 (by omega);refine qR [] 7 [20,22,24,27,1,0,29,3,0,30] λs11 g11 w11 c11=>?_;exact qB [true,true,true,true] λz K0 K=>hJ _ _ _ z _ ⟨ys10,(s11 0),rfl,rfl,(hys10.ch c11),((((c1.trans c4).trans c6).trans c10).trans c11)⟩ K
   .refine qR [] 1 [1,0] λs12 g12 w12 c12=>?_;refine Ag λKq13=>?_;have hS13:=((hN.heard j hj).ch (((c1.trans c4).trans c6).trans c12) (by simp)).s;have hB13:=hB.ch (((c1.trans c4).trans c6).trans c12) (by simp);have hG13:∀ z,w12.heap.size<=z->g12.t z=.z:=λz hz=>(Kq13.new z hz).1;refine qC 9 (Cb (p.rnd.heard j).p _ (p.rnd.heard j).vs v w12 hS13 (hB13.tn hT)) ?_;rintro e' w14 ⟨y14,rfl,hy14,hl14,b14⟩;refine⟨_,rfl,b14,?_⟩;have c14:=Cg.ofBelow (B:=w.heap.size) (T:=[]) (g:=g12) b14;obtain⟨ys14,rfl,hyn14,hys14⟩:=D0 hy14 hG13 (by omega);refine qR [] 6 [20,22,24,29,3,0,30] λs15 g15 w15 c15=>?_;exact qB [true,true,true,true] λz K0 K=>hJ _ _ _ z _ ⟨ys14,(s12 0),rfl,rfl,(hys14.ch c15),(((((c1.trans c4).trans c6).trans c12).trans c14).trans c15)⟩ K
  .rintro g7 w7 _ z7 _ ⟨ys,bA,rfl,rfl,hys,hc⟩;refine qR [] 6 [] λs16 g16 w16 c16=>?_;by_cases h2:AQ (p.rnd.heard j) v≠0
   .refine qI (((AQ (p.rnd.heard j) v) != 0)) true (by simpa using h2) ?_;refine qE (.tuple #[]) λK=>?_;rw[show p.count j v=p from by unfold Nod.count;rw[if_neg h1,if_pos h2]];exact⟨_,rfl,(nsC hN hO (hc.n c16) K),((hc.nil (TN i)).n c16)⟩
   .refine qI (((AQ (p.rnd.heard j) v) != 0)) false (by simpa using h2) ?_;refine qR [] 10 [8,0,2,4,3,6,8,10,12] λs19 g19 w19 c19=>?_;refine BX 42 (λg' w' e L=>e=[(0,pt nb 0)]/\L=[⟨nb,.cells (AB i ob ({ p with rnd:={ p.rnd with heard:=upN p.rnd.heard j ⟨BR (p.rnd.heard j) v,Ca (p.rnd.heard j) v⟩ } }) ({ x with hv:=upN x.hv j ys })) 123,.n 0 i,false⟩,⟨ob,.cells #[S3.v lt,S3.v tl] 94,.n 50 0,false⟩,⟨(s1 0),.cells #[iv v.slot,iv v.b.r,iv v.b.n,iv v.w.k,iv v.w.c,iv v.w.s,iv v.w.n,iv v.w.v] 166,.z,false⟩,⟨bA,.cells #[iv (BR (p.rnd.heard j) v).r,iv (BR (p.rnd.heard j) v).n,S3.v ys] 105,.l,false⟩]/\True/\Cg w.heap.size ([.n 0 i]:List Tg) g19 w19 g' w') (by kernel_rfl) ?_ ?_
    .intro J hJ;rcases five hj with rfl|rfl|rfl|rfl|rfl <;>
     (refine qR [.n 0 i] 3 [14,17,0,1] λs21 g21 w21 c21=>?_;exact qB [true,true,true,true] λz K0 K=>hJ _ _ _ z _ ⟨rfl,rfl,trivial,c21⟩ K)
    rintro g20 w20 _ z20 _ ⟨rfl,rfl,_,c20⟩;refine qR [] 2 [] λs22 g22 w22 c22=>?_;rw[show p.count j v=Nod.learnC { p with rnd:={ p.rnd with heard:=upN p.rnd.heard j ⟨BR (p.rnd.heard j) v,Ca (p.rnd.heard j) v⟩ } }from by unfold Nod.count;rw[if_neg h1,if_neg h2]];refine Ag λK=>?_;have C24:=((((hc.nil ([.n 0 i]:List Tg)).n c16).n c19).trans (c20)).n c22;have Z24:Tg.z∉([.n 0 i]:List Tg):=by simp
    have N23:NS i nb ob g22 w22 ({ p with rnd:={ p.rnd with heard:=upN p.rnd.heard j ⟨BR (p.rnd.heard j) v,Ca (p.rnd.heard j) v⟩ } }) ls ts:=⟨{ x with hv:=upN x.hv j ys },lt,tl,K.nd 0 (hN.tape.ch C24 Z24) (hN.votes.ch C24 Z24) (λk hk=>(by show FSv _ _ (upN x.hv j ys k) (upN p.rnd.heard j ⟨BR (p.rnd.heard j) v,Ca (p.rnd.heard j) v⟩ k).vs;unfold upN;split;exact((((hys.ch c16).ch c19).ch c20).ch c22);exact(hN.heard k hk).ch C24 Z24)) (BP hN.pend C24 Z24 (by simp)) (hN.queue.ch C24) (hN.agreed.ch C24) (hN.wants.ch C24) (hN.asked.ch C24) hN.upm,hO.ch C24 Z24 (by simp<;>omega),K.new⟩;refine qS0 1 [false,false,true,true] (Fq N23 (hB.ch (((((hc.nil (TN i)).n c16).n c19).trans (c20.mono (by simp[TN]))).n c22) (Bi i)) hT hb) λg23 w23 x23 lt23 tl23 hN23 hO23 c23=>?_;refine qR [] 1 [] λs25 g25 w25 c25=>?_;exact qF hN23 hO23 c25 (((((((hc.nil (TN i)).n c16).n c19).trans (c20.mono (by simp[TN]))).n c22).trans (c23)).n c25)
theorem O6(h:NS i nb ob g w p ls ts)(hB:Base w0 g w)(hT:Tabs w0)(lb:Nat)(l:Let)(hl:Cu g w lb l)(hs:l.src<5)(hb:p.agreed.length<=40) :
  Calls prog 74 #[pt nb 0,pt lb 0] w (NP i nb ob g w (.tuple #[]) (p.count l.src l.vote) ls ts):=by
 obtain⟨x,lt,tl,hN,hO,hg⟩:=h;refine gI (fn:=f74) (TN i) g func74 hg ?_;refine qN hN ?_;refine qO hO ?_;obtain⟨vs,wh,hl1,hl2,hl3⟩:=hl;refine BW ⟨lb,.cells (EQ l vs wh) 168,.z,false⟩ (λ_=>⟨hl1.r,hl1.z,λh=>(by cases h),λh=>absurd rfl h⟩) (by kernel_rfl) ?_;refine qR [] 10 [9,0,2,4,6,8,2,10,12,14,16,2] λs1 g1 w1 c1=>?_;refine qS 9 [false,false,true] hN hO c1 (λN2=>MM N2 (hB.ch (c1.nil (TN i)) (Bi i)) hT l.src hs l.vote hb) λg2 w2 x2 lt2 tl2 hN2 hO2 c2=>?_;refine qR [] 1 [] λs4 g4 w4 c4=>?_;exact qF hN2 hO2 c4 (((c1.nil (TN i)).trans (c2)).n c4)
theorem Gd(q:List Cmd)(c:Cmd)(l:List Cmd):Pi q (c::l)=Pi (if q.length<40/\c∉q then q++[c]else q) l:=rfl
theorem Dq{l:List Cmd}{c:Cmd}(h:l[j]?=some c):l.drop j=c::l.drop (j+1):=by
 obtain⟨h1,h2⟩:=Q'.1 h;rw[<- h2];exact js h1
theorem Zz(q l:List Cmd)(h:q.length<=40):(Pi q l).length<=40:=by
 induction l generalizing q with
 | nil=>exact h
 | cons c l ih =>
  rw[Gd];refine ih _ ?_;split
  .rw[G'];show _+1<=_;omega
  .exact h
theorem Jj(h:NS i nb ob g w p ls ts)(what:List Cmd)(wh:S3)(hw:Rc g w wh what)(hb:what.length<100000000)(hq:p.rnd.queue.length<=40) :
  Calls prog 119 #[pt nb 0,wh.v] w (NP i nb ob g w (.tuple #[]) (p.enqueue what) ls ts):=by
 have hNS:=h;obtain⟨x,lt,tl,hN,hO,hg⟩:=h;have hwn:=hw.len;refine gI (fn:=f119) (TN i) g func119 hg ?_;refine qN hN ?_;refine qO hO ?_;refine qR [] 4 [] λs1 g1 w1 c1=>?_;refine Ag λK=>?_;have N3:NS i nb ob g1 w1 p ls ts:=(nsC hN hO c1 K);refine qC 1 (MY N3) ?_;rintro e' w4 ⟨rfl,b4⟩;refine⟨_,rfl,b4,?_⟩;have c4:=Cg.ofBelow (B:=w.heap.size) (T:=[]) (g:=g1) b4;refine qR [] 2 [] λs5 g5 w5 c5=>?_;by_cases h1:p.leads=true
 .refine qI ((!p.leads)) false (by simpa using h1) ?_;rw[show p.enqueue what={ p with rnd:={ p.rnd with queue:=Pi p.rnd.queue what } }from if_pos h1];refine qR [] 8 [] λs6 g6 w6 c6=>?_;refine BI 49 [(0,pt nb 0),(9,S3.v wh),(10,iv (wh.n:Int)),(11,iv 0)] [false,false] [] (λk g' w' e L=>∃ (j:Nat) (q:List Cmd),k=what.length-j/\j<=what.length/\e=[(0,pt nb 0),(9,S3.v wh),(10,iv (wh.n:Int)),(11,iv (j:Int))]/\L=[]/\NS i nb ob g' w' { p with rnd:={ p.rnd with queue:=q } } ls ts/\Pi q (what.drop j)=Pi p.rnd.queue what/\q.length<=40/\Cg w.heap.size (TN i) g w g' w') (by kernel_rfl) (by kernel_rfl) (by kernel_rfl) (by kernel_rfl) what.length (λK=>?_) ?_
  .have C7:=((c1.n c4).n c5).n c6;exact⟨0,p.rnd.queue,rfl,by omega,rfl,rfl,(nsC hN hO C7 K),rfl,hq,((((c1.nil (TN i)).n c4).n c5).n c6)⟩
  .rintro k gr wr _ zr _ ⟨j,q,rfl,hj,rfl,rfl,hM,hI,hq1,hC⟩ J hJ;obtain⟨xr,ltr,tlr,hNr,hOr,hgr⟩:=hM;refine qN hNr ?_;refine qO hOr ?_;have hqn:xr.queue.n=q.length:=hNr.queue.num;refine qR [] 5 [] λs8 g8 w8 c8=>?_;by_cases h2:j<what.length
   .refine qI ((decide ((j:Int)<(wh.n:Int)))) true (I' (by omega)) ?_;obtain⟨c,hcj⟩:∃ c,what[j]?=some c:=⟨_,E' h2⟩;have hwr:=hw.ch hC (Bi i);obtain⟨bx,ox,hxa⟩:=hw.addr h2;refine qR [] 5 [] λs9 g9 w9 c9=>?_;refine qV 0 (pt bx (ox+5*j)) (Lr hxa j (by omega)) ?_;have hwz:=hwr.ch (c8.trans c9);refine qV 1 (.agg #[iv c.k,iv c.c,iv c.s,iv c.n,iv c.v]) (Ou c λq_ u hu=>hwz.cellAt hxa hcj hu) ?_;refine qR [] 12 [0,0,2,0,19,0,2,4,6,8,10,0,12] λs11 g11 w11 c11=>?_;by_cases h3:(xr.queue.n:Int)<40
    .refine qT 7 (.bool true) (λ_=>(rLt (t:=3) (x:=(.tmp 21)) (y:=(.const (iv 40))) (I' h3))) ?_;refine qR [] 8 [16,18,20,22,24,26,28,0,30,2] λs12 g12 w12 c12=>?_;refine qC 16 (EL (l:=q) (hNr.queue.ch (((c8.trans c9).trans c11).trans c12) (by simp) (by simp)).rd (by omega) c) ?_;rintro e' w13 ⟨rfl,b13⟩;refine⟨_,rfl,b13,?_⟩;have c13:=Cg.ofBelow (B:=w.heap.size) (T:=[]) (g:=g12) b13;refine qR [] 3 [34,36] λs14 g14 w14 c14=>?_;by_cases h4:c∈q
     .refine qI ((!(decide (c∈q)))) false (by simpa using h4) ?_;refine qR [] 3 [] λs15 g15 w15 c15=>?_;refine qV 0 (iv ((j:Int)+1)) (AD (x:=(.tmp 11)) (y:=(.const (iv 1))) (j:Int) 1 underlying3 (by omega)) ?_;refine qR [] 2 [] λs16 g16 w16 c16=>?_;refine qB [false,false,false] λz K0 K=>hJ (what.length-(j+1)) _ _ _ z _ (by omega) ⟨j+1,q,rfl,by omega,rfl,rfl,?_,?_,by omega,((((((((hC.n c8).n c9).n c11).n c12).n c13).n c14).n c15).n c16)⟩ K
      .exact(nsC hNr hOr (((((((c8.n c9).n c11).n c12).n c13).n c14).n c15).n c16) K0)
      .rw[<- hI,Dq hcj,Gd,if_neg (λh=>h.2 h4)]
     .refine qI ((!(decide (c∈q)))) true (by simpa using h4) ?_;refine qR [] 10 [14,0,2,4,6,8,10,12,0,14,2,17,0,0] λs18 g18 w18 c18=>?_;refine JI 9 (x:=xr.queue) 37 37 25 5 40 (.agg #[iv 0,iv 0,iv 0,iv 0,iv 0]) ⟨(s18 0),0,none⟩ 1 1 [iv c.k,iv c.c,iv c.s,iv c.n,iv c.v] (hNr.queue.ch ((((((c8.trans c9).trans c11).trans c12).trans c13).trans c14).trans c18) (by simp) (by simp)) (by kernel_rfl) (by kernel_rfl) (by kernel_rfl) underlying37 (by kernel_rfl) (by kernel_rfl) (by decide) (by decide) rfl (by simp[Value.oneCell']) (λK=>BL K 3 (s18 0) [iv c.k,iv c.c,iv c.s,iv c.n,iv c.v] 25 .z true (by kernel_rfl)) (by unfold maxLen;omega) (by omega) ?_;intro y19 g19 w19 a19 n19 cc19 G19;have c19:=cc19 w.heap.size [.n 2 i] (O'.2 rfl);refine qR [.n 0 i] 8 [20,22,24,26,29,0,1] λs20 g20 w20 c20=>?_;refine qV 0 (iv ((j:Int)+1)) (AD (x:=(.tmp 11)) (y:=(.const (iv 1))) (j:Int) 1 underlying3 (by omega)) ?_;refine qR [] 2 [] λs21 g21 w21 c21=>?_;refine qB [false,false,false,false] λz K0 K=>hJ (what.length-(j+1)) _ _ _ z _ (by omega) ⟨j+1,(q++[c]),rfl,by omega,rfl,rfl,?_,?_,by simp;omega,((((((((((hC.n c8).n c9).n c11).n c12).n c13).n c14).n c18).trans (c19.mono (by simp[TN]))).trans (c20.mono (by simp[TN]))).n c21)⟩ K;have C22:=(((((((((c8.nil ([.n 2 i,.n 0 i]:List Tg)).n c9).n c11).n c12).n c13).n c14).n c18).m c19).m c20).n c21;have Z22:Tg.z∉([.n 2 i,.n 0 i]:List Tg):=by simp
      .exact⟨{ xr with queue:=y19 },ltr,tlr,K0.nd 0 (hNr.tape.ch C22 Z22) (hNr.votes.ch C22 Z22) (Bl hNr.heard C22 Z22) (BP hNr.pend C22 Z22 (by simp)) (by rw[Cd];exact((a19.ch c20).ch c21)) (hNr.agreed.ch C22) (hNr.wants.ch C22) (hNr.asked.ch C22) hNr.upm,hOr.ch C22 Z22 (by simp<;>omega),K0.new⟩
      .rw[<- hI,Dq hcj,Gd,if_pos ⟨by omega,h4⟩]
    .refine qT 7 (.bool false) (λ_=>(rLt (t:=3) (x:=(.tmp 21)) (y:=(.const (iv 40))) (D' h3))) ?_;refine qR [] 16 [16,18,20,22,24,26,28,30,32,34,36] λs23 g23 w23 c23=>?_;refine qV 0 (iv ((j:Int)+1)) (AD (x:=(.tmp 11)) (y:=(.const (iv 1))) (j:Int) 1 underlying3 (by omega)) ?_;refine qR [] 2 [] λs24 g24 w24 c24=>?_;refine qB [false,false,false] λz K0 K=>hJ (what.length-(j+1)) _ _ _ z _ (by omega) ⟨j+1,q,rfl,by omega,rfl,rfl,?_,?_,by omega,(((((hC.n c8).n c9).n c11).n c23).n c24)⟩ K
     .exact(nsC hNr hOr ((((c8.n c9).n c11).n c23).n c24) K0)
     .rw[<- hI,Dq hcj,Gd,if_neg (by omega)]
   .refine qI ((decide ((j:Int)<(wh.n:Int)))) false (D' (by omega)) ?_;refine qR [] 1 [] λs26 g26 w26 c26=>?_;obtain rfl:j=what.length:=by omega
    rw[j7]at hI
    refine qE (.tuple #[]) λK=>?_;rw[<- hI];exact⟨_,rfl,(nsC hNr hOr (c8.n c26) K),((hC.n c8).n c26)⟩
 .refine qI ((!p.leads)) true (by simpa using h1) ?_;refine qE (.tuple #[]) λK=>?_;rw[show p.enqueue what=p from if_neg h1];exact⟨_,rfl,(nsC hN hO ((c1.n c4).n c5) K),(((c1.nil (TN i)).n c4).n c5)⟩
theorem E7(h:NS i nb ob g w p ls ts){b:Bool}(hb:p.leads=b) :
  Calls prog 113 #[pt nb 0] w λe w'=>e=.returned (.bool b)/\Bw w w':=by subst hb;exact MY h
theorem BD{ty:TypeId}{dd:TypeDesc}{v:Value}(hu:prog.underlying ty=some dd)(hr:dd.isRow=false)(hc:W.cell? ⟨b,k,none⟩=some v):(Instr.loadAt ty (pt b k)).run prog W=.ok v W:=by
 have hagg:(isAgg ty).run prog W=.ok false W:=by
  unfold isAgg;rw[Sem.run_bind,run_underlying hu W];cases dd<;>first|rfl|(simp only[TypeDesc.isRow]at hr;cases hr)
 have hl:(loadVar ty ⟨b,k,none⟩).run prog W=.ok v W:=by simp[loadVar,hagg,hc,go_sem]
 simp only[Instr.loadAt,Instr.sureAddr,Sem.run_bind,Sem.run_pure,Result.andThen_ok,hl]
theorem W7(p:Nod)(l:List Cmd):(p.enqueue l).pend=p.pend:=by unfold Nod.enqueue;split<;>rfl
theorem LE(h:NS i nb ob g w p ls ts)(lb:Nat)(l:Let)(hl:Cu g w lb l)(hk:l.kind=6)(hb:p.pend.length<100000000)(hb2:l.what.length<100000000)(hq:p.rnd.queue.length<=40) :
  Calls prog 76 #[pt nb 0,pt lb 0] w (NP i nb ob g w (.tuple #[]) (p.take l) ls ts):=by
 obtain⟨x,lt,tl,hN,hO,hg⟩:=h;refine gI (fn:=f76) (TN i) g func76 hg ?_;refine qN hN ?_;refine qO hO ?_;have hLL:=hl;obtain⟨vs,wh,hl1,hl2,hl3⟩:=hl;refine BW ⟨lb,.cells (EQ l vs wh) 168,.z,false⟩ (λ_=>⟨hl1.r,hl1.z,λh=>(by cases h),λh=>absurd rfl h⟩) (by kernel_rfl) ?_;refine qR [] 12 [0,0,0,0,5,0,3,2,4,4,6,8,2] λs1 g1 w1 c1=>?_;refine qS 5 [false,false,true,true,true] hN hO c1 (λN2=>Jj N2 l.what wh (hl3.ch (c1.nil (TN i)) (Bi i)) hb2 hq) λg2 w2 x2 lt2 tl2 hN2 hO2 c2=>?_;have hn:=hN2.agreed.num;refine qR [] 15 [11,0,2,2,4,6,0,8,1,10,12,14,16,3,18,20] λs4 g4 w4 c4=>?_;by_cases h1:l.slot<(p.enqueue l.what).agreed.length
 .refine qI ((decide ((l.slot:Int)<(x2.agreed.n:Int)))) true (I' (by omega)) ?_;refine qR [] 3 [1] λs5 g5 w5 c5=>?_;rw[show p.take l=(p.enqueue l.what).wait (.tell l.src l.slot)from by unfold Nod.take;rw[hk];exact if_pos h1];refine Ag λK=>?_;obtain⟨z1,z2⟩:=K.isZ 1 (s1 0) (.cells #[pt nb 0] 97) false (by kernel_rfl);obtain⟨z3,z4⟩:=K.isZ 2 (s1 1) (.cells #[pt lb 0] 169) false (by kernel_rfl);have N6:NS i nb ob g5 w5 (p.enqueue l.what) ls ts:=(nsC hN2 hO2 (c4.n c5) K);refine qS0 2 [true,true,true,false,false] (AM N6 (by rw[W7];exact hb) _ _ (.tell l.src l.slot) ⟨(s1 0),(s1 1),lb,l,rfl,⟨z1,z2⟩,⟨z3,z4⟩,hLL.ch ((((c1.nil (TN i)).trans (c2)).n c4).n c5) (Bi i),rfl,rfl⟩) λg6 w6 x6 lt6 tl6 hN6 hO6 c6=>?_;refine qR [] 1 [] λs8 g8 w8 c8=>?_;exact qF hN6 hO6 c8 ((((((c1.nil (TN i)).trans (c2)).n c4).n c5).trans (c6)).n c8)
 .refine qI ((decide ((l.slot:Int)<(x2.agreed.n:Int)))) false (D' (by omega)) ?_;refine qR [] 1 [] λs10 g10 w10 c10=>?_;refine qE (.tuple #[]) λK=>?_;rw[show p.take l=(p.enqueue l.what)from by unfold Nod.take;rw[hk];exact if_neg h1];exact⟨_,rfl,(nsC hN2 hO2 (c4.n c10) K),((((c1.nil (TN i)).trans (c2)).n c4).n c10)⟩
theorem JV(h:NS i nb ob g w p ls ts)(hB:Base w0 g w)(hT:Tabs w0)(lb:Nat)(l:Let)(hl:Cu g w lb l)(hk:l.kind=1)(hs:l.src<5)(hb:(p.learn 0 l.what).agreed.length<=40)(hb2:l.what.length<=40)(hb3:(p.rnd.heard l.src).vs.length<100000000) :
  Calls prog 71 #[pt nb 0,pt lb 0] w (NP i nb ob g w (.tuple #[]) (p.take l) ls ts):=by
 obtain⟨kd,src,dst,bal,vote,votes,slot,what⟩:=l;simp only at hk hs hb hb2 hb3;obtain⟨x,lt,tl,hN,hO,hg⟩:=h;refine gI (fn:=f71) (TN i) g func71 hg ?_;refine qN hN ?_;refine qO hO ?_;obtain⟨vs,wh,hl1,hl2,hl3⟩:=hl;obtain⟨wa,wn,wc⟩:=wh;obtain rfl:wn=what.length:=hl3.len;have hba:p.agreed.length<=40:=iP (by unfold Nod.learn;rw[G'];omega) hb;refine BW ⟨lb,.cells (EQ (Let.mk kd src dst bal vote votes slot what) vs (S3.mk wa what.length wc)) 168,.z,false⟩ (λ_=>⟨hl1.r,hl1.z,λh=>(by cases h),λh=>absurd rfl h⟩) (by kernel_rfl) ?_;refine qR [] 7 [2] λs1 g1 w1 c1=>?_;refine qS 5 [false,false,true] hN hO c1 (λN2=>MZ N2 0 what (S3.mk wa what.length wc) (hl3.ch (c1.nil (TN i)) (Bi i)) (by omega) (by omega) (by omega)) λg2 w2 x2 lt2 tl2 hN2 hO2 c2=>?_;by_cases h1:(p.learn 0 what).leads=false
 .refine qR [] 5 [29,0] λs4 g4 w4 c4=>?_;refine Ag λK=>?_;have N6:NS i nb ob g4 w4 (p.learn 0 what) ls ts:=(nsC hN2 hO2 c4 K);refine qC 1 (E7 N6 h1) ?_;rintro e' w7 ⟨rfl,b7⟩;refine⟨_,rfl,b7,?_⟩;have c7:=Cg.ofBelow (B:=w.heap.size) (T:=[]) (g:=g4) b7;refine qR [] 29 [4,6,8,10,12,14,16,18,20,22,24,26,28,30,32,34,36,38,40,42,44,46,48,50,52,54,56] λs8 g8 w8 c8=>?_;refine qE (.tuple #[]) λK=>?_;rw[show p.take (Let.mk kd src dst bal vote votes slot what)=(p.learn 0 what)from by unfold Nod.take;rw[hk];exact if_pos (.inl h1)];exact⟨_,rfl,(nsC hN2 hO2 ((c4.n c7).n c8) K),(((((c1.nil (TN i)).trans (c2)).n c4).n c7).n c8)⟩
 .have h10:(p.learn 0 what).leads=true:=by simpa using h1
  refine qR [] 5 [29,0] λs10 g10 w10 c10=>?_;refine Ag λK=>?_;have N12:NS i nb ob g10 w10 (p.learn 0 what) ls ts:=(nsC hN2 hO2 c10 K);refine qC 1 (E7 N12 h10) ?_;rintro e' w13 ⟨rfl,b13⟩;refine⟨_,rfl,b13,?_⟩;have c13:=Cg.ofBelow (B:=w.heap.size) (T:=[]) (g:=g10) b13;refine qR [] 12 [4,6,8,10,12,14,0,16,18,20,22,24,26,1] λs14 g14 w14 c14=>?_;by_cases h2:bal≠(p.learn 0 what).rnd.bal
  .refine qT 14 (.bool true) (λ_=>(Nm (x:=(.tmp 17)) (y:=(.tmp 23)) bal (p.learn 0 what).rnd.bal h2)) ?_;refine qR [] 16 [30,32,34,36,38,40,42,44,46,48,50,52,54,56] λs15 g15 w15 c15=>?_;refine qE (.tuple #[]) λK=>?_;rw[show p.take (Let.mk kd src dst bal vote votes slot what)=(p.learn 0 what)from by unfold Nod.take;rw[hk];exact if_pos (.inr (.inl h2))];exact⟨_,rfl,(nsC hN2 hO2 (((c10.n c13).n c14).n c15) K),((((((c1.nil (TN i)).trans (c2)).n c10).n c13).n c14).n c15)⟩
  .have h20:bal=(p.learn 0 what).rnd.bal:=by simpa using h2
   refine qT 14 (.bool false) (λ_=>(Nl (x:=(.tmp 17)) (y:=(.tmp 23)) bal (p.learn 0 what).rnd.bal h20)) ?_;refine qR [] 11 [30,32,34,36,38,40,42,0,44,46,48,50] λs17 g17 w17 c17=>?_;refine BX 69 (λg' w' e L=>e=[(0,pt nb 0),(1,pt lb 0),(38,.bool ((p.learn 0 what).rnd.pro src))]/\L=[⟨lb,.cells (EQ (Let.mk kd src dst bal vote votes slot what) vs (S3.mk wa what.length wc)) 168,.z,false⟩,⟨nb,.cells (AB i ob (p.learn 0 what) x2) 123,.n 0 i,false⟩,⟨ob,.cells #[S3.v lt2,S3.v tl2] 94,.n 50 0,false⟩]/\True/\Cg w.heap.size ([]:List Tg) g17 w17 g' w') (by kernel_rfl) ?_ ?_
   .intro J hJ;rcases five hs with rfl|rfl|rfl|rfl|rfl <;>
    (refine qR [] 4 [52,54,1,56] λs19 g19 w19 c19=>?_;exact qB [true,true,true] λz K0 K=>hJ _ _ _ z _ ⟨rfl,rfl,trivial,(c19.nil ([]:List Tg))⟩ K)
   rintro g18 w18 _ z18 _ ⟨rfl,rfl,_,c18⟩;by_cases h3:(p.learn 0 what).rnd.pro src=true
   .refine qI (((p.learn 0 what).rnd.pro src)) true h3 ?_;refine qE (.tuple #[]) λK=>?_;rw[show p.take (Let.mk kd src dst bal vote votes slot what)=(p.learn 0 what)from by unfold Nod.take;rw[hk];exact if_pos (.inr (.inr h3))];exact⟨_,rfl,(nsC hN2 hO2 ((((c10.n c13).n c14).n c17).n c18) K),(((((((c1.nil (TN i)).trans (c2)).n c10).n c13).n c14).n c17).n c18)⟩
   .refine qI (((p.learn 0 what).rnd.pro src)) false (by simpa using h3) ?_;refine qR [] 15 [12,0,2,4,6,8,10,12,14,0,16,18,20,22,0] λs23 g23 w23 c23=>?_;refine qS 12 [true,false,false] hN2 hO2 (((((c10.n c13).n c14).n c17).n c18).n c23) (λN24=>Pv N24 (hB.ch ((((((((c1.nil (TN i)).trans (c2)).n c10).n c13).n c14).n c17).n c18).n c23) (Bi i)) hT src hs votes vs (hl2.ch ((((((((c1.nil (TN i)).trans (c2)).n c10).n c13).n c14).n c17).n c18).n c23) (Bi i)) hb3) λg24 w24 x24 lt24 tl24 hN24 hO24 c24=>?_;refine qR [] 17 [15,0,2,4,6,8,0,10,12,14,16,0,18,20,22,24,26] λs26 g26 w26 c26=>?_;refine BX 69 (λg' w' e L=>e=[(0,pt nb 0)]/\L=[⟨lb,.cells (EQ (Let.mk kd src dst bal vote votes slot what) vs (S3.mk wa what.length wc)) 168,.z,false⟩,⟨nb,.cells (AB i ob ({ (p.learn 0 what)with rnd:={ (p.learn 0 what).rnd.hear src votes with taught:=upN (p.learn 0 what).rnd.taught src what.length } }) x24) 123,.n 0 i,false⟩,⟨ob,.cells #[S3.v lt24,S3.v tl24] 94,.n 50 0,false⟩]/\True/\Cg w.heap.size ([.n 0 i]:List Tg) g26 w26 g' w') (by kernel_rfl) ?_ ?_
    .intro J hJ;rcases five hs with rfl|rfl|rfl|rfl|rfl <;>
     (refine qR [.n 0 i] 3 [28,31,1,1] λs28 g28 w28 c28=>?_;exact qB [true,true,true] λz K0 K=>hJ _ _ _ z _ ⟨rfl,rfl,trivial,c28⟩ K)
    rintro g27 w27 _ z27 _ ⟨rfl,rfl,_,c27⟩;refine qR [] 2 [] λs29 g29 w29 c29=>?_;rw[show p.take (Let.mk kd src dst bal vote votes slot what)=Nod.learnC { (p.learn 0 what)with rnd:={ (p.learn 0 what).rnd.hear src votes with taught:=upN (p.learn 0 what).rnd.taught src what.length } }from by unfold Nod.take;rw[hk];exact if_neg (by rintro(h|h|h);exact h1 h;exact h2 h;exact h3 h)];refine Ag λK=>?_;have C31:=((c26.nil ([.n 0 i]:List Tg)).trans (c27)).n c29;have N30:NS i nb ob g29 w29 ({ (p.learn 0 what)with rnd:={ (p.learn 0 what).rnd.hear src votes with taught:=upN (p.learn 0 what).rnd.taught src what.length } }) ls ts:=⟨x24,lt24,tl24,K.ndu 1 hN24 C31,hO24.ch C31 (hn:=by simp<;>omega),K.new⟩;refine qS0 1 [true,false,false] (Fq N30 (hB.ch ((((((((((((c1.nil (TN i)).trans (c2)).n c10).n c13).n c14).n c17).n c18).n c23).trans (c24)).n c26).trans (c27.mono (by simp[TN]))).n c29) (Bi i)) hT hb) λg30 w30 x30 lt30 tl30 hN30 hO30 c30=>?_;refine qR [] 1 [] λs32 g32 w32 c32=>?_;exact qF hN30 hO30 c32 ((((((((((((((c1.nil (TN i)).trans (c2)).n c10).n c13).n c14).n c17).n c18).n c23).trans (c24)).n c26).trans (c27.mono (by simp[TN]))).n c29).trans (c30)).n c32)
theorem L3(h:Sl w x.v l):x.n=l.length:=by obtain⟨a,cap,hh⟩:=h.shapeT;simp only[S3.v,Value.slice.injEq]at hh;exact hh.2.1
theorem gW:prog.underlying 28=some (.slice (prog.elem 28)):=by kernel_rfl
theorem slB(h:Sl w x.v l)(lo:Nat)(hlo:lo<=l.length):∃ y:S3,(∀ W,(Instr.sliceAt 28 x.v (some (iv (lo:Int))) none none).run prog W=.ok y.v W)/\Sl w y.v (l.drop lo)/\y.n=l.length-lo:=by
 obtain⟨a',c',h1,h2⟩:=h.from lo hlo;refine⟨⟨a',x.n-lo,c'⟩,λW=>?_,h2,by rw[L3 h]⟩;rw[run_sliceAt_slice _ _ _ _ _ _ gW];exact h1 W
theorem slT(h:Sl w x.v l)(hi:Nat)(hhi:hi<=l.length):∃ y:S3,(∀ W,(Instr.sliceAt 28 x.v none (some (iv (hi:Int))) none).run prog W=.ok y.v W)/\Sl w y.v (l.take hi):=by
 obtain⟨a',c',h1,h2⟩:=h.upTo hi hhi;refine⟨⟨a',hi,c'⟩,λW=>?_,h2⟩;rw[run_sliceAt_slice _ _ _ _ _ _ gW];exact h1 W
theorem Qj(h:Sl w x.v l)(h0:0<l.length):∃ bd od,(∀ W,(Instr.indexAt 28 x.v (iv 0)).run prog W=.ok (pt bd od) W)/\bd<w.heap.size/\w.cell? ⟨bd,od,none⟩=some (.int .u8 (l.getD 0 0)):=by
 obtain⟨xa,xn,xc⟩:=x;have hn:xn=l.length:=L3 h;obtain⟨bd,od,h1,h2,h3⟩:=h.spotO 0 h0;subst h1;exact⟨bd,od,λW=>PZ (P:=prog) (e:=5) (z:=1) (i:=0) underlying28 (by kernel_rfl) (by kernel_rfl) (by rw[hn];exact h0) od (by rw[mC,kf]),h2,h3⟩
theorem UX{t:TypeId}{x y:Operand}{m:Int}{b:Bool}(h:(m==n)=b):(do Go.eqGuard .eql t x y (.int .u8 m) (.int .u8 n);Go.binOp .eql t (.int .u8 m) (.int .u8 n):Sem Value).run P w=.ok (.bool b) w:=by
 subst h;rfl
theorem rUi(h:0<=n/\n<256):(convert 5 3 (.int .u8 n)).run prog w=.ok (iv n) w:=cL (by kernel_rfl) underlying3 (by kernel_rfl) (by rw[IntKind.wrap_i64];omega)
theorem FG{B:Nat}(h:w.ownsRow B 5 1 y l.length (l.map (Value.int .u8)))(hl:l.length<=140737488351232)(hb:∀ x∈l,0<=x/\x<256):∃ z:S3,y=z.v/\Sl w z.v l:=by
 have hs:=Sl.ofOwns h hl hb;obtain⟨a,cap,rfl⟩:=hs.shapeT;exact⟨⟨a,l.length,cap⟩,rfl,hs⟩
theorem Ts(hs:Sl w y l):∃ z:S3,y=z.v/\Sl w z.v l:=by
 obtain⟨a,cap,rfl⟩:=hs.shapeT;exact⟨⟨a,l.length,cap⟩,rfl,hs⟩
theorem Mw(w:World):Sl w s30.v []:=⟨⟨none,0,rfl,A' _,λ_=>rfl,.inl rfl⟩,by simp,by simp⟩
end
end Go.Proofs.YtalbmmghmoggcadGreatDoor
