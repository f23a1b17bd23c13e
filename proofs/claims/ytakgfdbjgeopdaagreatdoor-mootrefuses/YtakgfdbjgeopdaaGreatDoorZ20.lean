/- Part 20 of the walk: what the functions of the program do, one by one. -/
import Derived.Test.YtakgfdbjgeopdaaGreatDoorZ19
set_option maxRecDepth 100000
set_option maxHeartbeats 4000000
open Go.Proofs.Tryz
set_option linter.unusedVariables false
namespace Go.Proofs.YtakgfdbjgeopdaaGreatDoor
open Go.RowKit
theorem J0{a:Acc}{v:Vt}{l:List Vt}:Is a (v::l)=Is (if AW a v=0 then⟨BT a v,CO a v⟩else a) l:=rfl
theorem Q2{l:List Vt}{j:Nat}{v:Vt}(h:l[j]?=some v):l.drop j=v::l.drop (j+1):=by
 obtain⟨h1,h2⟩:=List.getElem?_eq_some_iff.1 h;rw[← h2];exact List.drop_eq_getElem_cons h1
theorem Np{g:Gh}{w:World}{i nb ob:Nat}{p:Nod}{ls:List Let}{ts:List Tol}(h:NS i nb ob g w p ls ts){w0:World}(hB:Base w0 g w)(hT:Tabs w0)(j:Nat)(hj:j<5)(vs:List Vt)(y:S3)(hy:FSv g w y vs)(hb:(p.rnd.heard j).vs.length<100000000) :
  Calls prog 116 #[pt nb 11,iv (j:Int),y.v] w (NP i nb ob g w (.tuple #[]) { p with rnd:=p.rnd.hear j vs } ls ts):=by
 obtain⟨x,lt,tl,hN,hO,hg⟩:=h;refine gIn (fn:=f116) (TN i) g func116 (by kernel_rfl) (by kernel_rfl) hg ?_;refine qN hN ?_;refine qO hO ?_;refine qR [] 18 [0,1,0,2,0] fun s1 g1 w1 c1=>?_;refine BD 50 (fun g' w' e L=>e=[(0,pt nb 11),(1,iv (j:Int)),(6,pt (s1 0) 0),(23,S3.v (x.hv j)),(24,iv ((x.hv j).n:Int)),(25,iv 0)]∧L=[⟨nb,.cells (Ao i ob p x) 134,.n 0 i,false⟩,⟨ob,.cells #[S3.v lt,S3.v tl] 104,.n 50 0,false⟩,⟨(s1 0),.cells #[iv p.rnd.bal.r,iv p.rnd.bal.n,S3.v y] 115,.l,false⟩]∧True∧Cg w.heap.size ([]:List Tg) g1 w1 g' w') (by kernel_rfl) ?_ ?_
 ·intro J hJ;rcases five hj with rfl|rfl|rfl|rfl|rfl <;>
  (refine qR [] 6 [0] fun s3 g3 w3 c3=>?_;exact qB [true,true,true] fun z K0 K=>hJ _ _ _ z _ ⟨rfl,rfl,trivial,(c3.nil ([]:List Tg))⟩ K)
 rintro g2 w2 _ z2 _ ⟨rfl,rfl,_,c2⟩;have hH:=hN.heard j hj;have hn:(x.hv j).n=(p.rnd.heard j).vs.length:=by obtain⟨a,cap,hh⟩:=hH.s.shape;simp only[Value.slice.injEq]at hh;exact hh.2.1
 obtain⟨l,hl⟩:∃ l,l=(p.rnd.heard j).vs:=⟨_,rfl⟩;rw[← hl]at hH hn hb
 refine qR [] 1 [] fun s4 g4 w4 c4=>?_;refine BE 50 [(0,pt nb 11),(1,iv (j:Int)),(6,pt (s1 0) 0),(23,S3.v (x.hv j)),(24,iv ((x.hv j).n:Int)),(25,iv 0)] [true,true,true] [⟨nb,.cells (Ao i ob p x) 134,.n 0 i,false⟩,⟨ob,.cells #[S3.v lt,S3.v tl] 104,.n 50 0,false⟩,⟨(s1 0),.cells #[iv p.rnd.bal.r,iv p.rnd.bal.n,S3.v y] 115,.l,false⟩] (fun k g' w' e L=>∃ (k0:Nat) (a:Acc) (ya:S3),k=l.length-k0∧k0≤l.length∧e=[(0,pt nb 11),(1,iv (j:Int)),(6,pt (s1 0) 0),(23,S3.v (x.hv j)),(24,iv ((x.hv j).n:Int)),(25,iv (k0:Int))]∧L=[⟨nb,.cells (Ao i ob p x) 134,.n 0 i,false⟩,⟨ob,.cells #[S3.v lt,S3.v tl] 104,.n 50 0,false⟩,⟨(s1 0),.cells #[iv a.p.r,iv a.p.n,S3.v ya] 115,.l,false⟩]∧Is a (l.drop k0)=Is ⟨p.rnd.bal,vs⟩ l∧FSv g' w' ya a.vs∧Cg w.heap.size [] g w g' w') (by kernel_rfl) (by kernel_rfl) (by kernel_rfl) (by kernel_rfl) l.length (fun K=>?_) ?_
 ·exact⟨0,⟨p.rnd.bal,vs⟩,y,rfl,by omega,rfl,rfl,rfl,(((hy.ch c1 (by simp)).ch c2 (by simp)).ch c4 (by simp)),((c1.trans c2).trans c4)⟩
 ·rintro k gr wr _ zr _ ⟨k0,a,ya,rfl,hk0,rfl,rfl,hI,hya,hC⟩ J hJ;refine qR [] 5 [] fun s5 g5 w5 c5=>?_;by_cases h1:k0<l.length
  ·refine qI ((decide ((k0:Int)<((x.hv j).n:Int)))) true (decide_eq_true (by omega)) ?_;obtain⟨v,hv⟩:∃ v,l[k0]?=some v:=⟨_,List.getElem?_eq_getElem h1⟩;have hHr:=hH.ch hC (by simp);obtain⟨bx,ox,hxa,hbx,hcell⟩:=hHr.s.spot k0 v hv;refine qR [] 5 [] fun s6 g6 w6 c6=>?_;refine qV 0 (pt bx (ox+8*k0)) (XK hxa k0 (by omega)) ?_;have hcr:=((hHr.ch c5 (by simp)).ch c6 (by simp)).s.spot k0 v hv;obtain⟨bx2,ox2,hxa2,hbx2,hcell2⟩:=hcr;rw[hxa]at hxa2
   simp only[Option.some.injEq,Addr.mk.injEq,and_true]at hxa2;obtain⟨rfl,rfl⟩:=hxa2;refine qV 1 (.agg #[iv v.slot,iv v.b.r,iv v.b.n,iv v.w.k,iv v.w.c,iv v.w.s,iv v.w.n,iv v.w.v]) (aq v hcell2) ?_;refine qR [] 7 [0,0,3,0,2,3] fun s8 g8 w8 c8=>?_;refine Ae fun Kq9=>?_;have hS9:=((((hya.ch c5 (by simp)).ch c6 (by simp)).ch c8 (by simp))).s;have hB9:=hB.ch (hC.trans ((c5.trans c6).trans c8)) (by simp);have hG9:∀ z,w8.heap.size≤z→g8.t z=.z:=fun z hz=>(Kq9.new z hz).1;refine qC 2 (BI a.p _ a.vs v w8 hS9 (hB9.tn hT)) ?_;rintro e' w10 ⟨y10,rfl,hy10,hl10,b10⟩;refine⟨_,rfl,b10,?_⟩;have c10:=Cg.ofBelow (B:=w.heap.size) (T:=[]) (g:=g8) b10;obtain⟨ys,rfl,hyn,hys⟩:=CX hy10 hG9 (by omega);refine qR [] 12 [0,0,4,0] fun s11 g11 w11 c11=>?_;by_cases h2:AW a v=0
   ·refine qI (((AW a v)==0)) true (by simpa using h2) ?_;refine qR [] 6 [4,2,0] fun s12 g12 w12 c12=>?_;refine qV 0 (iv ((k0:Int)+1)) (B7 (x:=(.tmp 25)) (y:=(.const (iv 1))) (k0:Int) 1 underlying3 (by omega)) ?_;refine qR [] 2 [] fun s13 g13 w13 c13=>?_;refine qB [true,true,true,false,false] fun z K0 K=>hJ (l.length-(k0+1)) _ _ _ z _ (by omega) ⟨k0+1,⟨BT a v,CO a v⟩,ys,rfl,by omega,rfl,rfl,?_,(((hys.ch c11 (by simp)).ch c12 (by simp)).ch c13 (by simp)),hC.trans ((((((c5.trans c6).trans c8).trans c10).trans c11).trans c12).trans c13)⟩ K;rw[← hI,Q2 hv,J0,if_pos h2]
   ·refine qI (((AW a v)==0)) false (by simpa using h2) ?_;refine qR [] 3 [] fun s14 g14 w14 c14=>?_;refine qV 0 (iv ((k0:Int)+1)) (B7 (x:=(.tmp 25)) (y:=(.const (iv 1))) (k0:Int) 1 underlying3 (by omega)) ?_;refine qR [] 2 [] fun s15 g15 w15 c15=>?_;refine qB [true,true,true,false,false] fun z K0 K=>hJ (l.length-(k0+1)) _ _ _ z _ (by omega) ⟨k0+1,a,ya,rfl,by omega,rfl,rfl,?_,(((((((hya.ch c5 (by simp)).ch c6 (by simp)).ch c8 (by simp)).ch c10 (by simp)).ch c11 (by simp)).ch c14 (by simp)).ch c15 (by simp)),hC.trans ((((((c5.trans c6).trans c8).trans c10).trans c11).trans c14).trans c15)⟩ K;rw[← hI,Q2 hv,J0,if_neg h2]
  ·refine qI ((decide ((k0:Int)<((x.hv j).n:Int)))) false (decide_eq_false (by omega)) ?_;obtain rfl:k0=l.length:=by omega
   rw[List.drop_length]at hI
   refine qR [] 8 [8,0,2,4,6,10,12] fun s16 g16 w16 c16=>?_;refine BD 50 (fun g' w' e L=>e=[(0,pt nb 11)]∧L=[⟨nb,.cells (Ao i ob ({ p with rnd:={ p.rnd with pro:=upN p.rnd.pro j true,heard:=upN p.rnd.heard j a } }) ({ x with hv:=upN x.hv j ya })) 134,.n 0 i,false⟩,⟨ob,.cells #[S3.v lt,S3.v tl] 104,.n 50 0,false⟩,⟨(s1 0),.cells #[iv a.p.r,iv a.p.n,S3.v ya] 115,.l,false⟩]∧True∧Cg w.heap.size ([.n 0 i]:List Tg) g16 w16 g' w') (by kernel_rfl) ?_ ?_
   ·intro J hJ;rcases five hj with rfl|rfl|rfl|rfl|rfl <;>
    (refine qR [] 3 [14,18,20] fun s18 g18 w18 c18=>?_;exact Cs 4 8 (by kernel_rfl) (by(refine qR [.n 0 i] 5 [2,17,0,1,22,25,0,1] fun s19 g19 w19 c19=>?_;exact qB [true,true,true] fun z K0 K=>hJ _ _ _ z _ ⟨rfl,rfl,trivial,((c18.nil ([.n 0 i]:List Tg)).trans c19)⟩ K)) (by(refine qR [.n 0 i] 5 [0,1,9,2,22,25,0,1] fun s20 g20 w20 c20=>?_;exact qB [true,true,true] fun z K0 K=>hJ _ _ _ z _ ⟨rfl,rfl,trivial,((c18.nil ([.n 0 i]:List Tg)).trans c20)⟩ K)))
   rintro g17 w17 _ z17 _ ⟨rfl,rfl,_,c17⟩;refine qE (.tuple #[]) fun K=>?_;obtain⟨q1,q2,q3⟩:=K.isN 0 nb (.cells (Ao i ob { p with rnd:={ p.rnd with pro:=upN p.rnd.pro j true,heard:=upN p.rnd.heard j a } } { x with hv:=upN x.hv j ya }) 134) 0 i (by kernel_rfl);obtain⟨q4,q5,q6⟩:=K.isN 1 ob (.cells #[S3.v lt,S3.v tl] 104) 50 0 (by kernel_rfl);have hE:p.rnd.hear j vs={ p.rnd with pro:=upN p.rnd.pro j true,heard:=upN p.rnd.heard j a }:=by unfold Rnd.hear;rw[← hl,← hI];rfl
   rw[hE];have CC:Cg w.heap.size [.n 0 i] g w g17 w17:=((((hC.nil [.n 0 i]).trans (c5.nil _)).trans (c16.nil _)).trans c17);have ZZ:Tg.z∉[Tg.n 0 i]:=by simp
   have hya2:=(((hya.ch c5 (by simp)).ch c16 (by simp)).ch c17 (by simp));refine⟨_,rfl,⟨{ x with hv:=upN x.hv j ya },lt,tl,⟨q1,q2,q3,hN.tape.ch CC ZZ,hN.votes.ch CC ZZ,?_,B2 hN.pend CC ZZ (by simp),hN.queue.ch CC (by simp) (by simp),hN.agreed.ch CC (by simp) (by simp),hN.wants.ch CC (by simp) (by simp),hN.asked.ch CC (by simp),hN.upm⟩,⟨q4,q5,q6,CW hO.lets CC ZZ (by simp),hO.told.ch CC (by simp) (by simp)⟩,K.new⟩,CC.mono (by simp[TN])⟩;intro k hk;show FSv _ _ (upN x.hv j ya k) (upN p.rnd.heard j a k).vs;unfold upN;split
   ·exact hya2
   ·exact(hN.heard k hk).ch CC ZZ
theorem TF(u v:Vt)(w:World):(Op.equal 175 (.agg (vtA u)) (.agg (vtA v))).run prog w=.ok (decide (u=v)) w:=by
 have h1:=TD u.slot u.b.r u.b.n u.w.k u.w.c u.w.s u.w.n u.w.v v.slot v.b.r v.b.n v.w.k v.w.c v.w.s v.w.n v.w.v w;have h2:decide (u.slot=v.slot∧u.b.r=v.b.r∧u.b.n=v.b.n∧u.w.k=v.w.k∧u.w.c=v.w.c∧u.w.s=v.w.s∧u.w.n=v.w.n∧u.w.v=v.w.v)=decide (u=v):=by
  apply decide_eq_decide.2;constructor
  ·rintro⟨a1,a2,a3,a4,a5,a6,a7,a8⟩;exact(Vt.eq_iff u v).1 ⟨a1,(Bal.eq_iff _ _).1 ⟨a2,a3⟩,(Cmd.eq_iff _ _).1 ⟨a4,a5,a6,a7,a8⟩⟩
  ·rintro rfl;exact⟨rfl,rfl,rfl,rfl,rfl,rfl,rfl,rfl⟩
 rw[h2]at h1
 rw[run_eql_struct]at h1
 show(Op.equalIn 10000 _ _ _).run _ _=_;simp only[vtA,vtC];cases hr:(Op.equalIn 10000 175 (.agg #[.int .i64 u.slot,.int .i64 u.b.r,.int .i64 u.b.n,.int .i64 u.w.k,.int .i64 u.w.c,.int .i64 u.w.s,.int .i64 u.w.n,.int .i64 u.w.v]) (.agg #[.int .i64 v.slot,.int .i64 v.b.r,.int .i64 v.b.n,.int .i64 v.w.k,.int .i64 v.w.c,.int .i64 v.w.s,.int .i64 v.w.n,.int .i64 v.w.v])).run prog w with
 | ok b w'=>rw[hr]at h1;simp[Result.andThen]at h1;rw[h1.1,h1.2]
 | _=>rw[hr]at h1;simp[Result.andThen]at h1
abbrev Cnt:=Vt × Nat × Nat
def mkE(x:Cnt):MapEntry:={ key:=.agg (vtA x.1),val:=.int .i64 (x.2.1:Int),born:=x.2.2 }
def Js(v:Vt):List Cnt→Nat→Option (Nat × Value)
 | [],_=>none
 | x::c,i=>if v=x.1 then some (i,.int .i64 (x.2.1:Int))else Js v c (i+1)
theorem KN(v:Vt)(w:World):∀ (c:List Cnt) (i:Nat),(Instr.findAsking 175 (.agg (vtA v)) (c.map mkE) i).run prog w=.ok (Js v c i) w
 | [],i=>by simp[Instr.findAsking,Js]
 | x::c,i=>by
  have h:=TF v x.1 w;rw[List.map_cons,Instr.findAsking,Sem.run_bind];show((Op.equal 175 (.agg (vtA v)) (.agg (vtA x.1))).run _ w).andThen _=_;rw[h,Result.andThen_ok,Js];by_cases e:v=x.1
  ·rw[decide_eq_true e,if_pos e];simp[mkE]
  ·rw[decide_eq_false e,if_neg e];simpa using KN v w c (i+1)
theorem IR(v:Vt)(w:World)(c:List Cnt):(Instr.findKey 175 (.agg (vtA v)) (c.map mkE)).run prog w=.ok (Js v c 0) w:=by
 rw[Instr.findKey,Sem.run_bind,run_underlying underlying175 w,Result.andThen_ok];cases c with
 | nil=>simp[Instr.findNow,Js]
 | cons x c =>
  show Sem.run _ (match(none:Option (Option (Nat × Value)))with|some r=>pure r|none=>Instr.findAsking 175 (.agg (vtA v)) ((x::c).map mkE)) w=_;exact KN v w (x::c) 0
theorem Gn(em:Bool)(v:Vt)(w:World):(Instr.checkKey em 10000 175 (.agg (vtA v))).run prog w=.ok () w:=by
 obtain⟨s,⟨r,n⟩,⟨k,c,q,m,x⟩⟩:=v;kernel_rfl
def CK(c:List Cnt)(v:Vt):Nat:=match c.find? (fun x=>decide (v=x.1))with|some x=>x.2.1|none=>0
theorem Jt(v:Vt):∀ (c:List Cnt) (i:Nat),(Js v c i=none∧CK c v=0∧∀ x∈c,v≠x.1)∨∃ a x b,c=a++x::b∧x.1=v∧(∀ y∈a,v≠y.1)∧Js v c i=some (i+a.length,.int .i64 (x.2.1:Int))∧CK c v=x.2.1
 | [],i=>.inl ⟨rfl,rfl,fun x hx=>by cases hx⟩
 | x::c,i=>by
  by_cases e:v=x.1
  ·refine .inr ⟨[],x,c,rfl,e.symm,fun y hy=>(List.not_mem_nil hy).elim,?_,?_⟩
   ·rw[Js,if_pos e];simp
   ·simp[CK,e]
  ·rcases Jt v c (i+1)with⟨h1,h2,h3⟩|⟨a,y,b,rfl,hy,h3,h4,h5⟩
   ·refine .inl ⟨by rw[Js,if_neg e,h1],?_,fun y hy=>?_⟩
    ·rw[← h2];simp[CK,e]
    ·rcases List.mem_cons.1 hy with rfl|hy
     ·exact e
     ·exact h3 y hy
   ·refine .inr ⟨x::a,y,b,rfl,hy,fun z hz=>?_,?_,?_⟩
    ·rcases List.mem_cons.1 hz with rfl|hz
     ·exact e
     ·exact h3 z hz
    ·rw[Js,if_neg e,h4];simp;omega
    ·rw[← h5];simp[CK,e]
structure CMap(w:World)(b:Nat)(c:List Cnt):Prop where
 ex:∃ clock,w.heap[b]?=some (.map (c.map mkE).toArray clock)∧∀ x∈c,x.2.2<clock
 dis:c.Pairwise fun x y=>x.2.2≠y.2.2
theorem CMap.lt{w:World}{b:Nat}{c:List Cnt}(h:CMap w b c):b<w.heap.size:=by
 obtain⟨⟨k,hb,_⟩,_⟩:=h;exact(Array.getElem?_eq_some_iff.1 hb).1
theorem CMap.keep{w w':World}{b:Nat}{c:List Cnt}(h:CMap w b c)(hb:w'.heap[b]?=w.heap[b]?):CMap w' b c:=by
 obtain⟨⟨k,h1,h2⟩,h3⟩:=h;exact⟨⟨k,hb.trans h1,h2⟩,h3⟩
theorem CMap.below{w w':World}{b:Nat}{c:List Cnt}(h:CMap w b c)(hb:Below w.heap.size w w'):CMap w' b c:=h.keep (hb.block b h.lt)
theorem CMap.made(w:World):CMap (w.alloc (.map #[] 0)) w.heap.size []:=⟨⟨0,heap_alloc_new _ _,fun x hx=>by cases hx⟩,List.Pairwise.nil⟩
theorem aZ(w:World):(zeroValue 3).run prog w=.ok (.int .i64 0) w:=by kernel_rfl
theorem CMap.look{w:World}{b:Nat}{c:List Cnt}(h:CMap w b c)(v:Vt):(Instr.lookup 295 (.map (some b)) (.agg (vtA v)) false).run prog w=.ok (.int .i64 (CK c v:Int)) w:=by
 obtain⟨⟨k,hb,_⟩,_⟩:=h;have hg:(getObj b).run prog w=.ok (.map (c.map mkE).toArray k) w:=by simp[getObj,Sem.run,hb]
 rcases Jt v c 0 with⟨h1,h2,_⟩|⟨a,x,d,_,_,_,h1,h2⟩
 ·simp[Instr.lookup,run_underlying underlying295,hg,Gn,IR,h1,h2]
 ·simp[Instr.lookup,run_underlying underlying295,hg,Gn,IR,h1,h2]
theorem Xh(v:Vt)(n:Nat):Instr.sameBits (n+1) (.agg (vtA v)) (.agg (vtA v))=true:=by
 simp[Instr.sameBits,vtA,vtC]
theorem Vj(v:Vt)(w:World):(Instr.keyThatStays (.agg (vtA v)) (.agg (vtA v))).run prog w=.ok (.agg (vtA v)) w:=by
 rw[Instr.keyThatStays,if_pos (Xh v 9999)];rfl
theorem Rq{a d:List Cnt}{v u:Vt}{n m born:Nat}(ha:∀ y∈a,v≠y.1):CK (a++(v,m,born)::d) u=if u=v then m else CK (a++(v,n,born)::d) u:=by
 unfold CK;rw[List.find?_append,List.find?_append,List.find?_cons,List.find?_cons];by_cases e:u=v
 ·subst e;have hn:a.find? (fun x=>decide (u=x.1))=none:=by
   rw[List.find?_eq_none];intro y hy;simp[ha y hy]
  rw[hn];simp
 ·rw[if_neg e];simp[e]
theorem Hx{w:World}{b:Nat}{es:Array MapEntry}{k:Nat}(hb:w.heap[b]?=some (.map es k))(o:Obj):Below b w (ChangeMaps.setBlock w b o) :=
 ⟨rfl,rfl,rfl,by simp[ChangeMaps.setBlock],fun i hi=>ChangeMaps.heap_setBlock_other hb o (by omega)⟩
theorem Hy{w:World}{b:Nat}{es:Array MapEntry}{k:Nat}(hb:w.heap[b]?=some (.map es k))(o:Obj)(i:Nat)(h:i≠b):(ChangeMaps.setBlock w b o).heap[i]?=w.heap[i]?:=ChangeMaps.heap_setBlock_other hb o h
theorem CMap.entry{w:World}{b:Nat}{c:List Cnt}(h:CMap w b c)(v:Vt):∃ (a d:List Cnt) (born:Nat) (w':World),(Instr.mapEntry 295 (.map (some b)) (.agg (vtA v))).run prog w=.ok (.tuple #[.int .i64 (CK c v:Int),.int .i64 (born:Int)]) w'∧CMap w' b (a++(v,CK c v,born)::d)∧(∀ y∈a,v≠y.1)∧(∀ u,CK (a++(v,CK c v,born)::d) u=CK c u)∧Below b w w'∧∀ i,i≠b→w'.heap[i]?=w.heap[i]?:=by
 obtain⟨⟨k,hb,hk⟩,hd⟩:=h;have hg:(getObj b).run prog w=.ok (.map (c.map mkE).toArray k) w:=by simp[getObj,Sem.run,hb]
 rcases Jt v c 0 with⟨h1,h2,h3⟩|⟨a,x,d,rfl,rfl,h3,h1,h2⟩
 ·refine⟨c,[],k,ChangeMaps.setBlock w b (.map ((c++[(v,0,k)]).map mkE).toArray (k+1)),?_,⟨⟨k+1,?_,?_⟩,?_⟩,h3,?_,Hx hb _,Hy hb _⟩
  ·have hs:=MapKept.run_setObj_map (P:=prog) (w:=w) (.map ((c++[(v,0,k)]).map mkE).toArray (k+1)) hb;have he:((c.map mkE).toArray.push { key:=.agg (vtA v),val:=.int .i64 0,born:=k })=((c++[(v,0,k)]).map mkE).toArray:=by simp[mkE]
   rw[Instr.mapEntry];simp only[Sem.run_bind,run_underlying underlying295,Result.andThen_ok,hg,Gn,IR,h1,h2,aZ,he,hs];rfl
  ·rw[h2];exact ChangeMaps.heap_setBlock_same hb _
  ·intro y hy;rcases List.mem_append.1 hy with hy|hy
   ·have:=hk y hy;omega
   ·obtain rfl:y=(v,CK c v,k):=by simpa using hy
    show k<k+1;omega
  ·rw[List.pairwise_append];refine⟨hd,List.pairwise_singleton _ _,fun y hy z hz=>?_⟩;obtain rfl:z=(v,CK c v,k):=by simpa using hz
   have:=hk y hy;show y.2.2≠k;omega
  ·intro u;rw[h2];unfold CK;rw[List.find?_append];cases hf:c.find? (fun x=>decide (u=x.1))with
   | some y=>rfl
   | none =>
    by_cases e:u=v
    ·subst e;simp
    ·simp[e]
 ·refine⟨a,d,x.2.2,ChangeMaps.setBlock w b (.map ((a++x::d).map mkE).toArray k),?_,⟨⟨k,?_,?_⟩,?_⟩,h3,?_,Hx hb _,Hy hb _⟩
  ·have hs:=MapKept.run_setObj_map (P:=prog) (w:=w) (.map ((a++x::d).map mkE).toArray k) hb;have hx:((a++x::d).map mkE).toArray[a.length]?=some (mkE x):=by simp
   have he:(((a++x::d).map mkE).toArray.modify a.length fun e=>{ e with key:=.agg (vtA x.1) })=((a++x::d).map mkE).toArray:=by
    apply Array.ext_getElem?;intro i;rw[Array.getElem?_modify];split
    ·rename_i hi
     subst hi;rw[hx];rfl
    ·rfl
   have hst:=Vj x.1 w;rw[Instr.mapEntry];simp only[Sem.run_bind,run_underlying underlying295,Result.andThen_ok,hg,Gn,IR,h1,Nat.zero_add,hx,Option.map_some,Option.getD_some];rw[show(mkE x).key=.agg (vtA x.1)from rfl,hst,Result.andThen_ok,he,hs];simp[goInt,ChangeMaps.setBlock,h2,mkE]
  ·rw[h2];exact ChangeMaps.heap_setBlock_same hb _
  ·rw[h2];exact hk
  ·rw[h2];exact hd
  ·intro u;rw[h2]
theorem CMap.store{w:World}{b:Nat}{a d:List Cnt}{v:Vt}{n born:Nat}(h:CMap w b (a++(v,n,born)::d))(m:Nat):∃ w',(Instr.entryStore 295 (.map (some b)) (.int .i64 (born:Int)) (.int .i64 (m:Int))).run prog w=.ok () w'∧CMap w' b (a++(v,m,born)::d)∧Below b w w'∧∀ i,i≠b→w'.heap[i]?=w.heap[i]?:=by
 obtain⟨⟨k,hb,hk⟩,hd⟩:=h;have hg:(getObj b).run prog w=.ok (.map ((a++(v,n,born)::d).map mkE).toArray k) w:=by simp[getObj,Sem.run,hb]
 refine⟨ChangeMaps.setBlock w b (.map ((a++(v,m,born)::d).map mkE).toArray k),?_,⟨⟨k,ChangeMaps.heap_setBlock_same hb _,?_⟩,?_⟩,Hx hb _,Hy hb _⟩
 ·have hs:=MapKept.run_setObj_map (P:=prog) (w:=w) (.map ((a++(v,m,born)::d).map mkE).toArray k) hb;have hf:((a++(v,n,born)::d).map mkE).toArray.findIdx? (fun e=>(e.born:Int)==(born:Int))=some a.length:=by
   rw[List.findIdx?_toArray,List.map_append,List.findIdx?_append];have h0:(a.map mkE).findIdx? (fun e=>(e.born:Int)==(born:Int))=none:=by
    rw[List.findIdx?_eq_none_iff];intro e he;obtain⟨y,hy,rfl⟩:=List.mem_map.1 he;have:=(List.pairwise_append.1 hd).2.2 y hy (v,n,born) (by simp);simp[mkE];intro g;exact this (show y.2.2=born by omega)
   rw[h0,List.map_cons,List.findIdx?_cons];simp[mkE]
  have he:(((a++(v,n,born)::d).map mkE).toArray.modify a.length fun e=>{ e with val:=.int .i64 (m:Int) })=((a++(v,m,born)::d).map mkE).toArray:=by
   apply Array.ext_getElem?;intro i;rw[Array.getElem?_modify];split
   ·rename_i hi
    subst hi;simp[mkE]
   ·rename_i hi
    simp only[List.getElem?_toArray,List.map_append,List.map_cons];rcases Nat.lt_or_ge i a.length with g|g
    ·rw[List.getElem?_append_left (by simpa using g),List.getElem?_append_left (by simpa using g)]
    ·rw[List.getElem?_append_right (by simpa using g),List.getElem?_append_right (by simpa using g)];obtain⟨q,hq⟩:∃ q,i-(a.map mkE).length=q+1:=⟨i-a.length-1,by simp;omega⟩;rw[hq];rfl
  rw[Instr.entryStore];simp only[Sem.run_bind,hg,Result.andThen_ok,asInt,asIntOf,Sem.run_pure,hf,he,hs];rfl
 ·intro y hy;rcases List.mem_append.1 hy with hy|hy
  ·exact hk y (List.mem_append_left _ hy)
  ·rcases List.mem_cons.1 hy with rfl|hy
   ·exact hk (v,n,born) (by simp)
   ·exact hk y (List.mem_append_right _ (List.mem_cons_of_mem _ hy))
 ·rw[List.pairwise_append,List.pairwise_cons]at hd ⊢
  refine⟨hd.1,⟨fun y hy=>hd.2.1.1 y hy,hd.2.1.2⟩,fun y hy z hz=>?_⟩;rcases List.mem_cons.1 hz with rfl|hz
  ·exact hd.2.2 y hy (v,n,born) (by simp)
  ·exact hd.2.2 y hy z (List.mem_cons_of_mem _ hz)
end Go.Proofs.YtakgfdbjgeopdaaGreatDoor
