/- Part 16 of the walk. -/
import Derived.Test.YtaeckakjdagddadGreatDoorZ14
import Derived.Test.YtaeckakjdagddadGreatDoorZ13
set_option maxRecDepth 100000
set_option maxHeartbeats 4000000
open Go.Proofs.Tryz
set_option linter.unusedVariables false
namespace Go.Proofs.YtaeckakjdagddadGreatDoor
open Go.RowKit
theorem Kp{a:Acc}{v:Vt}{l:List Vt}:IK a (v::l)=IK (if AX a v=0 then⟨Ca a v,Dg a v⟩else a) l:=rfl
theorem RT{l:List Vt}{j:Nat}{v:Vt}(h:l[j]?=some v):l.drop j=v::l.drop (j+1):=by
 obtain⟨h1,h2⟩:=List.getElem?_eq_some_iff.1 h;rw[← h2];exact List.drop_eq_getElem_cons h1
theorem OE{g:Gh}{w:World}{i nb ob:Nat}{p:Nod}{ls:List Let}{ts:List Tol}(h:NS i nb ob g w p ls ts){w0:World}(hB:Base w0 g w)(hT:Tabs w0)(j:Nat)(hj:j<5)(vs:List Vt)(y:S3)(hy:FSv g w y vs)(hb:(p.rnd.heard j).vs.length<100000000) :
  Calls prog 76 #[pt nb 11,iv (j:Int),y.v] w (NP i nb ob g w (.tuple #[]) { p with rnd:=p.rnd.hear j vs } ls ts):=by
 obtain⟨x,lt,tl,hN,hO,hg⟩:=h;refine gI (fn:=f76) (TN i) g func76 hg ?_;refine qN hN ?_;refine qO hO ?_;refine qR [] 18 [0,1,0,2,0] fun s1 g1 w1 c1=>?_;refine BI 50 (fun g' w' e L=>e=[(0,pt nb 11),(1,iv (j:Int)),(6,pt (s1 0) 0),(23,S3.v (x.hv j)),(24,iv ((x.hv j).n:Int)),(25,iv 0)]∧L=[⟨nb,.cells (Ax i ob p x) 113,.n 0 i,false⟩,⟨ob,.cells #[S3.v lt,S3.v tl] 84,.n 50 0,false⟩,⟨(s1 0),.cells #[iv p.rnd.bal.r,iv p.rnd.bal.n,S3.v y] 95,.l,false⟩]∧True∧Cg w.heap.size ([]:List Tg) g1 w1 g' w') (by kernel_rfl) ?_ ?_
 ·intro J hJ;rcases five hj with rfl|rfl|rfl|rfl|rfl <;>
  (refine qR [] 6 [0] fun s3 g3 w3 c3=>?_;exact qB [true,true,true] fun z K0 K=>hJ _ _ _ z _ ⟨rfl,rfl,trivial,(c3.nil ([]:List Tg))⟩ K)
 rintro g2 w2 _ z2 _ ⟨rfl,rfl,_,c2⟩;have hH:=hN.heard j hj;have hn:(x.hv j).n=(p.rnd.heard j).vs.length:=by obtain⟨a,cap,hh⟩:=hH.s.shape;simp only[Value.slice.injEq]at hh;exact hh.2.1
 obtain⟨l,hl⟩:∃ l,l=(p.rnd.heard j).vs:=⟨_,rfl⟩;rw[← hl]at hH hn hb
 refine qR [] 1 [] fun s4 g4 w4 c4=>?_;refine Bz 50 [(0,pt nb 11),(1,iv (j:Int)),(6,pt (s1 0) 0),(23,S3.v (x.hv j)),(24,iv ((x.hv j).n:Int)),(25,iv 0)] [true,true,true] [⟨nb,.cells (Ax i ob p x) 113,.n 0 i,false⟩,⟨ob,.cells #[S3.v lt,S3.v tl] 84,.n 50 0,false⟩,⟨(s1 0),.cells #[iv p.rnd.bal.r,iv p.rnd.bal.n,S3.v y] 95,.l,false⟩] (fun k g' w' e L=>∃ (k0:Nat) (a:Acc) (ya:S3),k=l.length-k0∧k0≤l.length∧e=[(0,pt nb 11),(1,iv (j:Int)),(6,pt (s1 0) 0),(23,S3.v (x.hv j)),(24,iv ((x.hv j).n:Int)),(25,iv (k0:Int))]∧L=[⟨nb,.cells (Ax i ob p x) 113,.n 0 i,false⟩,⟨ob,.cells #[S3.v lt,S3.v tl] 84,.n 50 0,false⟩,⟨(s1 0),.cells #[iv a.p.r,iv a.p.n,S3.v ya] 95,.l,false⟩]∧IK a (l.drop k0)=IK ⟨p.rnd.bal,vs⟩ l∧FSv g' w' ya a.vs∧Cg w.heap.size [] g w g' w') (by kernel_rfl) (by kernel_rfl) (by kernel_rfl) (by kernel_rfl) l.length (fun K=>?_) ?_
 ·exact⟨0,⟨p.rnd.bal,vs⟩,y,rfl,by omega,rfl,rfl,rfl,(((hy.ch c1).ch c2).ch c4),((c1.trans c2).trans c4)⟩
 ·rintro k gr wr _ zr _ ⟨k0,a,ya,rfl,hk0,rfl,rfl,hI,hya,hC⟩ J hJ;refine qR [] 5 [] fun s5 g5 w5 c5=>?_;by_cases h1:k0<l.length
  ·refine qI ((decide ((k0:Int)<((x.hv j).n:Int)))) true (decide_eq_true (by omega)) ?_;obtain⟨v,hv⟩:∃ v,l[k0]?=some v:=⟨_,List.getElem?_eq_getElem h1⟩;have hHr:=hH.ch hC;obtain⟨bx,ox,hxa,hbx,hcell⟩:=hHr.s.spot k0 v hv;refine qR [] 5 [] fun s6 g6 w6 c6=>?_;refine qV 0 (pt bx (ox+8*k0)) (aV hxa k0 (by omega)) ?_;have hcr:=((hHr.ch c5).ch c6).s.spot k0 v hv;obtain⟨bx2,ox2,hxa2,hbx2,hcell2⟩:=hcr;rw[hxa]at hxa2
   simp only[Option.some.injEq,Addr.mk.injEq,and_true]at hxa2;obtain⟨rfl,rfl⟩:=hxa2;refine qV 1 (.agg #[iv v.slot,iv v.b.r,iv v.b.n,iv v.w.k,iv v.w.c,iv v.w.s,iv v.w.n,iv v.w.v]) (fc v hcell2) ?_;refine qR [] 7 [0,0,3,0,2,3] fun s8 g8 w8 c8=>?_;refine Ae fun Kq9=>?_;have hS9:=((((hya.ch c5).ch c6).ch c8)).s;have hB9:=hB.ch (hC.trans ((c5.trans c6).trans c8)) (by simp);have hG9:∀ z,w8.heap.size≤z→g8.t z=.z:=fun z hz=>(Kq9.new z hz).1;refine qC 2 (BL a.p _ a.vs v w8 hS9 (hB9.tn hT)) ?_;rintro e' w10 ⟨y10,rfl,hy10,hl10,b10⟩;refine⟨_,rfl,b10,?_⟩;have c10:=Cg.ofBelow (B:=w.heap.size) (T:=[]) (g:=g8) b10;obtain⟨ys,rfl,hyn,hys⟩:=Di hy10 hG9 (by omega);refine qR [] 12 [0,0,4,0] fun s11 g11 w11 c11=>?_;by_cases h2:AX a v=0
   ·refine qI (((AX a v)==0)) true (by simpa using h2) ?_;refine qR [] 6 [4,2,0] fun s12 g12 w12 c12=>?_;refine qV 0 (iv ((k0:Int)+1)) (AB (x:=(.tmp 25)) (y:=(.const (iv 1))) (k0:Int) 1 underlying3 (by omega)) ?_;refine qR [] 2 [] fun s13 g13 w13 c13=>?_;refine qB [true,true,true,false,false] fun z K0 K=>hJ (l.length-(k0+1)) _ _ _ z _ (by omega) ⟨k0+1,⟨Ca a v,Dg a v⟩,ys,rfl,by omega,rfl,rfl,?_,(((hys.ch c11).ch c12).ch c13),hC.trans ((((((c5.trans c6).trans c8).trans c10).trans c11).trans c12).trans c13)⟩ K;rw[← hI,RT hv,Kp,if_pos h2]
   ·refine qI (((AX a v)==0)) false (by simpa using h2) ?_;refine qR [] 3 [] fun s14 g14 w14 c14=>?_;refine qV 0 (iv ((k0:Int)+1)) (AB (x:=(.tmp 25)) (y:=(.const (iv 1))) (k0:Int) 1 underlying3 (by omega)) ?_;refine qR [] 2 [] fun s15 g15 w15 c15=>?_;refine qB [true,true,true,false,false] fun z K0 K=>hJ (l.length-(k0+1)) _ _ _ z _ (by omega) ⟨k0+1,a,ya,rfl,by omega,rfl,rfl,?_,(((((((hya.ch c5).ch c6).ch c8).ch c10).ch c11).ch c14).ch c15),hC.trans ((((((c5.trans c6).trans c8).trans c10).trans c11).trans c14).trans c15)⟩ K;rw[← hI,RT hv,Kp,if_neg h2]
  ·refine qI ((decide ((k0:Int)<((x.hv j).n:Int)))) false (decide_eq_false (by omega)) ?_;obtain rfl:k0=l.length:=by omega
   rw[List.drop_length]at hI
   refine qR [] 8 [8,0,2,4,6,10,12] fun s16 g16 w16 c16=>?_;refine BI 50 (fun g' w' e L=>e=[(0,pt nb 11)]∧L=[⟨nb,.cells (Ax i ob ({ p with rnd:={ p.rnd with pro:=upN p.rnd.pro j true,heard:=upN p.rnd.heard j a } }) ({ x with hv:=upN x.hv j ya })) 113,.n 0 i,false⟩,⟨ob,.cells #[S3.v lt,S3.v tl] 84,.n 50 0,false⟩,⟨(s1 0),.cells #[iv a.p.r,iv a.p.n,S3.v ya] 95,.l,false⟩]∧True∧Cg w.heap.size ([.n 0 i]:List Tg) g16 w16 g' w') (by kernel_rfl) ?_ ?_
   ·intro J hJ;rcases five hj with rfl|rfl|rfl|rfl|rfl <;>
    (refine qR [] 3 [14,18,20] fun s18 g18 w18 c18=>?_;exact C1 4 8 (by kernel_rfl) (by(refine qR [.n 0 i] 5 [2,17,0,1,22,25,0,1] fun s19 g19 w19 c19=>?_;exact qB [true,true,true] fun z K0 K=>hJ _ _ _ z _ ⟨rfl,rfl,trivial,((c18.nil ([.n 0 i]:List Tg)).trans c19)⟩ K)) (by(refine qR [.n 0 i] 5 [0,1,9,2,22,25,0,1] fun s20 g20 w20 c20=>?_;exact qB [true,true,true] fun z K0 K=>hJ _ _ _ z _ ⟨rfl,rfl,trivial,((c18.nil ([.n 0 i]:List Tg)).trans c20)⟩ K)))
   rintro g17 w17 _ z17 _ ⟨rfl,rfl,_,c17⟩;refine qE (.tuple #[]) fun K=>?_;obtain⟨q1,q2,q3⟩:=K.isN 0 nb (.cells (Ax i ob { p with rnd:={ p.rnd with pro:=upN p.rnd.pro j true,heard:=upN p.rnd.heard j a } } { x with hv:=upN x.hv j ya }) 113) 0 i (by kernel_rfl);obtain⟨q4,q5,q6⟩:=K.isN 1 ob (.cells #[S3.v lt,S3.v tl] 84) 50 0 (by kernel_rfl);have hE:p.rnd.hear j vs={ p.rnd with pro:=upN p.rnd.pro j true,heard:=upN p.rnd.heard j a }:=by unfold Rnd.hear;rw[← hl,← hI];rfl
   rw[hE];have CC:Cg w.heap.size [.n 0 i] g w g17 w17:=((((hC.nil [.n 0 i]).n c5).n c16).trans c17);have ZZ:Tg.z∉[Tg.n 0 i]:=by simp
   have hya2:=(((hya.ch c5).ch c16).ch c17);refine⟨_,rfl,⟨{ x with hv:=upN x.hv j ya },lt,tl,⟨q1,q2,q3,hN.tape.ch CC ZZ,hN.votes.ch CC ZZ,?_,B2 hN.pend CC ZZ (by simp),hN.queue.ch CC,hN.agreed.ch CC,hN.wants.ch CC,hN.asked.ch CC,hN.upm⟩,⟨q4,q5,q6,Dh hO.lets CC ZZ (by simp),hO.told.ch CC⟩,K.new⟩,CC.mono (by simp[TN])⟩;intro k hk;show FSv _ _ (upN x.hv j ya k) (upN p.rnd.heard j a k).vs;unfold upN;split
   ·exact hya2
   ·exact(hN.heard k hk).ch CC ZZ
theorem VG(u v:Vt)(w:World):(Op.equal 162 (.agg (vtA u)) (.agg (vtA v))).run prog w=.ok (decide (u=v)) w:=by
 have h1:=VE u.slot u.b.r u.b.n u.w.k u.w.c u.w.s u.w.n u.w.v v.slot v.b.r v.b.n v.w.k v.w.c v.w.s v.w.n v.w.v w;have h2:decide (u.slot=v.slot∧u.b.r=v.b.r∧u.b.n=v.b.n∧u.w.k=v.w.k∧u.w.c=v.w.c∧u.w.s=v.w.s∧u.w.n=v.w.n∧u.w.v=v.w.v)=decide (u=v):=by
  apply decide_eq_decide.2;constructor
  ·rintro⟨a1,a2,a3,a4,a5,a6,a7,a8⟩;exact(Vt.eq_iff u v).1 ⟨a1,(Bal.eq_iff _ _).1 ⟨a2,a3⟩,(Cmd.eq_iff _ _).1 ⟨a4,a5,a6,a7,a8⟩⟩
  ·rintro rfl;exact⟨rfl,rfl,rfl,rfl,rfl,rfl,rfl,rfl⟩
 rw[h2]at h1
 rw[run_eql_struct]at h1
 show(Op.equalIn 10000 _ _ _).run _ _=_;simp only[vtA,vtC];cases hr:(Op.equalIn 10000 162 (.agg #[.int .i64 u.slot,.int .i64 u.b.r,.int .i64 u.b.n,.int .i64 u.w.k,.int .i64 u.w.c,.int .i64 u.w.s,.int .i64 u.w.n,.int .i64 u.w.v]) (.agg #[.int .i64 v.slot,.int .i64 v.b.r,.int .i64 v.b.n,.int .i64 v.w.k,.int .i64 v.w.c,.int .i64 v.w.s,.int .i64 v.w.n,.int .i64 v.w.v])).run prog w with
 | ok b w'=>rw[hr]at h1;simp[Result.andThen]at h1;rw[h1.1,h1.2]
 | _=>rw[hr]at h1;simp[Result.andThen]at h1
abbrev Cnt:=Vt × Nat × Nat
def mkE(x:Cnt):MapEntry:={ key:=.agg (vtA x.1),val:=.int .i64 (x.2.1:Int),born:=x.2.2 }
def Kg(v:Vt):List Cnt→Nat→Option (Nat × Value)
 | [],_=>none
 | x::c,i=>if v=x.1 then some (i,.int .i64 (x.2.1:Int))else Kg v c (i+1)
theorem LQ(v:Vt)(w:World):∀ (c:List Cnt) (i:Nat),(Instr.findAsking 162 (.agg (vtA v)) (c.map mkE) i).run prog w=.ok (Kg v c i) w
 | [],i=>by simp[Instr.findAsking,Kg]
 | x::c,i=>by
  have h:=VG v x.1 w;rw[List.map_cons,Instr.findAsking,Sem.run_bind];show((Op.equal 162 (.agg (vtA v)) (.agg (vtA x.1))).run _ w).andThen _=_;rw[h,Result.andThen_ok,Kg];by_cases e:v=x.1
  ·rw[decide_eq_true e,if_pos e];simp[mkE]
  ·rw[decide_eq_false e,if_neg e];simpa using LQ v w c (i+1)
theorem J7(v:Vt)(w:World)(c:List Cnt):(Instr.findKey 162 (.agg (vtA v)) (c.map mkE)).run prog w=.ok (Kg v c 0) w:=by
 rw[Instr.findKey,Sem.run_bind,run_underlying underlying162 w,Result.andThen_ok];cases c with
 | nil=>simp[Instr.findNow,Kg]
 | cons x c =>
  show Sem.run _ (match(none:Option (Option (Nat × Value)))with|some r=>pure r|none=>Instr.findAsking 162 (.agg (vtA v)) ((x::c).map mkE)) w=_;exact LQ v w (x::c) 0
theorem GL(em:Bool)(v:Vt)(w:World):(Instr.checkKey em 10000 162 (.agg (vtA v))).run prog w=.ok () w:=by
 obtain⟨s,⟨r,n⟩,⟨k,c,q,m,x⟩⟩:=v;kernel_rfl
def CV(c:List Cnt)(v:Vt):Nat:=match c.find? (fun x=>decide (v=x.1))with|some x=>x.2.1|none=>0
theorem Kh(v:Vt):∀ (c:List Cnt) (i:Nat),(Kg v c i=none∧CV c v=0∧∀ x∈c,v≠x.1)∨∃ a x b,c=a++x::b∧x.1=v∧(∀ y∈a,v≠y.1)∧Kg v c i=some (i+a.length,.int .i64 (x.2.1:Int))∧CV c v=x.2.1
 | [],i=>.inl ⟨rfl,rfl,fun x hx=>by cases hx⟩
 | x::c,i=>by
  by_cases e:v=x.1
  ·refine .inr ⟨[],x,c,rfl,e.symm,fun y hy=>(List.not_mem_nil hy).elim,?_,?_⟩
   ·rw[Kg,if_pos e];simp
   ·simp[CV,e]
  ·rcases Kh v c (i+1)with⟨h1,h2,h3⟩|⟨a,y,b,rfl,hy,h3,h4,h5⟩
   ·refine .inl ⟨by rw[Kg,if_neg e,h1],?_,fun y hy=>?_⟩
    ·rw[← h2];simp[CV,e]
    ·rcases List.mem_cons.1 hy with rfl|hy
     ·exact e
     ·exact h3 y hy
   ·refine .inr ⟨x::a,y,b,rfl,hy,fun z hz=>?_,?_,?_⟩
    ·rcases List.mem_cons.1 hz with rfl|hz
     ·exact e
     ·exact h3 z hz
    ·rw[Kg,if_neg e,h4];simp;omega
    ·rw[← h5];simp[CV,e]
structure CMap(w:World)(b:Nat)(c:List Cnt):Prop where
 ex:∃ clock,w.heap[b]?=some (.map (c.map mkE).toArray clock)∧∀ x∈c,x.2.2<clock
 dis:c.Pairwise fun x y=>x.2.2≠y.2.2
theorem CMap.lt{w:World}{b:Nat}{c:List Cnt}(h:CMap w b c):b<w.heap.size:=by
 obtain⟨⟨k,hb,_⟩,_⟩:=h;exact(Array.getElem?_eq_some_iff.1 hb).1
theorem CMap.keep{w w':World}{b:Nat}{c:List Cnt}(h:CMap w b c)(hb:w'.heap[b]?=w.heap[b]?):CMap w' b c:=by
 obtain⟨⟨k,h1,h2⟩,h3⟩:=h;exact⟨⟨k,hb.trans h1,h2⟩,h3⟩
theorem CMap.below{w w':World}{b:Nat}{c:List Cnt}(h:CMap w b c)(hb:Bw w w'):CMap w' b c:=h.keep (hb.block b h.lt)
theorem CMap.made(w:World):CMap (w.alloc (.map #[] 0)) w.heap.size []:=⟨⟨0,heap_alloc_new _ _,fun x hx=>by cases hx⟩,List.Pairwise.nil⟩
theorem fT(w:World):(zeroValue 3).run prog w=.ok (.int .i64 0) w:=by kernel_rfl
theorem CMap.look{w:World}{b:Nat}{c:List Cnt}(h:CMap w b c)(v:Vt):(Instr.lookup 266 (.map (some b)) (.agg (vtA v)) false).run prog w=.ok (.int .i64 (CV c v:Int)) w:=by
 obtain⟨⟨k,hb,_⟩,_⟩:=h;have hg:(getObj b).run prog w=.ok (.map (c.map mkE).toArray k) w:=by simp[getObj,Sem.run,hb]
 rcases Kh v c 0 with⟨h1,h2,_⟩|⟨a,x,d,_,_,_,h1,h2⟩
 ·simp[Instr.lookup,run_underlying underlying266,hg,GL,J7,h1,h2]
 ·simp[Instr.lookup,run_underlying underlying266,hg,GL,J7,h1,h2]
theorem ZH(v:Vt)(n:Nat):Instr.sameBits (n+1) (.agg (vtA v)) (.agg (vtA v))=true:=by
 simp[Instr.sameBits,vtA,vtC]
theorem X2(v:Vt)(w:World):(Instr.keyThatStays (.agg (vtA v)) (.agg (vtA v))).run prog w=.ok (.agg (vtA v)) w:=by
 rw[Instr.keyThatStays,if_pos (ZH v 9999)];rfl
theorem Tk{a d:List Cnt}{v u:Vt}{n m born:Nat}(ha:∀ y∈a,v≠y.1):CV (a++(v,m,born)::d) u=if u=v then m else CV (a++(v,n,born)::d) u:=by
 unfold CV;rw[List.find?_append,List.find?_append,List.find?_cons,List.find?_cons];by_cases e:u=v
 ·subst e;have hn:a.find? (fun x=>decide (u=x.1))=none:=by
   rw[List.find?_eq_none];intro y hy;simp[ha y hy]
  rw[hn];simp
 ·rw[if_neg e];simp[e]
theorem Iv{w:World}{b:Nat}{es:Array MapEntry}{k:Nat}(hb:w.heap[b]?=some (.map es k))(o:Obj):Below b w (ChangeMaps.setBlock w b o) :=
 ⟨rfl,rfl,rfl,by simp[ChangeMaps.setBlock],fun i hi=>ChangeMaps.heap_setBlock_other hb o (by omega)⟩
theorem Iw{w:World}{b:Nat}{es:Array MapEntry}{k:Nat}(hb:w.heap[b]?=some (.map es k))(o:Obj)(i:Nat)(h:i≠b):(ChangeMaps.setBlock w b o).heap[i]?=w.heap[i]?:=ChangeMaps.heap_setBlock_other hb o h
theorem CMap.entry{w:World}{b:Nat}{c:List Cnt}(h:CMap w b c)(v:Vt):∃ (a d:List Cnt) (born:Nat) (w':World),(Instr.mapEntry 266 (.map (some b)) (.agg (vtA v))).run prog w=.ok (.tuple #[.int .i64 (CV c v:Int),.int .i64 (born:Int)]) w'∧CMap w' b (a++(v,CV c v,born)::d)∧(∀ y∈a,v≠y.1)∧(∀ u,CV (a++(v,CV c v,born)::d) u=CV c u)∧Below b w w'∧∀ i,i≠b→w'.heap[i]?=w.heap[i]?:=by
 obtain⟨⟨k,hb,hk⟩,hd⟩:=h;have hg:(getObj b).run prog w=.ok (.map (c.map mkE).toArray k) w:=by simp[getObj,Sem.run,hb]
 rcases Kh v c 0 with⟨h1,h2,h3⟩|⟨a,x,d,rfl,rfl,h3,h1,h2⟩
 ·refine⟨c,[],k,ChangeMaps.setBlock w b (.map ((c++[(v,0,k)]).map mkE).toArray (k+1)),?_,⟨⟨k+1,?_,?_⟩,?_⟩,h3,?_,Iv hb _,Iw hb _⟩
  ·have hs:=MapKept.run_setObj_map (P:=prog) (w:=w) (.map ((c++[(v,0,k)]).map mkE).toArray (k+1)) hb;have he:((c.map mkE).toArray.push { key:=.agg (vtA v),val:=.int .i64 0,born:=k })=((c++[(v,0,k)]).map mkE).toArray:=by simp[mkE]
   rw[Instr.mapEntry];simp only[Sem.run_bind,run_underlying underlying266,Result.andThen_ok,hg,GL,J7,h1,h2,fT,he,hs];rfl
  ·rw[h2];exact ChangeMaps.heap_setBlock_same hb _
  ·intro y hy;rcases List.mem_append.1 hy with hy|hy
   ·have:=hk y hy;omega
   ·obtain rfl:y=(v,CV c v,k):=by simpa using hy
    show k<k+1;omega
  ·rw[List.pairwise_append];refine⟨hd,List.pairwise_singleton _ _,fun y hy z hz=>?_⟩;obtain rfl:z=(v,CV c v,k):=by simpa using hz
   have:=hk y hy;show y.2.2≠k;omega
  ·intro u;rw[h2];unfold CV;rw[List.find?_append];cases hf:c.find? (fun x=>decide (u=x.1))with
   | some y=>rfl
   | none =>
    by_cases e:u=v
    ·subst e;simp
    ·simp[e]
 ·refine⟨a,d,x.2.2,ChangeMaps.setBlock w b (.map ((a++x::d).map mkE).toArray k),?_,⟨⟨k,?_,?_⟩,?_⟩,h3,?_,Iv hb _,Iw hb _⟩
  ·have hs:=MapKept.run_setObj_map (P:=prog) (w:=w) (.map ((a++x::d).map mkE).toArray k) hb;have hx:((a++x::d).map mkE).toArray[a.length]?=some (mkE x):=by simp
   have he:(((a++x::d).map mkE).toArray.modify a.length fun e=>{ e with key:=.agg (vtA x.1) })=((a++x::d).map mkE).toArray:=by
    apply Array.ext_getElem?;intro i;rw[Array.getElem?_modify];split
    ·rename_i hi
     subst hi;rw[hx];rfl
    ·rfl
   have hst:=X2 x.1 w;rw[Instr.mapEntry];simp only[Sem.run_bind,run_underlying underlying266,Result.andThen_ok,hg,GL,J7,h1,Nat.zero_add,hx,Option.map_some,Option.getD_some];rw[show(mkE x).key=.agg (vtA x.1)from rfl,hst,Result.andThen_ok,he,hs];simp[goInt,ChangeMaps.setBlock,h2,mkE]
  ·rw[h2];exact ChangeMaps.heap_setBlock_same hb _
  ·rw[h2];exact hk
  ·rw[h2];exact hd
  ·intro u;rw[h2]
theorem CMap.store{w:World}{b:Nat}{a d:List Cnt}{v:Vt}{n born:Nat}(h:CMap w b (a++(v,n,born)::d))(m:Nat):∃ w',(Instr.entryStore 266 (.map (some b)) (.int .i64 (born:Int)) (.int .i64 (m:Int))).run prog w=.ok () w'∧CMap w' b (a++(v,m,born)::d)∧Below b w w'∧∀ i,i≠b→w'.heap[i]?=w.heap[i]?:=by
 obtain⟨⟨k,hb,hk⟩,hd⟩:=h;have hg:(getObj b).run prog w=.ok (.map ((a++(v,n,born)::d).map mkE).toArray k) w:=by simp[getObj,Sem.run,hb]
 refine⟨ChangeMaps.setBlock w b (.map ((a++(v,m,born)::d).map mkE).toArray k),?_,⟨⟨k,ChangeMaps.heap_setBlock_same hb _,?_⟩,?_⟩,Iv hb _,Iw hb _⟩
 ·have hs:=MapKept.run_setObj_map (P:=prog) (w:=w) (.map ((a++(v,m,born)::d).map mkE).toArray k) hb;have hf:((a++(v,n,born)::d).map mkE).toArray.findIdx? (fun e=>(e.born:Int)==(born:Int))=some a.length:=by
   rw[List.findIdx?_toArray,List.map_append,List.findIdx?_append];have h0:(a.map mkE).findIdx? (fun e=>(e.born:Int)==(born:Int))=none:=by
    rw[List.findIdx?_eq_none_iff];intro e he;obtain⟨y,hy,rfl⟩:=List.mem_map.1 he;have:=(List.pairwise_append.1 hd).2.2 y hy (v,n,born) (by simp);simp[mkE];intro g;exact this (show y.2.2=born by omega)
   rw[h0,List.map_cons,List.findIdx?_cons];simp[mkE]
  have he:(((a++(v,n,born)::d).map mkE).toArray.modify a.length fun e=>{ e with val:=.int .i64 (m:Int) })=((a++(v,m,born)::d).map mkE).toArray:=by
   apply Array.ext_getElem?;intro i;rw[Array.getElem?_modify];split
   ·rename_i hi
    subst hi;simp[mkE]
   ·rename_i hi
    simp only[List.getElem?_toArray,List.map_append,List.map_cons];rcases Nat.lt_or_ge i a.length with g|g
    ·rw[List.getElem?_append_left (by simpa using g),List.getElem?_append_left (by simpa using g)]
    ·rw[List.getElem?_append_right (by simpa using g),List.getElem?_append_right (by simpa using g)];obtain⟨q,hq⟩:∃ q,i-(a.map mkE).length=q+1:=⟨i-a.length-1,by simp;omega⟩;rw[hq];rfl
  rw[Instr.entryStore];simp only[Sem.run_bind,hg,Result.andThen_ok,asInt,asIntOf,Sem.run_pure,hf,he,hs];rfl
 ·intro y hy;rcases List.mem_append.1 hy with hy|hy
  ·exact hk y (List.mem_append_left _ hy)
  ·rcases List.mem_cons.1 hy with rfl|hy
   ·exact hk (v,n,born) (by simp)
   ·exact hk y (List.mem_append_right _ (List.mem_cons_of_mem _ hy))
 ·rw[List.pairwise_append,List.pairwise_cons]at hd ⊢
  refine⟨hd.1,⟨fun y hy=>hd.2.1.1 y hy,hd.2.1.2⟩,fun y hy z hz=>?_⟩;rcases List.mem_cons.1 hz with rfl|hz
  ·exact hd.2.2 y hy (v,n,born) (by simp)
  ·exact hd.2.2 y hy z (List.mem_cons_of_mem _ hz)
section
variable{P:Program}{md:Region.Mode}{ops:Array Oper}{Q:Exit→Act→World→Prop}{S:World→Prop}
theorem WH{i d:Nat}{o:Oper}{a:Act}{w:World}{K:Act→World→Prop}(ho:ops[i]?=some o)(hw:Region.wanted o (yielded ops a.tmps)=true)(hd:o.dst=some d)(t:TypeId)(m x:Operand)(hop:o.op=.lookup t m x false)
  (mv xv v:Value)(hm:a.eval m=mv)(hx:a.eval x=xv)(hrun:(Instr.lookup t mv xv false).run P w=.ok v w)(h:K (a.put (some d) v) w):wpOp P ops Q i K a w :=
 WI ho hw hd (by unfold execOp;simp only[hop,hm,hx,Sem.run_bind,hrun,Result.andThen_ok,Sem.run_pure]) h
theorem Ss{i d:Nat}{o:Oper}{a:Act}{w w':World}{K:Act→World→Prop}(ho:ops[i]?=some o)(hw:Region.wanted o (yielded ops a.tmps)=true)(hd:o.dst=some d)(t:TypeId)(m x:Operand)(hop:o.op=.mapEntry t m x)
  (mv xv v:Value)(hm:a.eval m=mv)(hx:a.eval x=xv)(hrun:(Instr.mapEntry t mv xv).run P w=.ok v w')(h:K (a.put (some d) v) w'):wpOp P ops Q i K a w :=
 WI ho hw hd (by unfold execOp;simp only[hop,hm,hx,Sem.run_bind,hrun,Result.andThen_ok,Sem.run_pure]) h
theorem OX{i:Nat}{o:Oper}{a:Act}{w w':World}{K:Act→World→Prop}(ho:ops[i]?=some o)(hw:Region.wanted o (yielded ops a.tmps)=true)(hd:o.dst=none)(t:TypeId)(m x y:Operand)(hop:o.op=.entryStore t m x y)
  (mv xv yv:Value)(hm:a.eval m=mv)(hx:a.eval x=xv)(hy:a.eval y=yv)(hrun:(Instr.entryStore t mv xv yv).run P w=.ok () w')(h:K a w'):wpOp P ops Q i K a w :=
 wpOp_step ho fun K' hK=>by
  rw[if_pos hw];unfold Oper.wp execOp;simp only[hop,hm,hx,hy,Sem.run_bind,hrun,Result.andThen_ok,Sem.run_pure];exact hK _ _ (by rw[hd];exact h)
end
theorem MJ{ops:Array Oper}{S:World→Prop}{op:Oper}{a:Act}(hw:Region.wanted op (yielded ops a.tmps)=true)(x:Operand)(ho:op.op=.binOp .add 3 x (.const (.int .i64 1)) 3)(n m:Nat)(hx:a.eval x=.int .i64 (n:Int))(hm:m=n+1)(h0:n≤1000) :
  YieldsIf prog ops S op (.int .i64 (m:Int)) a :=
 .inl ⟨hw,fun w _=>by
  have hc:a.eval (.const (.int .i64 1))=.int .i64 1:=rfl;unfold execOp;simp only[ho,hx,hc];simp[go_sem];rw[IntKind.wrap_i64];omega⟩
theorem WL{P:Program}{id:Nat}{ops:Array Oper}{K:Act→World→Prop}{Q:Exit→Act→World→Prop}{a:Act}{w:World}(R:Nat→World→Prop){A:Nat→Act}
  (hreg:∀ K':Act→World→Prop,Hid (∀ x W2,R x W2→K' (A x) W2)→(Code.region id ops true).wp P (Exit.then K' Q) a w)(hrest:∀ x W2,R x W2→K (A x) W2):(Code.region id ops true).wp P (Exit.then K Q) a w:=hreg K hrest
def Ha(l:List Vt)(m:Nat):Cmd:=((Ig l m).map (·.w)).getD ⟨0,0,0,0,0⟩
def Hb(l:List Vt)(m:Nat):Int:=if(Ig l m).isSome then 0 else 9
theorem Mn{l:List Vt}{m:Nat}{v:Vt}(h:Ig l m=some v):Ha l m=v.w∧Hb l m=0:=by unfold Ha Hb;rw[h];exact⟨rfl,rfl⟩
theorem Mm{l:List Vt}{m:Nat}(h:Ig l m=none):Ha l m=⟨0,0,0,0,0⟩∧Hb l m=9:=by unfold Ha Hb;rw[h];exact⟨rfl,rfl⟩
theorem GM:(prog.info? 44).map (·.size)=some 5:=by kernel_rfl
theorem UP:(prog.info? 95).map (·.size)=some 3:=by kernel_rfl
theorem OU(l:List Vt)(u v:Vt):CD (l++[u]) v=if v=u then CD l v+1 else CD l v:=by
 unfold CD;rw[List.countP_append];by_cases e:v=u
 ·subst e;simp
 ·rw[if_neg e];simp;exact fun g=>e g.symm
theorem W6(x:Value)(ac:List Acc)(s:Int)(w:World)(h:Sac w x ac)(hn5:ac.length≤5)(hmay:∀ a∈ac,AD a) :
  Calls prog 170 #[x,.int .i64 s] w fun e w'=>e=.returned (.tuple #[.agg (cmC (Ha (Fe ac s) ac.length)),.int .i64 (Hb (Fe ac s) ac.length)])∧Bw w w':=by
 have HMay:Hid (∀ a∈ac,AD a):=hmay;clear hmay;obtain⟨ax,cp,rfl⟩:=h.shape;obtain⟨N,hN⟩:∃ N,ac.length=N:=⟨_,rfl⟩;have HN:Hid (ac.length=N):=hN;rw[hN]at h hn5 ⊢
 clear hN;have hz5:(zV5:Array Value).all (·.oneCell')=true:=by simp[Value.oneCell']
 have rr:=heap_alloc_new w (.cells zV5 44);have bb:Bw w (w.alloc (.cells zV5 44)):=(Below.refl _ _).alloc (Nat.le_refl _) _;have z0:(w.alloc (.cells zV5 44)).heap.size=w.heap.size+1:=by simp
 generalize hW0:w.alloc (.cells zV5 44)=w1 at rr bb z0;have h0:=h.below bb;clear h;have b0:Below (w.heap.size+1) w1 (w1.alloc (.map #[] 0)):=(Below.refl _ _).alloc (by omega) _;have v0:CMap (w1.alloc (.map #[] 0)) (w.heap.size+1) []:=by rw[← z0];exact CMap.made _
 generalize hWA:w1.alloc (.map #[] 0)=WA at b0 v0;have hmm:=@run_makeMap prog;go_enter func170,ntmps170
 go_wp2_with fail
 clear hWA hW0 hmm;have hne:w.heap.size<w.heap.size+1:=by omega
 generalize hB:w.heap.size+1=B at b0 v0 z0 hne ⊢;have HB:Hid (B=w1.heap.size):=z0.symm;clear hB z0
 go_loopw [14] (fun iv wr=>∃ (j:Nat) (c:List Cnt),j≤N∧iv=.int .i64 (j:Int)∧CMap wr B c∧(∀ v,CV c v=CD (Al ((ac.take j).map (·.vs)).flatten s) v)∧(∀ v,2*CD (Al ((ac.take j).map (·.vs)).flatten s) v≤N)∧Below B w1 wr) (fun iv _=>((N:Int)-intOf iv).toNat)
 case atStart=>exact⟨0,[],by omega,rfl,v0,fun v=>rfl,fun v=>by simp[CD,Al],b0⟩
 case round =>
  clear v0 b0;obtain⟨j,c,hj,rfl,hcm,hcnt,hle,hbel⟩:=hrel;have HC:Hid (∀ v,CV c v=CD (Al ((ac.take j).map (·.vs)).flatten s) v):=hcnt;have HL:Hid (∀ v,2*CD (Al ((ac.take j).map (·.vs)).flatten s) v≤N):=hle;clear hcnt hle;by_cases hjN:j<N
  ·have hji:(j:Int)<(N:Int):=by omega
   obtain⟨A,hA⟩:∃ A,ac[j]?=some A:=⟨_,List.getElem?_eq_getElem (by have:=HN.out;omega)⟩;obtain⟨b,off,y,rfl,ltb,hr0,hsy0⟩:=h0.spot j A hA;have hma:AD A:=HMay.out A (List.mem_iff_getElem?.2 ⟨j,hA⟩);obtain⟨⟨pr,pn⟩,l⟩:=A;simp only at hr0 hsy0;have hixA:=M0 b off N cp j hjN;obtain⟨ay,cy,hy⟩:=hsy0.shape;obtain⟨M,hM⟩:∃ M,l.length=M:=⟨_,rfl⟩;have HM:Hid (l.length=M):=hM;rw[hM]at hy
   subst hy;have HRise:Hid (BB l):=hma.2.2;have HF:Hid (((ac.take (j+1)).map (·.vs)).flatten=((ac.take j).map (·.vs)).flatten++l):=R7 ac j _ hA;clear hA hM hma;have hrw:=Gz hbel (show b<B by rw[HB.out];exact ltb) hr0;have hsy:=hsy0.below (hbel.mono (by rw[HB.out];exact Nat.le_refl _));have bN:Bw wr (wr.alloc (.cells #[.int .i64 0,.int .i64 0,.slice none 0 0] 95)):=(Below.refl _ _).alloc (Nat.le_refl _) _;have rN:=heap_alloc_new wr (.cells #[.int .i64 0,.int .i64 0,.slice none 0 0] 95);have hone:(#[.int .i64 pr,.int .i64 pn,.slice ay M cy]:Array Value).all (·.oneCell')=true:=by simp[Value.oneCell']
   generalize hWN:wr.alloc (.cells #[.int .i64 0,.int .i64 0,.slice none 0 0] 95)=WN at bN rN
   go_upto_region 5 with((with_reducible (refine Ar ?_));first|(refine wpList_load_mid rfl 95 _ rfl b (off+3*j) rfl [.int .i64 pr,.int .i64 pn,.slice ay M cy] _ hrw underlying95 rfl UP ?_)|(refine wpList_store_row rfl 95 (.tmp 8) (.tmp 17) rfl wr.heap.size (#[.int .i64 pr,.int .i64 pn,.slice ay M cy]) rfl rfl 95 _ rN UP rfl hone ?_))
   clear hWN;have q:=setRow_heap WN wr.heap.size _ (#[.int .i64 pr,.int .i64 pn,.slice ay M cy]) 95 _ rN;replace bN:=Ai bN (Nat.le_refl _) (#[.int .i64 pr,.int .i64 pn,.slice ay M cy]);generalize WN.setRow wr.heap.size (#[.int .i64 pr,.int .i64 pn,.slice ay M cy])=W at q bN ⊢;have ltG:wr.heap.size<W.heap.size:=(Array.getElem?_eq_some_iff.1 q).1;have hcW:=hcm.below bN;have hszB:=hbel.size;have ltB:B<wr.heap.size:=hcm.lt;have eW:=hbel.trans (bN.mono (by omega));have sW:=hsy.below bN;generalize wr.heap.size=G at q ltG ltB ⊢;have c2:W.cell? ⟨G,2,none⟩=some (.slice ay M cy):=cell_of_row _ _ 2 _ _ _ q;clear rN hrw hixA bN hcm hsy hbel hszB;go_wp2_with fail
   refine(IT _ l s W HRise.out sW).mono ?_;rintro e W2 ⟨p,rfl,hp,b2⟩;have HP:Hid (Plc l s p):=hp;have c2:=(b2.cell (p:=⟨G,2,none⟩) ltG).trans c2;have hc2:=hcW.below b2;have s2:=sW.below b2;have e2:=eW.trans (b2.mono (by omega));have ltG2:G<W2.heap.size:=Nat.lt_of_lt_of_le ltG b2.size;clear hp b2 hcW sW eW q ltG;go_wp2_with fail
   refine(IJ _ l p s W2 s2).mono ?_;rintro e W3 ⟨rfl,rfl⟩;generalize hh:Km l p s=bh;cases bh
   ·have HT:Hid (Al ((ac.take (j+1)).map (·.vs)).flatten s=Al ((ac.take j).map (·.vs)).flatten s):=by
     unfold Hid;rw[HF.out,CS,Plc.ofSlot_no HRise.out HP.out (Ko hh),List.append_nil]
    clear hh;go_wp2
    go_roundw
    case rel=>exact⟨j+1,c,by omega,by go_num,hc2,by rw[HT.out];exact HC.out,by rw[HT.out];exact HL.out,e2⟩
    case measure=>simp[intOf];omega
   ·obtain⟨u,hu,hus⟩:=Mc hh;have HT:Hid (Al ((ac.take (j+1)).map (·.vs)).flatten s=Al ((ac.take j).map (·.vs)).flatten s++[u]):=by
     unfold Hid;rw[HF.out,CS,Plc.ofSlot_has HRise.out hu hus]
    have hpM:p<M:=by have:=(List.getElem?_eq_some_iff.1 hu).1;have:=HM.out;omega
    obtain⟨b4,o4,hay,ltb4,hr4⟩:=s2.spot p u hu;subst hay;have hix:=Dq b4 o4 M cy p hpM;have hi:=Iy u;have hcn:CV c u=CD (Al ((ac.take j).map (·.vs)).flatten s) u:=HC.out u;have hn2:=HL.out u;obtain⟨n,hnn⟩:∃ n,CD (Al ((ac.take j).map (·.vs)).flatten s) u=n:=⟨_,rfl⟩;rw[hnn]at hcn hn2
    have HN1:Hid (CD (Al ((ac.take (j+1)).map (·.vs)).flatten s) u=n+1):=by unfold Hid;rw[HT.out,OU,if_pos rfl,hnn]
    have HNx:Hid (∀ v,CD (Al ((ac.take (j+1)).map (·.vs)).flatten s) v=if v=u then n+1 else CD (Al ((ac.take j).map (·.vs)).flatten s) v):=fun v=>by
     rw[HT.out,OU];split
     ·rename_i g;rw[g,hnn]
     ·rfl
    clear hu hus hh hnn HT;obtain⟨us,⟨ur,un⟩,⟨uk,uc,uq,um,ux⟩⟩:=u;simp only[vtC]at hr4 hi;have bN:Bw W3 (W3.alloc (.cells zV8 162)):=(Below.refl _ _).alloc (Nat.le_refl _) _;have rN:=heap_alloc_new W3 (.cells zV8 162);have hone8:(#[.int .i64 us,.int .i64 ur,.int .i64 un,.int .i64 uk,.int .i64 uc,.int .i64 uq,.int .i64 um,.int .i64 ux]:Array Value).all (·.oneCell')=true:=by simp[Value.oneCell']
    generalize hWN:W3.alloc (.cells zV8 162)=WN at bN rN
    go_upto_region 8 with((with_reducible (refine Ar ?_));first|(refine wpList_load_mid rfl 162 _ rfl b4 (o4+8*p) rfl [.int .i64 us,.int .i64 ur,.int .i64 un,.int .i64 uk,.int .i64 uc,.int .i64 uq,.int .i64 um,.int .i64 ux] _ hr4 underlying162 rfl hi ?_)|(refine wpList_store_row rfl 162 (.tmp 10) (.tmp 32) rfl W3.heap.size (#[.int .i64 us,.int .i64 ur,.int .i64 un,.int .i64 uk,.int .i64 uc,.int .i64 uq,.int .i64 um,.int .i64 ux]) rfl rfl 162 _ rN hi rfl hone8 ?_))
    clear hWN;have q:=setRow_heap WN W3.heap.size _ (#[.int .i64 us,.int .i64 ur,.int .i64 un,.int .i64 uk,.int .i64 uc,.int .i64 uq,.int .i64 um,.int .i64 ux]) 162 _ rN;replace bN:=Ai bN (Nat.le_refl _) (#[.int .i64 us,.int .i64 ur,.int .i64 un,.int .i64 uk,.int .i64 uc,.int .i64 uq,.int .i64 um,.int .i64 ux]);generalize WN.setRow W3.heap.size (#[.int .i64 us,.int .i64 ur,.int .i64 un,.int .i64 uk,.int .i64 uc,.int .i64 uq,.int .i64 um,.int .i64 ux])=W at q bN ⊢;have ltG3:W3.heap.size<W.heap.size:=(Array.getElem?_eq_some_iff.1 q).1;have hcW:=hc2.below bN;have ltB3:B<W3.heap.size:=hc2.lt;have eW:=e2.trans (bN.mono (by omega));generalize W3.heap.size=G2 at q ltG3 ltB3 ⊢;clear rN hr4 hix bN hc2 e2 c2 s2 ltb4;apply WL (fun born W2=>∃ c',CMap W2 B c'∧(∀ u,CV c' u=if u=⟨us,⟨ur,un⟩,⟨uk,uc,uq,um,ux⟩⟩then n+1 else CV c u)∧W2.heap[G2]?=some (.cells (vtA ⟨us,⟨ur,un⟩,⟨uk,uc,uq,um,ux⟩⟩) 162 (0,0))∧Below B W W2)
    ·intro K2 HK2;refine wp_region_held (S:=fun w':World=>w'.heap[G2]?=some (.cells (vtA ⟨us,⟨ur,un⟩,⟨uk,uc,uq,um,ux⟩⟩) 162 (0,0))) (by kernel_rfl) ?_;have hS0:(fun w':World=>w'.heap[G2]?=some (.cells (vtA ⟨us,⟨ur,un⟩,⟨uk,uc,uq,um,ux⟩⟩) 162 (0,0))) W.drew:=q;have hcd:CMap W.drew B c:=hcW.keep rfl;refine Af (i:=0) 33 (v:=.map (some B)) rfl rfl (by kernel_rfl) (by kernel_rfl) (by kernel_rfl) (fun _ _ _ h=>h) (Or.inl ⟨by rfl,fun _ _=>by kernel_rfl⟩) hS0 ?_;simp only[Act.put,List.setIfInBounds_toArray,List.set_cons_zero,List.set_cons_succ];refine Af (i:=1) 34 (v:=.agg (vtA ⟨us,⟨ur,un⟩,⟨uk,uc,uq,um,ux⟩⟩)) rfl rfl (by kernel_rfl) (by kernel_rfl) (by kernel_rfl) (fun _ _ _ h=>h) (aG (by rfl) (.tmp 10) rfl G2 rfl ⟨us,⟨ur,un⟩,⟨uk,uc,uq,um,ux⟩⟩ (fun w' hw'=>hw')) hS0 ?_;simp only[Act.put,List.setIfInBounds_toArray,List.set_cons_zero,List.set_cons_succ];obtain⟨ca,cd,born,w5,hrun5,hc5,ha5,hu5,b5,k5⟩:=hcd.entry ⟨us,⟨ur,un⟩,⟨uk,uc,uq,um,ux⟩⟩;have hn5:CV c ⟨us,⟨ur,un⟩,⟨uk,uc,uq,um,ux⟩⟩=n:=hcn;rw[hn5]at hrun5 hc5 hu5
     have hS5:w5.heap[G2]?=some (.cells (vtA ⟨us,⟨ur,un⟩,⟨uk,uc,uq,um,ux⟩⟩) 162 (0,0)):=(k5 G2 (by omega)).trans hS0;obtain⟨w6,hrun6,hc6,b6,k6⟩:=hc5.store (n+1);have hS6:w6.heap[G2]?=some (.cells (vtA ⟨us,⟨ur,un⟩,⟨uk,uc,uq,um,ux⟩⟩) 162 (0,0)):=(k6 G2 (by omega)).trans hS5;have hlk0:=hcd.look ⟨us,⟨ur,un⟩,⟨uk,uc,uq,um,ux⟩⟩;rw[hn5]at hlk0
     have hlk5:=hc5.look ⟨us,⟨ur,un⟩,⟨uk,uc,uq,um,ux⟩⟩;rw[hu5,hn5]at hlk5
     have RES:Hid (∃ c',CMap w6 B c'∧(∀ u,CV c' u=if u=⟨us,⟨ur,un⟩,⟨uk,uc,uq,um,ux⟩⟩then n+1 else CV c u)∧w6.heap[G2]?=some (.cells (vtA ⟨us,⟨ur,un⟩,⟨uk,uc,uq,um,ux⟩⟩) 162 (0,0))∧Below B W w6):=⟨_,hc6,fun u=>by rw[Tk (n:=n) ha5,hu5],hS6,((Below.refl B W).drew.trans b5).trans b6⟩;refine YI (i:=2) (i':=4) (by kernel_rfl) (WH (i:=2) (d:=35) rfl (by kernel_rfl) rfl 266 (.tmp 33) (.tmp 34) rfl (.map (some B)) (.agg (vtA ⟨us,⟨ur,un⟩,⟨uk,uc,uq,um,ux⟩⟩)) (.int .i64 (n:Int)) (by kernel_rfl) (by kernel_rfl) hlk0 ⟨hS0,?_⟩) (Ss (i:=4) (d:=37) rfl (by kernel_rfl) rfl 266 (.tmp 33) (.tmp 34) rfl (.map (some B)) (.agg (vtA ⟨us,⟨ur,un⟩,⟨uk,uc,uq,um,ux⟩⟩)) (.tuple #[.int .i64 (n:Int),.int .i64 (born:Int)]) (by kernel_rfl) (by kernel_rfl) hrun5 ⟨hS5,?_⟩)
     ·simp only[Act.put,List.setIfInBounds_toArray,List.set_cons_zero,List.set_cons_succ];refine Af (i:=3) 36 (v:=.int .i64 ((n+1:Nat):Int)) rfl rfl (by kernel_rfl) (by kernel_rfl) (by kernel_rfl) (fun _ _ _ h=>h) (MJ (by rfl) (.tmp 35) rfl n (n+1) rfl rfl (by omega)) hS0 ?_;simp only[Act.put,List.setIfInBounds_toArray,List.set_cons_zero,List.set_cons_succ];refine B1 (i:=4) (by kernel_rfl) (Ss (i:=4) (d:=37) rfl (by kernel_rfl) rfl 266 (.tmp 33) (.tmp 34) rfl (.map (some B)) (.agg (vtA ⟨us,⟨ur,un⟩,⟨uk,uc,uq,um,ux⟩⟩)) (.tuple #[.int .i64 (n:Int),.int .i64 (born:Int)]) (by kernel_rfl) (by kernel_rfl) hrun5 ⟨hS5,?_⟩);simp only[Act.put,List.setIfInBounds_toArray,List.set_cons_zero,List.set_cons_succ];refine Af (i:=5) 38 (v:=.int .i64 (born:Int)) rfl rfl (by kernel_rfl) (by kernel_rfl) (by kernel_rfl) (fun _ _ _ h=>h) (Or.inl ⟨by rfl,fun _ _=>by kernel_rfl⟩) hS5 ?_;simp only[Act.put,List.setIfInBounds_toArray,List.set_cons_zero,List.set_cons_succ];refine B1 (i:=6) (by kernel_rfl) (OX (i:=6) rfl (by kernel_rfl) rfl 266 (.tmp 33) (.tmp 38) (.tmp 36) rfl (.map (some B)) (.int .i64 (born:Int)) (.int .i64 ((n+1:Nat):Int)) (by kernel_rfl) (by kernel_rfl) (by kernel_rfl) hrun6 ⟨hS6,?_⟩);exact wpAnyH_done (by kernel_rfl) (HK2.out born _ RES.out) _
     ·simp only[Act.put,List.setIfInBounds_toArray,List.set_cons_zero,List.set_cons_succ];refine Af (i:=5) 38 (v:=.int .i64 (born:Int)) rfl rfl (by kernel_rfl) (by kernel_rfl) (by kernel_rfl) (fun _ _ _ h=>h) (Or.inl ⟨by rfl,fun _ _=>by kernel_rfl⟩) hS5 ?_;simp only[Act.put,List.setIfInBounds_toArray,List.set_cons_zero,List.set_cons_succ];refine B1 (i:=2) (by kernel_rfl) (WH (i:=2) (d:=35) rfl (by kernel_rfl) rfl 266 (.tmp 33) (.tmp 34) rfl (.map (some B)) (.agg (vtA ⟨us,⟨ur,un⟩,⟨uk,uc,uq,um,ux⟩⟩)) (.int .i64 (n:Int)) (by kernel_rfl) (by kernel_rfl) hlk5 ⟨hS5,?_⟩);simp only[Act.put,List.setIfInBounds_toArray,List.set_cons_zero,List.set_cons_succ];refine Af (i:=3) 36 (v:=.int .i64 ((n+1:Nat):Int)) rfl rfl (by kernel_rfl) (by kernel_rfl) (by kernel_rfl) (fun _ _ _ h=>h) (MJ (by rfl) (.tmp 35) rfl n (n+1) rfl rfl (by omega)) hS5 ?_;simp only[Act.put,List.setIfInBounds_toArray,List.set_cons_zero,List.set_cons_succ];refine B1 (i:=6) (by kernel_rfl) (OX (i:=6) rfl (by kernel_rfl) rfl 266 (.tmp 33) (.tmp 38) (.tmp 36) rfl (.map (some B)) (.int .i64 (born:Int)) (.int .i64 ((n+1:Nat):Int)) (by kernel_rfl) (by kernel_rfl) (by kernel_rfl) hrun6 ⟨hS6,?_⟩);exact wpAnyH_done (by kernel_rfl) (HK2.out born _ RES.out) _
    intro born W5 hW5;obtain⟨c',hc5,hcc,q5,b5⟩:=hW5;have e5:=eW.trans b5;have hlk:=hc5.look ⟨us,⟨ur,un⟩,⟨uk,uc,uq,um,ux⟩⟩;rw[hcc,if_pos rfl]at hlk
    have HCC:Hid (∀ v,CV c' v=CD (Al ((ac.take (j+1)).map (·.vs)).flatten s) v):=fun v=>by rw[hcc,HNx.out v,HC.out v]
    have HC5:Hid (CMap W5 B c'):=hc5;clear hcc hc5 q eW b5 hcW HC;have hcast:((n+1:Nat):Int)=(n:Int)+1:=by omega
    rw[hcast]at hlk
    by_cases hbig:N<2*(n+1)
    ·have HCH:Hid (Ha (Fe ac s) N=⟨uk,uc,uq,um,ux⟩∧Hb (Fe ac s) N=0):=by
      refine Mn (v:=⟨us,⟨ur,un⟩,⟨uk,uc,uq,um,ux⟩⟩) (Qb ?_ ?_)
      ·have g:=bU HMay.out s;rw[HN.out]at g
       exact g
      ·have g:=Ze (Al ((ac.take (j+1)).map (·.vs)).flatten s) (Al ((ac.drop (j+1)).map (·.vs)).flatten s) ⟨us,⟨ur,un⟩,⟨uk,uc,uq,um,ux⟩⟩;rw[← CS,← List.flatten_append,← List.map_append,List.take_append_drop,HN1.out]at g
       show N<2*CD (Fe ac s) ⟨us,⟨ur,un⟩,⟨uk,uc,uq,um,ux⟩⟩;unfold Fe;omega
     have hbigi:(N:Int)<2*((n:Int)+1):=by omega
     have x3:W5.cell? ⟨G2,3,none⟩=some (.int .i64 uk):=cell_of_row _ _ 3 _ _ _ q5;have x4:W5.cell? ⟨G2,4,none⟩=some (.int .i64 uc):=cell_of_row _ _ 4 _ _ _ q5;have x5:W5.cell? ⟨G2,5,none⟩=some (.int .i64 uq):=cell_of_row _ _ 5 _ _ _ q5;have x6:W5.cell? ⟨G2,6,none⟩=some (.int .i64 um):=cell_of_row _ _ 6 _ _ _ q5;have x7:W5.cell? ⟨G2,7,none⟩=some (.int .i64 ux):=cell_of_row _ _ 7 _ _ _ q5;have rR:=(e5.block w.heap.size hne).trans rr;have hone5:(#[.int .i64 uk,.int .i64 uc,.int .i64 uq,.int .i64 um,.int .i64 ux]:Array Value).all (·.oneCell')=true:=by simp[Value.oneCell']
     go_wp2_with ((with_reducible (refine Ar ?_));first|(refine wpList_load_row rfl 162 (.tmp 10) rfl G2 rfl 162 _ (0,0) _ q5 underlying162 rfl hi ?_)|(refine wpList_store_row rfl 44 (.tmp 4) (.tmp 47) rfl w.heap.size #[.int .i64 uk,.int .i64 uc,.int .i64 uq,.int .i64 um,.int .i64 ux] rfl rfl 44 _ rR GM rfl hone5 ?_))
     have q9:=setRow_heap W5 w.heap.size _ (#[.int .i64 uk,.int .i64 uc,.int .i64 uq,.int .i64 um,.int .i64 ux]) 44 _ rR;have d9:=Ai (bb.trans (e5.mono (by omega))) (Nat.le_refl _) (#[.int .i64 uk,.int .i64 uc,.int .i64 uq,.int .i64 um,.int .i64 ux]);refine bodyPost_ret (Fs rfl _ _ w.heap.size 44 _ (0,0) _ rfl q9 underlying44 rfl GM) rfl ?_;rw[HCH.out.1,HCH.out.2];exact⟨rfl,d9⟩
    ·have hbigi:¬ (N:Int)<2*((n:Int)+1):=by omega
     have HL2:Hid (∀ v,2*CD (Al ((ac.take (j+1)).map (·.vs)).flatten s) v≤N):=fun v=>by
      rw[HNx.out v];split
      ·omega
      ·exact HL.out v
     clear HNx HN1 HL;go_wp2_with ((with_reducible (refine Ar ?_));(refine wpList_load_row rfl 162 (.tmp 10) rfl G2 rfl 162 _ (0,0) _ q5 underlying162 rfl hi ?_))
     go_roundw
     case rel=>exact⟨j+1,c',by omega,by go_num,HC5.out,HCC.out,HL2.out,e5⟩
     case measure=>simp[intOf];omega
  ·have HCH:Hid (Ha (Fe ac s) N=⟨0,0,0,0,0⟩∧Hb (Fe ac s) N=9):=by
    refine Mm (Vl fun v=>?_);have g:=HL.out v;rw[List.take_of_length_le (by have:=HN.out;omega)]at g
    exact g
   have rR:=(hbel.block w.heap.size hne).trans rr;go_wp2_with ((with_reducible (refine Ar ?_));(refine wpList_store_row rfl 44 (.tmp 4) (.tmp 49) rfl w.heap.size zV5 rfl rfl 44 _ rR GM rfl hz5 ?_))
   have q9:=setRow_heap wr w.heap.size _ (zV5) 44 _ rR;have d9:=Ai (bb.trans (hbel.mono (by omega))) (Nat.le_refl _) (zV5);refine bodyPost_ret (Fs rfl _ _ w.heap.size 44 _ (0,0) _ rfl q9 underlying44 rfl GM) rfl ?_;rw[HCH.out.1,HCH.out.2];exact⟨rfl,d9⟩
theorem JS(x:Value)(ac:List Acc)(s:Int)(w:World)(h:Sac w x ac)(ht:NTab w) :
  Calls prog 142 #[x,.int .i64 s] w fun e w'=>e=.returned (.tuple #[.agg (cmC (Cv ac s)),.int .i64 (Db ac s)])∧Bw w w':=by
 have hlen:=h.len;obtain⟨ax,cp,rfl⟩:=h.shape;obtain⟨N,hN⟩:∃ N,ac.length=N:=⟨_,rfl⟩;have HN:Hid (ac.length=N):=hN;rw[hN]at h hlen ⊢
 clear hN;have hz5:(zV5:Array Value).all (·.oneCell')=true:=by simp[Value.oneCell']
 have rr:=heap_alloc_new w (.cells zV5 44);have bb:Bw w (w.alloc (.cells zV5 44)):=(Below.refl _ _).alloc (Nat.le_refl _) _;have z0:(w.alloc (.cells zV5 44)).heap.size=w.heap.size+1:=by simp
 generalize hW0:w.alloc (.cells zV5 44)=w1 at rr bb z0;have h0:=h.below bb;have t0:=ht.below bb;clear h ht;go_enter func142,ntmps142
 go_wp2_with fail
 clear hW0;refine(Gt s _).mono ?_;rintro e w1 ⟨rfl,rfl⟩;by_cases h1:0≤s∧s≤39
 ·rw[decide_eq_true h1];by_cases h2:1≤(N:Int)∧(N:Int)≤5
  ·have HS:Hid ((0≤s∧s≤39)∧(1≤(ac.length:Int)∧(ac.length:Int)≤5)):=⟨h1,by rw[HN.out];exact h2⟩;obtain⟨h2a,h2b⟩:=h2;have k1:¬ (N:Int)<1:=by omega
   have k2:¬ (5:Int)<(N:Int):=by omega
   clear h1;go_wp2_with fail
   clear k1 k2
   go_loopw [25] (fun iv wr=>∃ j:Nat,j≤N∧iv=.int .i64 (j:Int)∧(∀ a∈ac.take j,AD a)∧Bw w1 wr) (fun iv _=>((N:Int)-intOf iv).toNat)
   case atStart=>exact⟨0,by omega,rfl,fun a ha=>by simp at ha,Below.refl _ _⟩
   case round =>
    obtain⟨j,hj,rfl,hmay,hbel⟩:=hrel;have HMJ:Hid (∀ a∈ac.take j,AD a):=hmay;clear hmay;have tr:=t0.below hbel;have hszr:=hbel.size;by_cases hjN:j<N
    ·have hji:(j:Int)<(N:Int):=by omega
     obtain⟨A,hA⟩:∃ A,ac[j]?=some A:=⟨_,List.getElem?_eq_getElem (by have:=HN.out;omega)⟩;obtain⟨b,off,y,rfl,ltb,hr0,hsy0⟩:=h0.spot j A hA;obtain⟨⟨pr,pn⟩,l⟩:=A;simp only at hr0 hsy0;have hixA:=M0 b off N cp j hjN;obtain⟨ay,cy,hy⟩:=hsy0.shape;obtain⟨M,hM⟩:∃ M,l.length=M:=⟨_,rfl⟩;rw[hM]at hy
     subst hy;have HJ:Hid (ac[j]?=some ⟨⟨pr,pn⟩,l⟩):=hA;clear hA hM;have hrw:=Gz hbel ltb hr0;have hsy:=hsy0.below hbel;have bN:Bw wr (wr.alloc (.cells #[.int .i64 0,.int .i64 0,.slice none 0 0] 95)):=(Below.refl _ _).alloc (Nat.le_refl _) _;have rN:=heap_alloc_new wr (.cells #[.int .i64 0,.int .i64 0,.slice none 0 0] 95);have hone:(#[.int .i64 pr,.int .i64 pn,.slice ay M cy]:Array Value).all (·.oneCell')=true:=by simp[Value.oneCell']
     generalize hWN:wr.alloc (.cells #[.int .i64 0,.int .i64 0,.slice none 0 0] 95)=WN at bN rN
     go_upto_region 6 with((with_reducible (refine Ar ?_));first|(refine wpList_load_mid rfl 95 _ rfl b (off+3*j) rfl [.int .i64 pr,.int .i64 pn,.slice ay M cy] _ hrw underlying95 rfl UP ?_)|(refine wpList_store_row rfl 95 (.tmp 7) (.tmp 28) rfl wr.heap.size (#[.int .i64 pr,.int .i64 pn,.slice ay M cy]) rfl rfl 95 _ rN UP rfl hone ?_))
     clear hWN;have q:=setRow_heap WN wr.heap.size _ (#[.int .i64 pr,.int .i64 pn,.slice ay M cy]) 95 _ rN;replace bN:=Ai bN (Nat.le_refl _) (#[.int .i64 pr,.int .i64 pn,.slice ay M cy]);generalize WN.setRow wr.heap.size (#[.int .i64 pr,.int .i64 pn,.slice ay M cy])=W at q bN ⊢;have eW:=hbel.trans (bN.mono hbel.size);have sW:=hsy.below bN;have tW:=tr.below bN;generalize wr.heap.size=G at q ⊢;clear rN hrw hixA bN hsy hbel tr;go_wp2_with ((with_reducible (refine Ar ?_));refine wpList_load_row rfl 95 _ rfl G rfl 95 _ (0,0) _ q underlying95 rfl UP ?_)
     refine(If ⟨pr,pn⟩ (.slice ay M cy) l W sW tW).mono ?_;rintro e W2 ⟨rfl,b2⟩;have e2:=eW.trans (b2.mono eW.size);clear b2 eW sW tW q;by_cases hA:AD ⟨⟨pr,pn⟩,l⟩
     ·rw[show FO ⟨⟨pr,pn⟩,l⟩=0 from if_pos hA];have HMJ1:Hid (∀ a∈ac.take (j+1),AD a):=U8 HJ.out HMJ.out hA;clear hA HMJ;go_wp2
      go_roundw
      case rel=>exact⟨j+1,by omega,by go_num,HMJ1.out,e2⟩
      case measure=>simp[intOf];omega
     ·rw[show FO ⟨⟨pr,pn⟩,l⟩=5 from if_neg hA];have HF:Hid (Cv ac s=⟨0,0,0,0,0⟩∧Db ac s=5):=Tf HS.out (fun g=>hA (g _ (List.mem_iff_getElem?.2 ⟨j,HJ.out⟩)));clear hA HMJ;have rR:=(e2.block w.heap.size (by omega)).trans rr;go_wp2_with ((with_reducible (refine Ar ?_));refine wpList_store_row rfl 44 (.tmp 4) (.tmp 33) rfl w.heap.size zV5 rfl rfl 44 _ rR GM rfl hz5 ?_)
      have q9:=setRow_heap W2 w.heap.size _ (zV5) 44 _ rR;have d9:=Ai (bb.trans (e2.mono (by omega))) (Nat.le_refl _) (zV5);refine bodyPost_ret (Fs rfl _ _ w.heap.size 44 _ (0,0) _ rfl q9 underlying44 rfl GM) rfl ?_;rw[HF.out.1,HF.out.2];exact⟨rfl,d9⟩
    ·have HAll:Hid (∀ a∈ac,AD a):=by
      have g:=HMJ.out;rw[List.take_of_length_le (by have:=HN.out;omega)]at g
      exact g
     have HF:Hid (Cv ac s=Ha (Fe ac s) N∧Db ac s=Hb (Fe ac s) N):=by
      have hn:=HN.out;cases ho:Ig (Fe ac s) N with
      | none =>
       obtain⟨g1,g2⟩:=Vn HS.out HAll.out (by rw[hn];exact ho);obtain⟨g3,g4⟩:=Mm ho;exact⟨g1.trans g3.symm,g2.trans g4.symm⟩
      | some v =>
       obtain⟨g1,g2⟩:=Vo HS.out HAll.out (x:=v) (by rw[hn];exact ho);obtain⟨g3,g4⟩:=Mn ho;exact⟨g1.trans g3.symm,g2.trans g4.symm⟩
     clear HMJ;have dr:=bb.trans (hbel.mono (by omega));have rR:=(hbel.block w.heap.size (by omega)).trans rr;have hsac:=h0.below hbel;go_wp2_with fail
     refine(W6 _ ac s wr hsac (by have:=HN.out;omega) HAll.out).mono ?_;rintro e W2 ⟨rfl,b2⟩;rw[HN.out];have d2:=dr.trans (b2.mono dr.size);replace rR:=(b2.block w.heap.size (by omega)).trans rR;generalize Ha (Fe ac s) N=C at HF ⊢;generalize Hb (Fe ac s) N=E at HF ⊢;obtain⟨ck,cc,cs,cn,cv⟩:=C;have hone5:(#[.int .i64 ck,.int .i64 cc,.int .i64 cs,.int .i64 cn,.int .i64 cv]:Array Value).all (·.oneCell')=true:=by simp[Value.oneCell']
     simp only[cmC,cmA];go_wp2_with ((with_reducible (refine Ar ?_));refine wpList_store_row rfl 44 (.tmp 4) (.tmp 39) rfl w.heap.size #[.int .i64 ck,.int .i64 cc,.int .i64 cs,.int .i64 cn,.int .i64 cv] rfl rfl 44 _ rR GM rfl hone5 ?_)
     have q9:=setRow_heap W2 w.heap.size _ (#[.int .i64 ck,.int .i64 cc,.int .i64 cs,.int .i64 cn,.int .i64 cv]) 44 _ rR;have d9:=Ai d2 (Nat.le_refl _) (#[.int .i64 ck,.int .i64 cc,.int .i64 cs,.int .i64 cn,.int .i64 cv]);refine bodyPost_ret (Fs rfl _ _ w.heap.size 44 _ (0,0) _ rfl q9 underlying44 rfl GM) rfl ?_;rw[HF.out.1,HF.out.2];exact⟨rfl,d9⟩
  ·have HF:Hid (Cv ac s=⟨0,0,0,0,0⟩∧Db ac s=2):=Ih (fun g=>h2 (by have:=g.2;rw[HN.out]at this;exact this));clear h1;by_cases h3:(N:Int)<1
   ·clear h2;go_wp2_with ((with_reducible (refine Ar ?_));refine wpList_store_row rfl 44 (.tmp 4) (.tmp 22) rfl w.heap.size zV5 rfl rfl 44 _ rr GM rfl hz5 ?_)
    have q9:=setRow_heap w1 w.heap.size _ (zV5) 44 _ rr;have d9:=Ai bb (Nat.le_refl _) (zV5);refine bodyPost_ret (Fs rfl _ _ w.heap.size 44 _ (0,0) _ rfl q9 underlying44 rfl GM) rfl ?_;rw[HF.out.1,HF.out.2];exact⟨rfl,d9⟩
   ·have h4:(5:Int)<(N:Int):=by omega
    clear h2;go_wp2_with ((with_reducible (refine Ar ?_));refine wpList_store_row rfl 44 (.tmp 4) (.tmp 22) rfl w.heap.size zV5 rfl rfl 44 _ rr GM rfl hz5 ?_)
    have q9:=setRow_heap w1 w.heap.size _ (zV5) 44 _ rr;have d9:=Ai bb (Nat.le_refl _) (zV5);refine bodyPost_ret (Fs rfl _ _ w.heap.size 44 _ (0,0) _ rfl q9 underlying44 rfl GM) rfl ?_;rw[HF.out.1,HF.out.2];exact⟨rfl,d9⟩
 ·rw[decide_eq_false h1];have HF:Hid (Cv ac s=⟨0,0,0,0,0⟩∧Db ac s=2):=Ih (fun g=>h1 g.1);clear h1;go_wp2_with ((with_reducible (refine Ar ?_));refine wpList_store_row rfl 44 (.tmp 4) (.tmp 22) rfl w.heap.size zV5 rfl rfl 44 _ rr GM rfl hz5 ?_)
  have q9:=setRow_heap w1 w.heap.size _ (zV5) 44 _ rr;have d9:=Ai bb (Nat.le_refl _) (zV5);refine bodyPost_ret (Fs rfl _ _ w.heap.size 44 _ (0,0) _ rfl q9 underlying44 rfl GM) rfl ?_;rw[HF.out.1,HF.out.2];exact⟨rfl,d9⟩
end Go.Proofs.YtaeckakjdagddadGreatDoor
