/- Part 7 of the walk. -/
import Derived.Test.YtalbmmghmoggcaaGreatDoorZ6
set_option maxRecDepth 100000
set_option maxHeartbeats 4000000
open Go.Proofs.Tryz
set_option linter.unusedVariables false
namespace Go.Proofs.YtalbmmghmoggcaaGreatDoor
open Go.RowKit
theorem Vd(u v:Vt)(w:World):(Op.equal 139 (.agg (vtA u)) (.agg (vtA v))).run prog w=.ok (decide (u=v)) w:=by
 have h1:=Vb u.slot u.b.r u.b.n u.w.k u.w.c u.w.s u.w.n u.w.v v.slot v.b.r v.b.n v.w.k v.w.c v.w.s v.w.n v.w.v w;have h2:decide (u.slot=v.slot/\u.b.r=v.b.r/\u.b.n=v.b.n/\u.w.k=v.w.k/\u.w.c=v.w.c/\u.w.s=v.w.s/\u.w.n=v.w.n/\u.w.v=v.w.v)=decide (u=v):=by
  apply decide_eq_decide.2;constructor
  .rintro⟨a1,a2,a3,a4,a5,a6,a7,a8⟩;exact(Vt.eq_iff u v).1 ⟨a1,(Bal.eq_iff _ _).1 ⟨a2,a3⟩,(Cmd.eq_iff _ _).1 ⟨a4,a5,a6,a7,a8⟩⟩
  .rintro rfl;exact⟨rfl,rfl,rfl,rfl,rfl,rfl,rfl,rfl⟩
 rw[h2]at h1
 rw[run_eql_struct]at h1
 show(Op.equalIn 10000 _ _ _).run _ _=_;simp only[vtA,vtC];cases hr:(Op.equalIn 10000 139 (.agg #[.int .i64 u.slot,.int .i64 u.b.r,.int .i64 u.b.n,.int .i64 u.w.k,.int .i64 u.w.c,.int .i64 u.w.s,.int .i64 u.w.n,.int .i64 u.w.v]) (.agg #[.int .i64 v.slot,.int .i64 v.b.r,.int .i64 v.b.n,.int .i64 v.w.k,.int .i64 v.w.c,.int .i64 v.w.s,.int .i64 v.w.n,.int .i64 v.w.v])).run prog w with
 | ok b w'=>rw[hr]at h1;simp[Result.andThen]at h1;rw[h1.1,h1.2]
 | _=>rw[hr]at h1;simp[Result.andThen]at h1
abbrev Cnt:=Vt × Nat × Nat
def mkE(x:Cnt):MapEntry:={ key:=.agg (vtA x.1),val:=.int .i64 (x.2.1:Int),born:=x.2.2 }
def JQ(v:Vt):List Cnt->Nat->Option (Nat × Value)
 | [],_=>none
 | x::c,i=>if v=x.1 then some (i,.int .i64 (x.2.1:Int))else JQ v c (i+1)
theorem Lx(v:Vt)(w:World):∀ (c:List Cnt) (i:Nat),(Instr.findAsking 139 (.agg (vtA v)) (c.map mkE) i).run prog w=.ok (JQ v c i) w
 | [],i=>by simp[Instr.findAsking,JQ]
 | x::c,i=>by
  have h:=Vd v x.1 w;rw[List.map_cons,Instr.findAsking,Sem.run_bind];show((Op.equal 139 (.agg (vtA v)) (.agg (vtA x.1))).run _ w).andThen _=_;rw[h,Result.andThen_ok,JQ];by_cases e:v=x.1
  .rw[decide_eq_true e,if_pos e];simp[mkE]
  .rw[decide_eq_false e,if_neg e];simpa using Lx v w c (i+1)
theorem Jt(v:Vt)(w:World)(c:List Cnt):(Instr.findKey 139 (.agg (vtA v)) (c.map mkE)).run prog w=.ok (JQ v c 0) w:=by
 rw[Instr.findKey,Sem.run_bind,run_underlying underlying139 w,Result.andThen_ok];cases c with
 | nil=>simp[Instr.findNow,JQ]
 | cons x c =>
  show Sem.run _ (match(none:Option (Option (Nat × Value)))with|some r=>pure r|none=>Instr.findAsking 139 (.agg (vtA v)) ((x::c).map mkE)) w=_;exact Lx v w (x::c) 0
theorem GD(em:Bool)(v:Vt)(w:World):(Instr.checkKey em 10000 139 (.agg (vtA v))).run prog w=.ok () w:=by
 obtain⟨s,⟨r,n⟩,⟨k,c,q,m,x⟩⟩:=v;kernel_rfl
def CR(c:List Cnt)(v:Vt):Nat:=match c.find? (fun x=>decide (v=x.1))with|some x=>x.2.1|none=>0
theorem JR(v:Vt):∀ (c:List Cnt) (i:Nat),(JQ v c i=none/\CR c v=0/\∀ x∈c,v≠x.1)\/∃ a x b,c=a++x::b/\x.1=v/\(∀ y∈a,v≠y.1)/\JQ v c i=some (i+a.length,.int .i64 (x.2.1:Int))/\CR c v=x.2.1
 | [],i=>.inl ⟨rfl,rfl,fun x hx=>by cases hx⟩
 | x::c,i=>by
  by_cases e:v=x.1
  .refine .inr ⟨[],x,c,rfl,e.symm,fun y hy=>(List.not_mem_nil hy).elim,?_,?_⟩
   .rw[JQ,if_pos e];simp
   .simp[CR,e]
  .rcases JR v c (i+1)with⟨h1,h2,h3⟩|⟨a,y,b,rfl,hy,h3,h4,h5⟩
   .refine .inl ⟨by rw[JQ,if_neg e,h1],?_,fun y hy=>?_⟩
    .rw[<- h2];simp[CR,e]
    .rcases List.mem_cons.1 hy with rfl|hy
     .exact e
     .exact h3 y hy
   .refine .inr ⟨x::a,y,b,rfl,hy,fun z hz=>?_,?_,?_⟩
    .rcases List.mem_cons.1 hz with rfl|hz
     .exact e
     .exact h3 z hz
    .rw[JQ,if_neg e,h4];simp;omega
    .rw[<- h5];simp[CR,e]
structure CMap(w:World)(b:Nat)(c:List Cnt):Prop where
 ex:∃ clock,w.heap[b]?=some (.map (c.map mkE).toArray clock)/\∀ x∈c,x.2.2<clock
 dis:c.Pairwise fun x y=>x.2.2≠y.2.2
theorem CMap.lt{w:World}{b:Nat}{c:List Cnt}(h:CMap w b c):b<w.heap.size:=by
 obtain⟨⟨k,hb,_⟩,_⟩:=h;exact(Array.getElem?_eq_some_iff.1 hb).1
theorem CMap.keep{w w':World}{b:Nat}{c:List Cnt}(h:CMap w b c)(hb:w'.heap[b]?=w.heap[b]?):CMap w' b c:=by
 obtain⟨⟨k,h1,h2⟩,h3⟩:=h;exact⟨⟨k,hb.trans h1,h2⟩,h3⟩
theorem CMap.below{w w':World}{b:Nat}{c:List Cnt}(h:CMap w b c)(hb:Bw w w'):CMap w' b c:=h.keep (hb.block b h.lt)
theorem CMap.made(w:World):CMap (w.alloc (.map #[] 0)) w.heap.size []:=⟨⟨0,heap_alloc_new _ _,fun x hx=>by cases hx⟩,List.Pairwise.nil⟩
theorem fc(w:World):(zeroValue 3).run prog w=.ok (.int .i64 0) w:=by kernel_rfl
theorem CMap.look{w:World}{b:Nat}{c:List Cnt}(h:CMap w b c)(v:Vt):(Instr.lookup 257 (.map (some b)) (.agg (vtA v)) false).run prog w=.ok (.int .i64 (CR c v:Int)) w:=by
 obtain⟨⟨k,hb,_⟩,_⟩:=h;have hg:(getObj b).run prog w=.ok (.map (c.map mkE).toArray k) w:=by simp[getObj,Sem.run,hb]
 rcases JR v c 0 with⟨h1,h2,_⟩|⟨a,x,d,_,_,_,h1,h2⟩
 .simp[Instr.lookup,run_underlying underlying257,hg,GD,Jt,h1,h2]
 .simp[Instr.lookup,run_underlying underlying257,hg,GD,Jt,h1,h2]
theorem YW(v:Vt)(n:Nat):Instr.sameBits (n+1) (.agg (vtA v)) (.agg (vtA v))=true:=by
 simp[Instr.sameBits,vtA,vtC]
theorem WO(v:Vt)(w:World):(Instr.keyThatStays (.agg (vtA v)) (.agg (vtA v))).run prog w=.ok (.agg (vtA v)) w:=by
 rw[Instr.keyThatStays,if_pos (YW v 9999)];rfl
theorem S6{a d:List Cnt}{v u:Vt}{n m born:Nat}(ha:∀ y∈a,v≠y.1):CR (a++(v,m,born)::d) u=if u=v then m else CR (a++(v,n,born)::d) u:=by
 unfold CR;rw[List.find?_append,List.find?_append,List.find?_cons,List.find?_cons];by_cases e:u=v
 .subst e;have hn:a.find? (fun x=>decide (u=x.1))=none:=by
   rw[List.find?_eq_none];intro y hy;simp[ha y hy]
  rw[hn];simp
 .rw[if_neg e];simp[e]
theorem In{w:World}{b:Nat}{es:Array MapEntry}{k:Nat}(hb:w.heap[b]?=some (.map es k))(o:Obj):Below b w (ChangeMaps.setBlock w b o) :=
 ⟨rfl,rfl,rfl,by simp[ChangeMaps.setBlock],fun i hi=>ChangeMaps.heap_setBlock_other hb o (by omega)⟩
theorem Io{w:World}{b:Nat}{es:Array MapEntry}{k:Nat}(hb:w.heap[b]?=some (.map es k))(o:Obj)(i:Nat)(h:i≠b):(ChangeMaps.setBlock w b o).heap[i]?=w.heap[i]?:=ChangeMaps.heap_setBlock_other hb o h
theorem CMap.entry{w:World}{b:Nat}{c:List Cnt}(h:CMap w b c)(v:Vt):∃ (a d:List Cnt) (born:Nat) (w':World),(Instr.mapEntry 257 (.map (some b)) (.agg (vtA v))).run prog w=.ok (.tuple #[.int .i64 (CR c v:Int),.int .i64 (born:Int)]) w'/\CMap w' b (a++(v,CR c v,born)::d)/\(∀ y∈a,v≠y.1)/\(∀ u,CR (a++(v,CR c v,born)::d) u=CR c u)/\Below b w w'/\∀ i,i≠b->w'.heap[i]?=w.heap[i]?:=by
 obtain⟨⟨k,hb,hk⟩,hd⟩:=h;have hg:(getObj b).run prog w=.ok (.map (c.map mkE).toArray k) w:=by simp[getObj,Sem.run,hb]
 rcases JR v c 0 with⟨h1,h2,h3⟩|⟨a,x,d,rfl,rfl,h3,h1,h2⟩
 .refine⟨c,[],k,ChangeMaps.setBlock w b (.map ((c++[(v,0,k)]).map mkE).toArray (k+1)),?_,⟨⟨k+1,?_,?_⟩,?_⟩,h3,?_,In hb _,Io hb _⟩
  .have hs:=MapKept.run_setObj_map (P:=prog) (w:=w) (.map ((c++[(v,0,k)]).map mkE).toArray (k+1)) hb;have he:((c.map mkE).toArray.push { key:=.agg (vtA v),val:=.int .i64 0,born:=k })=((c++[(v,0,k)]).map mkE).toArray:=by simp[mkE]
   rw[Instr.mapEntry];simp only[Sem.run_bind,run_underlying underlying257,Result.andThen_ok,hg,GD,Jt,h1,h2,fc,he,hs];rfl
  .rw[h2];exact ChangeMaps.heap_setBlock_same hb _
  .intro y hy;rcases List.mem_append.1 hy with hy|hy
   .have:=hk y hy;omega
   .obtain rfl:y=(v,CR c v,k):=by simpa using hy
    show k<k+1;omega
  .rw[List.pairwise_append];refine⟨hd,List.pairwise_singleton _ _,fun y hy z hz=>?_⟩;obtain rfl:z=(v,CR c v,k):=by simpa using hz
   have:=hk y hy;show y.2.2≠k;omega
  .intro u;rw[h2];unfold CR;rw[List.find?_append];cases hf:c.find? (fun x=>decide (u=x.1))with
   | some y=>rfl
   | none =>
    by_cases e:u=v
    .subst e;simp
    .simp[e]
 .refine⟨a,d,x.2.2,ChangeMaps.setBlock w b (.map ((a++x::d).map mkE).toArray k),?_,⟨⟨k,?_,?_⟩,?_⟩,h3,?_,In hb _,Io hb _⟩
  .have hs:=MapKept.run_setObj_map (P:=prog) (w:=w) (.map ((a++x::d).map mkE).toArray k) hb;have hx:((a++x::d).map mkE).toArray[a.length]?=some (mkE x):=by simp
   have he:(((a++x::d).map mkE).toArray.modify a.length fun e=>{ e with key:=.agg (vtA x.1) })=((a++x::d).map mkE).toArray:=by
    apply Array.ext_getElem?;intro i;rw[Array.getElem?_modify];split
    .rename_i hi
     subst hi;rw[hx];rfl
    .rfl
   have hst:=WO x.1 w;rw[Instr.mapEntry];simp only[Sem.run_bind,run_underlying underlying257,Result.andThen_ok,hg,GD,Jt,h1,Nat.zero_add,hx,Option.map_some,Option.getD_some];rw[show(mkE x).key=.agg (vtA x.1)from rfl,hst,Result.andThen_ok,he,hs];simp[goInt,ChangeMaps.setBlock,h2,mkE]
  .rw[h2];exact ChangeMaps.heap_setBlock_same hb _
  .rw[h2];exact hk
  .rw[h2];exact hd
  .intro u;rw[h2]
theorem CMap.store{w:World}{b:Nat}{a d:List Cnt}{v:Vt}{n born:Nat}(h:CMap w b (a++(v,n,born)::d))(m:Nat):∃ w',(Instr.entryStore 257 (.map (some b)) (.int .i64 (born:Int)) (.int .i64 (m:Int))).run prog w=.ok () w'/\CMap w' b (a++(v,m,born)::d)/\Below b w w'/\∀ i,i≠b->w'.heap[i]?=w.heap[i]?:=by
 obtain⟨⟨k,hb,hk⟩,hd⟩:=h;have hg:(getObj b).run prog w=.ok (.map ((a++(v,n,born)::d).map mkE).toArray k) w:=by simp[getObj,Sem.run,hb]
 refine⟨ChangeMaps.setBlock w b (.map ((a++(v,m,born)::d).map mkE).toArray k),?_,⟨⟨k,ChangeMaps.heap_setBlock_same hb _,?_⟩,?_⟩,In hb _,Io hb _⟩
 .have hs:=MapKept.run_setObj_map (P:=prog) (w:=w) (.map ((a++(v,m,born)::d).map mkE).toArray k) hb;have hf:((a++(v,n,born)::d).map mkE).toArray.findIdx? (fun e=>(e.born:Int)==(born:Int))=some a.length:=by
   rw[List.findIdx?_toArray,List.map_append,List.findIdx?_append];have h0:(a.map mkE).findIdx? (fun e=>(e.born:Int)==(born:Int))=none:=by
    rw[List.findIdx?_eq_none_iff];intro e he;obtain⟨y,hy,rfl⟩:=List.mem_map.1 he;have:=(List.pairwise_append.1 hd).2.2 y hy (v,n,born) (by simp);simp[mkE];intro g;exact this (show y.2.2=born by omega)
   rw[h0,List.map_cons,List.findIdx?_cons];simp[mkE]
  have he:(((a++(v,n,born)::d).map mkE).toArray.modify a.length fun e=>{ e with val:=.int .i64 (m:Int) })=((a++(v,m,born)::d).map mkE).toArray:=by
   apply Array.ext_getElem?;intro i;rw[Array.getElem?_modify];split
   .rename_i hi
    subst hi;simp[mkE]
   .rename_i hi
    simp only[List.getElem?_toArray,List.map_append,List.map_cons];rcases Nat.lt_or_ge i a.length with g|g
    .rw[List.getElem?_append_left (by simpa using g),List.getElem?_append_left (by simpa using g)]
    .rw[List.getElem?_append_right (by simpa using g),List.getElem?_append_right (by simpa using g)];obtain⟨q,hq⟩:∃ q,i-(a.map mkE).length=q+1:=⟨i-a.length-1,by simp;omega⟩;rw[hq];rfl
  rw[Instr.entryStore];simp only[Sem.run_bind,hg,Result.andThen_ok,asInt,asIntOf,Sem.run_pure,hf,he,hs];rfl
 .intro y hy;rcases List.mem_append.1 hy with hy|hy
  .exact hk y (List.mem_append_left _ hy)
  .rcases List.mem_cons.1 hy with rfl|hy
   .exact hk (v,n,born) (by simp)
   .exact hk y (List.mem_append_right _ (List.mem_cons_of_mem _ hy))
 .rw[List.pairwise_append,List.pairwise_cons]at hd ⊢
  refine⟨hd.1,⟨fun y hy=>hd.2.1.1 y hy,hd.2.1.2⟩,fun y hy z hz=>?_⟩;rcases List.mem_cons.1 hz with rfl|hz
  .exact hd.2.2 y hy (v,n,born) (by simp)
  .exact hd.2.2 y hy z (List.mem_cons_of_mem _ hz)
section
variable{P:Program}{md:Region.Mode}{ops:Array Oper}{Q:Exit->Act->World->Prop}{S:World->Prop}
theorem VW{i d:Nat}{o:Oper}{a:Act}{w:World}{K:Act->World->Prop}(ho:ops[i]?=some o)(hw:Region.wanted o (yielded ops a.tmps)=true)(hd:o.dst=some d)(t:TypeId)(m x:Operand)(hop:o.op=.lookup t m x false)
  (mv xv v:Value)(hm:a.eval m=mv)(hx:a.eval x=xv)(hrun:(Instr.lookup t mv xv false).run P w=.ok v w)(h:K (a.put (some d) v) w):wpOp P ops Q i K a w :=
 VX ho hw hd (by unfold execOp;simp only[hop,hm,hx,Sem.run_bind,hrun,Result.andThen_ok,Sem.run_pure]) h
theorem RH{i d:Nat}{o:Oper}{a:Act}{w w':World}{K:Act->World->Prop}(ho:ops[i]?=some o)(hw:Region.wanted o (yielded ops a.tmps)=true)(hd:o.dst=some d)(t:TypeId)(m x:Operand)(hop:o.op=.mapEntry t m x)
  (mv xv v:Value)(hm:a.eval m=mv)(hx:a.eval x=xv)(hrun:(Instr.mapEntry t mv xv).run P w=.ok v w')(h:K (a.put (some d) v) w'):wpOp P ops Q i K a w :=
 VX ho hw hd (by unfold execOp;simp only[hop,hm,hx,Sem.run_bind,hrun,Result.andThen_ok,Sem.run_pure]) h
theorem O2{i:Nat}{o:Oper}{a:Act}{w w':World}{K:Act->World->Prop}(ho:ops[i]?=some o)(hw:Region.wanted o (yielded ops a.tmps)=true)(hd:o.dst=none)(t:TypeId)(m x y:Operand)(hop:o.op=.entryStore t m x y)
  (mv xv yv:Value)(hm:a.eval m=mv)(hx:a.eval x=xv)(hy:a.eval y=yv)(hrun:(Instr.entryStore t mv xv yv).run P w=.ok () w')(h:K a w'):wpOp P ops Q i K a w :=
 wpOp_step ho fun K' hK=>by
  rw[if_pos hw];unfold Oper.wp execOp;simp only[hop,hm,hx,hy,Sem.run_bind,hrun,Result.andThen_ok,Sem.run_pure];exact hK _ _ (by rw[hd];exact h)
end
theorem Mo{ops:Array Oper}{S:World->Prop}{op:Oper}{a:Act}(hw:Region.wanted op (yielded ops a.tmps)=true)(x:Operand)(ho:op.op=.binOp .add 3 x (.const (.int .i64 1)) 3)(n m:Nat)(hx:a.eval x=.int .i64 (n:Int))(hm:m=n+1)(h0:n<=1000) :
  YieldsIf prog ops S op (.int .i64 (m:Int)) a :=
 .inl ⟨hw,fun w _=>by
  have hc:a.eval (.const (.int .i64 1))=.int .i64 1:=rfl;unfold execOp;simp only[ho,hx,hc];simp[go_sem];rw[IntKind.wrap_i64];omega⟩
theorem Wa{P:Program}{id:Nat}{ops:Array Oper}{K:Act->World->Prop}{Q:Exit->Act->World->Prop}{a:Act}{w:World}(R:Nat->World->Prop){A:Nat->Act}
  (hreg:∀ K':Act->World->Prop,Hid (∀ x W2,R x W2->K' (A x) W2)->(Code.region id ops true).wp P (Exit.then K' Q) a w)(hrest:∀ x W2,R x W2->K (A x) W2):(Code.region id ops true).wp P (Exit.then K Q) a w:=hreg K hrest
def GS(l:List Vt)(m:Nat):Cmd:=((H7 l m).map (·.w)).getD ⟨0,0,0,0,0⟩
def GU(l:List Vt)(m:Nat):Int:=if(H7 l m).isSome then 0 else 9
theorem LR{l:List Vt}{m:Nat}{v:Vt}(h:H7 l m=some v):GS l m=v.w/\GU l m=0:=by unfold GS GU;rw[h];exact⟨rfl,rfl⟩
theorem LQ{l:List Vt}{m:Nat}(h:H7 l m=none):GS l m=⟨0,0,0,0,0⟩/\GU l m=9:=by unfold GS GU;rw[h];exact⟨rfl,rfl⟩
theorem GE:(prog.info? 54).map (·.size)=some 5:=by kernel_rfl
theorem Uj:(prog.info? 77).map (·.size)=some 3:=by kernel_rfl
theorem Oy(l:List Vt)(u v:Vt):Cz (l++[u]) v=if v=u then Cz l v+1 else Cz l v:=by
 unfold Cz;rw[List.countP_append];by_cases e:v=u
 .subst e;simp
 .rw[if_neg e];simp;exact fun g=>e g.symm
theorem VN(x:Value)(ac:List Acc)(s:Int)(w:World)(h:Sac w x ac)(hn5:ac.length<=5)(hmay:∀ a∈ac,AC a) :
  Calls prog 153 #[x,.int .i64 s] w fun e w'=>e=.returned (.tuple #[.agg (cmC (GS (EW ac s) ac.length)),.int .i64 (GU (EW ac s) ac.length)])/\Bw w w':=by
 have HMay:Hid (∀ a∈ac,AC a):=hmay;clear hmay;obtain⟨ax,cp,rfl⟩:=h.shape;obtain⟨N,hN⟩:∃ N,ac.length=N:=⟨_,rfl⟩;have HN:Hid (ac.length=N):=hN;rw[hN]at h hn5 ⊢
 clear hN;have hz5:(zV5:Array Value).all (·.oneCell')=true:=by simp[Value.oneCell']
 have rr:=heap_alloc_new w (.cells zV5 54);have bb:Bw w (w.alloc (.cells zV5 54)):=(Below.refl _ _).alloc (Nat.le_refl _) _;have z0:(w.alloc (.cells zV5 54)).heap.size=w.heap.size+1:=by simp
 generalize hW0:w.alloc (.cells zV5 54)=w1 at rr bb z0;have h0:=h.below bb;clear h;have b0:Below (w.heap.size+1) w1 (w1.alloc (.map #[] 0)):=(Below.refl _ _).alloc (by omega) _;have v0:CMap (w1.alloc (.map #[] 0)) (w.heap.size+1) []:=by rw[<- z0];exact CMap.made _
 generalize hWA:w1.alloc (.map #[] 0)=WA at b0 v0;have hmm:=@run_makeMap prog;go_enter func153,ntmps153
 go_wp2_with fail
 clear hWA hW0 hmm;have hne:w.heap.size<w.heap.size+1:=by omega
 generalize hB:w.heap.size+1=B at b0 v0 z0 hne ⊢;have HB:Hid (B=w1.heap.size):=z0.symm;clear hB z0
 go_loopw [14] (fun iv wr=>∃ (j:Nat) (c:List Cnt),j<=N/\iv=.int .i64 (j:Int)/\CMap wr B c/\(∀ v,CR c v=Cz (Al ((ac.take j).map (·.vs)).flatten s) v)/\(∀ v,2*Cz (Al ((ac.take j).map (·.vs)).flatten s) v<=N)/\Below B w1 wr) (fun iv _=>((N:Int)-intOf iv).toNat)
 case atStart=>exact⟨0,[],by omega,rfl,v0,fun v=>rfl,fun v=>by simp[Cz,Al],b0⟩
 case round =>
  clear v0 b0;obtain⟨j,c,hj,rfl,hcm,hcnt,hle,hbel⟩:=hrel;have HC:Hid (∀ v,CR c v=Cz (Al ((ac.take j).map (·.vs)).flatten s) v):=hcnt;have HL:Hid (∀ v,2*Cz (Al ((ac.take j).map (·.vs)).flatten s) v<=N):=hle;clear hcnt hle;by_cases hjN:j<N
  .have hji:(j:Int)<(N:Int):=by omega
   obtain⟨A,hA⟩:∃ A,ac[j]?=some A:=⟨_,List.getElem?_eq_getElem (by have:=HN.out;omega)⟩;obtain⟨b,off,y,rfl,ltb,hr0,hsy0⟩:=h0.spot j A hA;have hma:AC A:=HMay.out A (List.mem_iff_getElem?.2 ⟨j,hA⟩);obtain⟨⟨pr,pn⟩,l⟩:=A;simp only at hr0 hsy0;have hixA:=Mc b off N cp j hjN;obtain⟨ay,cy,hy⟩:=hsy0.shape;obtain⟨M,hM⟩:∃ M,l.length=M:=⟨_,rfl⟩;have HM:Hid (l.length=M):=hM;rw[hM]at hy
   subst hy;have HRise:Hid (B2 l):=hma.2.2;have HF:Hid (((ac.take (j+1)).map (·.vs)).flatten=((ac.take j).map (·.vs)).flatten++l):=QZ ac j _ hA;clear hA hM hma;have hrw:=Gn hbel (show b<B by rw[HB.out];exact ltb) hr0;have hsy:=hsy0.below (hbel.mono (by rw[HB.out];exact Nat.le_refl _));have bN:Bw wr (wr.alloc (.cells #[.int .i64 0,.int .i64 0,.slice none 0 0] 77)):=(Below.refl _ _).alloc (Nat.le_refl _) _;have rN:=heap_alloc_new wr (.cells #[.int .i64 0,.int .i64 0,.slice none 0 0] 77);have hone:(#[.int .i64 pr,.int .i64 pn,.slice ay M cy]:Array Value).all (·.oneCell')=true:=by simp[Value.oneCell']
   generalize hWN:wr.alloc (.cells #[.int .i64 0,.int .i64 0,.slice none 0 0] 77)=WN at bN rN
   go_upto_region 5 with((with_reducible (refine Ar ?_));first|(refine wpList_load_mid rfl 77 _ rfl b (off+3*j) rfl [.int .i64 pr,.int .i64 pn,.slice ay M cy] _ hrw underlying77 rfl Uj ?_)|(refine wpList_store_row rfl 77 (.tmp 8) (.tmp 17) rfl wr.heap.size (#[.int .i64 pr,.int .i64 pn,.slice ay M cy]) rfl rfl 77 _ rN Uj rfl hone ?_))
   clear hWN;have q:=setRow_heap WN wr.heap.size _ (#[.int .i64 pr,.int .i64 pn,.slice ay M cy]) 77 _ rN;replace bN:=Ai bN (Nat.le_refl _) (#[.int .i64 pr,.int .i64 pn,.slice ay M cy]);generalize WN.setRow wr.heap.size (#[.int .i64 pr,.int .i64 pn,.slice ay M cy])=W at q bN ⊢;have ltG:wr.heap.size<W.heap.size:=(Array.getElem?_eq_some_iff.1 q).1;have hcW:=hcm.below bN;have hszB:=hbel.size;have ltB:B<wr.heap.size:=hcm.lt;have eW:=hbel.trans (bN.mono (by omega));have sW:=hsy.below bN;generalize wr.heap.size=G at q ltG ltB ⊢;have c2:W.cell? ⟨G,2,none⟩=some (.slice ay M cy):=cell_of_row _ _ 2 _ _ _ q;clear rN hrw hixA bN hcm hsy hbel hszB;go_wp2_with fail
   refine(II _ l s W HRise.out sW).mono ?_;rintro e W2 ⟨p,rfl,hp,b2⟩;have HP:Hid (Plc l s p):=hp;have c2:=(b2.cell (p:=⟨G,2,none⟩) ltG).trans c2;have hc2:=hcW.below b2;have s2:=sW.below b2;have e2:=eW.trans (b2.mono (by omega));have ltG2:G<W2.heap.size:=Nat.lt_of_lt_of_le ltG b2.size;clear hp b2 hcW sW eW q ltG;go_wp2_with fail
   refine(I9 _ l p s W2 s2).mono ?_;rintro e W3 ⟨rfl,rfl⟩;generalize hh:JX l p s=bh;cases bh
   .have HT:Hid (Al ((ac.take (j+1)).map (·.vs)).flatten s=Al ((ac.take j).map (·.vs)).flatten s):=by
     unfold Hid;rw[HF.out,CN,Plc.ofSlot_no HRise.out HP.out (JY hh),List.append_nil]
    clear hh;go_wp2
    go_roundw
    case rel=>exact⟨j+1,c,by omega,by go_num,hc2,by rw[HT.out];exact HC.out,by rw[HT.out];exact HL.out,e2⟩
    case measure=>simp[intOf];omega
   .obtain⟨u,hu,hus⟩:=LF hh;have HT:Hid (Al ((ac.take (j+1)).map (·.vs)).flatten s=Al ((ac.take j).map (·.vs)).flatten s++[u]):=by
     unfold Hid;rw[HF.out,CN,Plc.ofSlot_has HRise.out hu hus]
    have hpM:p<M:=by have:=(List.getElem?_eq_some_iff.1 hu).1;have:=HM.out;omega
    obtain⟨b4,o4,hay,ltb4,hr4⟩:=s2.spot p u hu;subst hay;have hix:=Dk b4 o4 M cy p hpM;have hi:=Iq u;have hcn:CR c u=Cz (Al ((ac.take j).map (·.vs)).flatten s) u:=HC.out u;have hn2:=HL.out u;obtain⟨n,hnn⟩:∃ n,Cz (Al ((ac.take j).map (·.vs)).flatten s) u=n:=⟨_,rfl⟩;rw[hnn]at hcn hn2
    have HN1:Hid (Cz (Al ((ac.take (j+1)).map (·.vs)).flatten s) u=n+1):=by unfold Hid;rw[HT.out,Oy,if_pos rfl,hnn]
    have HNx:Hid (∀ v,Cz (Al ((ac.take (j+1)).map (·.vs)).flatten s) v=if v=u then n+1 else Cz (Al ((ac.take j).map (·.vs)).flatten s) v):=fun v=>by
     rw[HT.out,Oy];split
     .rename_i g;rw[g,hnn]
     .rfl
    clear hu hus hh hnn HT;obtain⟨us,⟨ur,un⟩,⟨uk,uc,uq,um,ux⟩⟩:=u;simp only[vtC]at hr4 hi;have bN:Bw W3 (W3.alloc (.cells zV8 139)):=(Below.refl _ _).alloc (Nat.le_refl _) _;have rN:=heap_alloc_new W3 (.cells zV8 139);have hone8:(#[.int .i64 us,.int .i64 ur,.int .i64 un,.int .i64 uk,.int .i64 uc,.int .i64 uq,.int .i64 um,.int .i64 ux]:Array Value).all (·.oneCell')=true:=by simp[Value.oneCell']
    generalize hWN:W3.alloc (.cells zV8 139)=WN at bN rN
    go_upto_region 8 with((with_reducible (refine Ar ?_));first|(refine wpList_load_mid rfl 139 _ rfl b4 (o4+8*p) rfl [.int .i64 us,.int .i64 ur,.int .i64 un,.int .i64 uk,.int .i64 uc,.int .i64 uq,.int .i64 um,.int .i64 ux] _ hr4 underlying139 rfl hi ?_)|(refine wpList_store_row rfl 139 (.tmp 10) (.tmp 32) rfl W3.heap.size (#[.int .i64 us,.int .i64 ur,.int .i64 un,.int .i64 uk,.int .i64 uc,.int .i64 uq,.int .i64 um,.int .i64 ux]) rfl rfl 139 _ rN hi rfl hone8 ?_))
    clear hWN;have q:=setRow_heap WN W3.heap.size _ (#[.int .i64 us,.int .i64 ur,.int .i64 un,.int .i64 uk,.int .i64 uc,.int .i64 uq,.int .i64 um,.int .i64 ux]) 139 _ rN;replace bN:=Ai bN (Nat.le_refl _) (#[.int .i64 us,.int .i64 ur,.int .i64 un,.int .i64 uk,.int .i64 uc,.int .i64 uq,.int .i64 um,.int .i64 ux]);generalize WN.setRow W3.heap.size (#[.int .i64 us,.int .i64 ur,.int .i64 un,.int .i64 uk,.int .i64 uc,.int .i64 uq,.int .i64 um,.int .i64 ux])=W at q bN ⊢;have ltG3:W3.heap.size<W.heap.size:=(Array.getElem?_eq_some_iff.1 q).1;have hcW:=hc2.below bN;have ltB3:B<W3.heap.size:=hc2.lt;have eW:=e2.trans (bN.mono (by omega));generalize W3.heap.size=G2 at q ltG3 ltB3 ⊢;clear rN hr4 hix bN hc2 e2 c2 s2 ltb4;apply Wa (fun born W2=>∃ c',CMap W2 B c'/\(∀ u,CR c' u=if u=⟨us,⟨ur,un⟩,⟨uk,uc,uq,um,ux⟩⟩then n+1 else CR c u)/\W2.heap[G2]?=some (.cells (vtA ⟨us,⟨ur,un⟩,⟨uk,uc,uq,um,ux⟩⟩) 139 (0,0))/\Below B W W2)
    .intro K2 HK2;refine wp_region_held (S:=fun w':World=>w'.heap[G2]?=some (.cells (vtA ⟨us,⟨ur,un⟩,⟨uk,uc,uq,um,ux⟩⟩) 139 (0,0))) (by kernel_rfl) ?_;have hS0:(fun w':World=>w'.heap[G2]?=some (.cells (vtA ⟨us,⟨ur,un⟩,⟨uk,uc,uq,um,ux⟩⟩) 139 (0,0))) W.drew:=q;have hcd:CMap W.drew B c:=hcW.keep rfl;refine Af (i:=0) 33 (v:=.map (some B)) rfl rfl (by kernel_rfl) (by kernel_rfl) (by kernel_rfl) (fun _ _ _ h=>h) (Or.inl ⟨by rfl,fun _ _=>by kernel_rfl⟩) hS0 ?_;simp only[Act.put,List.setIfInBounds_toArray,List.set_cons_zero,List.set_cons_succ];refine Af (i:=1) 34 (v:=.agg (vtA ⟨us,⟨ur,un⟩,⟨uk,uc,uq,um,ux⟩⟩)) rfl rfl (by kernel_rfl) (by kernel_rfl) (by kernel_rfl) (fun _ _ _ h=>h) (ZC (by rfl) (.tmp 10) rfl G2 rfl ⟨us,⟨ur,un⟩,⟨uk,uc,uq,um,ux⟩⟩ (fun w' hw'=>hw')) hS0 ?_;simp only[Act.put,List.setIfInBounds_toArray,List.set_cons_zero,List.set_cons_succ];obtain⟨ca,cd,born,w5,hrun5,hc5,ha5,hu5,b5,k5⟩:=hcd.entry ⟨us,⟨ur,un⟩,⟨uk,uc,uq,um,ux⟩⟩;have hn5:CR c ⟨us,⟨ur,un⟩,⟨uk,uc,uq,um,ux⟩⟩=n:=hcn;rw[hn5]at hrun5 hc5 hu5
     have hS5:w5.heap[G2]?=some (.cells (vtA ⟨us,⟨ur,un⟩,⟨uk,uc,uq,um,ux⟩⟩) 139 (0,0)):=(k5 G2 (by omega)).trans hS0;obtain⟨w6,hrun6,hc6,b6,k6⟩:=hc5.store (n+1);have hS6:w6.heap[G2]?=some (.cells (vtA ⟨us,⟨ur,un⟩,⟨uk,uc,uq,um,ux⟩⟩) 139 (0,0)):=(k6 G2 (by omega)).trans hS5;have hlk0:=hcd.look ⟨us,⟨ur,un⟩,⟨uk,uc,uq,um,ux⟩⟩;rw[hn5]at hlk0
     have hlk5:=hc5.look ⟨us,⟨ur,un⟩,⟨uk,uc,uq,um,ux⟩⟩;rw[hu5,hn5]at hlk5
     have RES:Hid (∃ c',CMap w6 B c'/\(∀ u,CR c' u=if u=⟨us,⟨ur,un⟩,⟨uk,uc,uq,um,ux⟩⟩then n+1 else CR c u)/\w6.heap[G2]?=some (.cells (vtA ⟨us,⟨ur,un⟩,⟨uk,uc,uq,um,ux⟩⟩) 139 (0,0))/\Below B W w6):=⟨_,hc6,fun u=>by rw[S6 (n:=n) ha5,hu5],hS6,((Below.refl B W).drew.trans b5).trans b6⟩;refine Yf (i:=2) (i':=4) (by kernel_rfl) (VW (i:=2) (d:=35) rfl (by kernel_rfl) rfl 257 (.tmp 33) (.tmp 34) rfl (.map (some B)) (.agg (vtA ⟨us,⟨ur,un⟩,⟨uk,uc,uq,um,ux⟩⟩)) (.int .i64 (n:Int)) (by kernel_rfl) (by kernel_rfl) hlk0 ⟨hS0,?_⟩) (RH (i:=4) (d:=37) rfl (by kernel_rfl) rfl 257 (.tmp 33) (.tmp 34) rfl (.map (some B)) (.agg (vtA ⟨us,⟨ur,un⟩,⟨uk,uc,uq,um,ux⟩⟩)) (.tuple #[.int .i64 (n:Int),.int .i64 (born:Int)]) (by kernel_rfl) (by kernel_rfl) hrun5 ⟨hS5,?_⟩)
     .simp only[Act.put,List.setIfInBounds_toArray,List.set_cons_zero,List.set_cons_succ];refine Af (i:=3) 36 (v:=.int .i64 ((n+1:Nat):Int)) rfl rfl (by kernel_rfl) (by kernel_rfl) (by kernel_rfl) (fun _ _ _ h=>h) (Mo (by rfl) (.tmp 35) rfl n (n+1) rfl rfl (by omega)) hS0 ?_;simp only[Act.put,List.setIfInBounds_toArray,List.set_cons_zero,List.set_cons_succ];refine Bz (i:=4) (by kernel_rfl) (RH (i:=4) (d:=37) rfl (by kernel_rfl) rfl 257 (.tmp 33) (.tmp 34) rfl (.map (some B)) (.agg (vtA ⟨us,⟨ur,un⟩,⟨uk,uc,uq,um,ux⟩⟩)) (.tuple #[.int .i64 (n:Int),.int .i64 (born:Int)]) (by kernel_rfl) (by kernel_rfl) hrun5 ⟨hS5,?_⟩);simp only[Act.put,List.setIfInBounds_toArray,List.set_cons_zero,List.set_cons_succ];refine Af (i:=5) 38 (v:=.int .i64 (born:Int)) rfl rfl (by kernel_rfl) (by kernel_rfl) (by kernel_rfl) (fun _ _ _ h=>h) (Or.inl ⟨by rfl,fun _ _=>by kernel_rfl⟩) hS5 ?_;simp only[Act.put,List.setIfInBounds_toArray,List.set_cons_zero,List.set_cons_succ];refine Bz (i:=6) (by kernel_rfl) (O2 (i:=6) rfl (by kernel_rfl) rfl 257 (.tmp 33) (.tmp 38) (.tmp 36) rfl (.map (some B)) (.int .i64 (born:Int)) (.int .i64 ((n+1:Nat):Int)) (by kernel_rfl) (by kernel_rfl) (by kernel_rfl) hrun6 ⟨hS6,?_⟩);exact wpAnyH_done (by kernel_rfl) (HK2.out born _ RES.out) _
     .simp only[Act.put,List.setIfInBounds_toArray,List.set_cons_zero,List.set_cons_succ];refine Af (i:=5) 38 (v:=.int .i64 (born:Int)) rfl rfl (by kernel_rfl) (by kernel_rfl) (by kernel_rfl) (fun _ _ _ h=>h) (Or.inl ⟨by rfl,fun _ _=>by kernel_rfl⟩) hS5 ?_;simp only[Act.put,List.setIfInBounds_toArray,List.set_cons_zero,List.set_cons_succ];refine Bz (i:=2) (by kernel_rfl) (VW (i:=2) (d:=35) rfl (by kernel_rfl) rfl 257 (.tmp 33) (.tmp 34) rfl (.map (some B)) (.agg (vtA ⟨us,⟨ur,un⟩,⟨uk,uc,uq,um,ux⟩⟩)) (.int .i64 (n:Int)) (by kernel_rfl) (by kernel_rfl) hlk5 ⟨hS5,?_⟩);simp only[Act.put,List.setIfInBounds_toArray,List.set_cons_zero,List.set_cons_succ];refine Af (i:=3) 36 (v:=.int .i64 ((n+1:Nat):Int)) rfl rfl (by kernel_rfl) (by kernel_rfl) (by kernel_rfl) (fun _ _ _ h=>h) (Mo (by rfl) (.tmp 35) rfl n (n+1) rfl rfl (by omega)) hS5 ?_;simp only[Act.put,List.setIfInBounds_toArray,List.set_cons_zero,List.set_cons_succ];refine Bz (i:=6) (by kernel_rfl) (O2 (i:=6) rfl (by kernel_rfl) rfl 257 (.tmp 33) (.tmp 38) (.tmp 36) rfl (.map (some B)) (.int .i64 (born:Int)) (.int .i64 ((n+1:Nat):Int)) (by kernel_rfl) (by kernel_rfl) (by kernel_rfl) hrun6 ⟨hS6,?_⟩);exact wpAnyH_done (by kernel_rfl) (HK2.out born _ RES.out) _
    intro born W5 hW5;obtain⟨c',hc5,hcc,q5,b5⟩:=hW5;have e5:=eW.trans b5;have hlk:=hc5.look ⟨us,⟨ur,un⟩,⟨uk,uc,uq,um,ux⟩⟩;rw[hcc,if_pos rfl]at hlk
    have HCC:Hid (∀ v,CR c' v=Cz (Al ((ac.take (j+1)).map (·.vs)).flatten s) v):=fun v=>by rw[hcc,HNx.out v,HC.out v]
    have HC5:Hid (CMap W5 B c'):=hc5;clear hcc hc5 q eW b5 hcW HC;have hcast:((n+1:Nat):Int)=(n:Int)+1:=by omega
    rw[hcast]at hlk
    by_cases hbig:N<2*(n+1)
    .have HCH:Hid (GS (EW ac s) N=⟨uk,uc,uq,um,ux⟩/\GU (EW ac s) N=0):=by
      refine LR (v:=⟨us,⟨ur,un⟩,⟨uk,uc,uq,um,ux⟩⟩) (P5 ?_ ?_)
      .have g:=aL HMay.out s;rw[HN.out]at g
       exact g
      .have g:=Y3 (Al ((ac.take (j+1)).map (·.vs)).flatten s) (Al ((ac.drop (j+1)).map (·.vs)).flatten s) ⟨us,⟨ur,un⟩,⟨uk,uc,uq,um,ux⟩⟩;rw[<- CN,<- List.flatten_append,<- List.map_append,List.take_append_drop,HN1.out]at g
       show N<2*Cz (EW ac s) ⟨us,⟨ur,un⟩,⟨uk,uc,uq,um,ux⟩⟩;unfold EW;omega
     have hbigi:(N:Int)<2*((n:Int)+1):=by omega
     have x3:W5.cell? ⟨G2,3,none⟩=some (.int .i64 uk):=cell_of_row _ _ 3 _ _ _ q5;have x4:W5.cell? ⟨G2,4,none⟩=some (.int .i64 uc):=cell_of_row _ _ 4 _ _ _ q5;have x5:W5.cell? ⟨G2,5,none⟩=some (.int .i64 uq):=cell_of_row _ _ 5 _ _ _ q5;have x6:W5.cell? ⟨G2,6,none⟩=some (.int .i64 um):=cell_of_row _ _ 6 _ _ _ q5;have x7:W5.cell? ⟨G2,7,none⟩=some (.int .i64 ux):=cell_of_row _ _ 7 _ _ _ q5;have rR:=(e5.block w.heap.size hne).trans rr;have hone5:(#[.int .i64 uk,.int .i64 uc,.int .i64 uq,.int .i64 um,.int .i64 ux]:Array Value).all (·.oneCell')=true:=by simp[Value.oneCell']
     go_wp2_with ((with_reducible (refine Ar ?_));first|(refine wpList_load_row rfl 139 (.tmp 10) rfl G2 rfl 139 _ (0,0) _ q5 underlying139 rfl hi ?_)|(refine wpList_store_row rfl 54 (.tmp 4) (.tmp 47) rfl w.heap.size #[.int .i64 uk,.int .i64 uc,.int .i64 uq,.int .i64 um,.int .i64 ux] rfl rfl 54 _ rR GE rfl hone5 ?_))
     have q9:=setRow_heap W5 w.heap.size _ (#[.int .i64 uk,.int .i64 uc,.int .i64 uq,.int .i64 um,.int .i64 ux]) 54 _ rR;have d9:=Ai (bb.trans (e5.mono (by omega))) (Nat.le_refl _) (#[.int .i64 uk,.int .i64 uc,.int .i64 uq,.int .i64 um,.int .i64 ux]);refine bodyPost_ret (Fj rfl _ _ w.heap.size 54 _ (0,0) _ rfl q9 underlying54 rfl GE) rfl ?_;rw[HCH.out.1,HCH.out.2];exact⟨rfl,d9⟩
    .have hbigi:¬ (N:Int)<2*((n:Int)+1):=by omega
     have HL2:Hid (∀ v,2*Cz (Al ((ac.take (j+1)).map (·.vs)).flatten s) v<=N):=fun v=>by
      rw[HNx.out v];split
      .omega
      .exact HL.out v
     clear HNx HN1 HL;go_wp2_with ((with_reducible (refine Ar ?_));(refine wpList_load_row rfl 139 (.tmp 10) rfl G2 rfl 139 _ (0,0) _ q5 underlying139 rfl hi ?_))
     go_roundw
     case rel=>exact⟨j+1,c',by omega,by go_num,HC5.out,HCC.out,HL2.out,e5⟩
     case measure=>simp[intOf];omega
  .have HCH:Hid (GS (EW ac s) N=⟨0,0,0,0,0⟩/\GU (EW ac s) N=9):=by
    refine LQ (UA fun v=>?_);have g:=HL.out v;rw[List.take_of_length_le (by have:=HN.out;omega)]at g
    exact g
   have rR:=(hbel.block w.heap.size hne).trans rr;go_wp2_with ((with_reducible (refine Ar ?_));(refine wpList_store_row rfl 54 (.tmp 4) (.tmp 49) rfl w.heap.size zV5 rfl rfl 54 _ rR GE rfl hz5 ?_))
   have q9:=setRow_heap wr w.heap.size _ (zV5) 54 _ rR;have d9:=Ai (bb.trans (hbel.mono (by omega))) (Nat.le_refl _) (zV5);refine bodyPost_ret (Fj rfl _ _ w.heap.size 54 _ (0,0) _ rfl q9 underlying54 rfl GE) rfl ?_;rw[HCH.out.1,HCH.out.2];exact⟨rfl,d9⟩
theorem JF(x:Value)(ac:List Acc)(s:Int)(w:World)(h:Sac w x ac)(ht:NTab w) :
  Calls prog 121 #[x,.int .i64 s] w fun e w'=>e=.returned (.tuple #[.agg (cmC (Ct ac s)),.int .i64 (CX ac s)])/\Bw w w':=by
 have hlen:=h.len;obtain⟨ax,cp,rfl⟩:=h.shape;obtain⟨N,hN⟩:∃ N,ac.length=N:=⟨_,rfl⟩;have HN:Hid (ac.length=N):=hN;rw[hN]at h hlen ⊢
 clear hN;have hz5:(zV5:Array Value).all (·.oneCell')=true:=by simp[Value.oneCell']
 have rr:=heap_alloc_new w (.cells zV5 54);have bb:Bw w (w.alloc (.cells zV5 54)):=(Below.refl _ _).alloc (Nat.le_refl _) _;have z0:(w.alloc (.cells zV5 54)).heap.size=w.heap.size+1:=by simp
 generalize hW0:w.alloc (.cells zV5 54)=w1 at rr bb z0;have h0:=h.below bb;have t0:=ht.below bb;clear h ht;go_enter func121,ntmps121
 go_wp2_with fail
 clear hW0;refine(Gg s _).mono ?_;rintro e w1 ⟨rfl,rfl⟩;by_cases h1:0<=s/\s<=39
 .rw[decide_eq_true h1];by_cases h2:1<=(N:Int)/\(N:Int)<=5
  .have HS:Hid ((0<=s/\s<=39)/\(1<=(ac.length:Int)/\(ac.length:Int)<=5)):=⟨h1,by rw[HN.out];exact h2⟩;obtain⟨h2a,h2b⟩:=h2;have k1:¬ (N:Int)<1:=by omega
   have k2:¬ (5:Int)<(N:Int):=by omega
   clear h1;go_wp2_with fail
   clear k1 k2
   go_loopw [25] (fun iv wr=>∃ j:Nat,j<=N/\iv=.int .i64 (j:Int)/\(∀ a∈ac.take j,AC a)/\Bw w1 wr) (fun iv _=>((N:Int)-intOf iv).toNat)
   case atStart=>exact⟨0,by omega,rfl,fun a ha=>by simp at ha,Below.refl _ _⟩
   case round =>
    obtain⟨j,hj,rfl,hmay,hbel⟩:=hrel;have HMJ:Hid (∀ a∈ac.take j,AC a):=hmay;clear hmay;have tr:=t0.below hbel;have hszr:=hbel.size;by_cases hjN:j<N
    .have hji:(j:Int)<(N:Int):=by omega
     obtain⟨A,hA⟩:∃ A,ac[j]?=some A:=⟨_,List.getElem?_eq_getElem (by have:=HN.out;omega)⟩;obtain⟨b,off,y,rfl,ltb,hr0,hsy0⟩:=h0.spot j A hA;obtain⟨⟨pr,pn⟩,l⟩:=A;simp only at hr0 hsy0;have hixA:=Mc b off N cp j hjN;obtain⟨ay,cy,hy⟩:=hsy0.shape;obtain⟨M,hM⟩:∃ M,l.length=M:=⟨_,rfl⟩;rw[hM]at hy
     subst hy;have HJ:Hid (ac[j]?=some ⟨⟨pr,pn⟩,l⟩):=hA;clear hA hM;have hrw:=Gn hbel ltb hr0;have hsy:=hsy0.below hbel;have bN:Bw wr (wr.alloc (.cells #[.int .i64 0,.int .i64 0,.slice none 0 0] 77)):=(Below.refl _ _).alloc (Nat.le_refl _) _;have rN:=heap_alloc_new wr (.cells #[.int .i64 0,.int .i64 0,.slice none 0 0] 77);have hone:(#[.int .i64 pr,.int .i64 pn,.slice ay M cy]:Array Value).all (·.oneCell')=true:=by simp[Value.oneCell']
     generalize hWN:wr.alloc (.cells #[.int .i64 0,.int .i64 0,.slice none 0 0] 77)=WN at bN rN
     go_upto_region 6 with((with_reducible (refine Ar ?_));first|(refine wpList_load_mid rfl 77 _ rfl b (off+3*j) rfl [.int .i64 pr,.int .i64 pn,.slice ay M cy] _ hrw underlying77 rfl Uj ?_)|(refine wpList_store_row rfl 77 (.tmp 7) (.tmp 28) rfl wr.heap.size (#[.int .i64 pr,.int .i64 pn,.slice ay M cy]) rfl rfl 77 _ rN Uj rfl hone ?_))
     clear hWN;have q:=setRow_heap WN wr.heap.size _ (#[.int .i64 pr,.int .i64 pn,.slice ay M cy]) 77 _ rN;replace bN:=Ai bN (Nat.le_refl _) (#[.int .i64 pr,.int .i64 pn,.slice ay M cy]);generalize WN.setRow wr.heap.size (#[.int .i64 pr,.int .i64 pn,.slice ay M cy])=W at q bN ⊢;have eW:=hbel.trans (bN.mono hbel.size);have sW:=hsy.below bN;have tW:=tr.below bN;generalize wr.heap.size=G at q ⊢;clear rN hrw hixA bN hsy hbel tr;go_wp2_with ((with_reducible (refine Ar ?_));refine wpList_load_row rfl 77 _ rfl G rfl 77 _ (0,0) _ q underlying77 rfl Uj ?_)
     refine(H6 ⟨pr,pn⟩ (.slice ay M cy) l W sW tW).mono ?_;rintro e W2 ⟨rfl,b2⟩;have e2:=eW.trans (b2.mono eW.size);clear b2 eW sW tW q;by_cases hA:AC ⟨⟨pr,pn⟩,l⟩
     .rw[show FG ⟨⟨pr,pn⟩,l⟩=0 from if_pos hA];have HMJ1:Hid (∀ a∈ac.take (j+1),AC a):=TT HJ.out HMJ.out hA;clear hA HMJ;go_wp2
      go_roundw
      case rel=>exact⟨j+1,by omega,by go_num,HMJ1.out,e2⟩
      case measure=>simp[intOf];omega
     .rw[show FG ⟨⟨pr,pn⟩,l⟩=5 from if_neg hA];have HF:Hid (Ct ac s=⟨0,0,0,0,0⟩/\CX ac s=5):=S1 HS.out (fun g=>hA (g _ (List.mem_iff_getElem?.2 ⟨j,HJ.out⟩)));clear hA HMJ;have rR:=(e2.block w.heap.size (by omega)).trans rr;go_wp2_with ((with_reducible (refine Ar ?_));refine wpList_store_row rfl 54 (.tmp 4) (.tmp 33) rfl w.heap.size zV5 rfl rfl 54 _ rR GE rfl hz5 ?_)
      have q9:=setRow_heap W2 w.heap.size _ (zV5) 54 _ rR;have d9:=Ai (bb.trans (e2.mono (by omega))) (Nat.le_refl _) (zV5);refine bodyPost_ret (Fj rfl _ _ w.heap.size 54 _ (0,0) _ rfl q9 underlying54 rfl GE) rfl ?_;rw[HF.out.1,HF.out.2];exact⟨rfl,d9⟩
    .have HAll:Hid (∀ a∈ac,AC a):=by
      have g:=HMJ.out;rw[List.take_of_length_le (by have:=HN.out;omega)]at g
      exact g
     have HF:Hid (Ct ac s=GS (EW ac s) N/\CX ac s=GU (EW ac s) N):=by
      have hn:=HN.out;cases ho:H7 (EW ac s) N with
      | none =>
       obtain⟨g1,g2⟩:=UC HS.out HAll.out (by rw[hn];exact ho);obtain⟨g3,g4⟩:=LQ ho;exact⟨g1.trans g3.symm,g2.trans g4.symm⟩
      | some v =>
       obtain⟨g1,g2⟩:=UD HS.out HAll.out (x:=v) (by rw[hn];exact ho);obtain⟨g3,g4⟩:=LR ho;exact⟨g1.trans g3.symm,g2.trans g4.symm⟩
     clear HMJ;have dr:=bb.trans (hbel.mono (by omega));have rR:=(hbel.block w.heap.size (by omega)).trans rr;have hsac:=h0.below hbel;go_wp2_with fail
     refine(VN _ ac s wr hsac (by have:=HN.out;omega) HAll.out).mono ?_;rintro e W2 ⟨rfl,b2⟩;rw[HN.out];have d2:=dr.trans (b2.mono dr.size);replace rR:=(b2.block w.heap.size (by omega)).trans rR;generalize GS (EW ac s) N=C at HF ⊢;generalize GU (EW ac s) N=E at HF ⊢;obtain⟨ck,cc,cs,cn,cv⟩:=C;have hone5:(#[.int .i64 ck,.int .i64 cc,.int .i64 cs,.int .i64 cn,.int .i64 cv]:Array Value).all (·.oneCell')=true:=by simp[Value.oneCell']
     simp only[cmC,cmA];go_wp2_with ((with_reducible (refine Ar ?_));refine wpList_store_row rfl 54 (.tmp 4) (.tmp 39) rfl w.heap.size #[.int .i64 ck,.int .i64 cc,.int .i64 cs,.int .i64 cn,.int .i64 cv] rfl rfl 54 _ rR GE rfl hone5 ?_)
     have q9:=setRow_heap W2 w.heap.size _ (#[.int .i64 ck,.int .i64 cc,.int .i64 cs,.int .i64 cn,.int .i64 cv]) 54 _ rR;have d9:=Ai d2 (Nat.le_refl _) (#[.int .i64 ck,.int .i64 cc,.int .i64 cs,.int .i64 cn,.int .i64 cv]);refine bodyPost_ret (Fj rfl _ _ w.heap.size 54 _ (0,0) _ rfl q9 underlying54 rfl GE) rfl ?_;rw[HF.out.1,HF.out.2];exact⟨rfl,d9⟩
  .have HF:Hid (Ct ac s=⟨0,0,0,0,0⟩/\CX ac s=2):=H8 (fun g=>h2 (by have:=g.2;rw[HN.out]at this;exact this));clear h1;by_cases h3:(N:Int)<1
   .clear h2;go_wp2_with ((with_reducible (refine Ar ?_));refine wpList_store_row rfl 54 (.tmp 4) (.tmp 22) rfl w.heap.size zV5 rfl rfl 54 _ rr GE rfl hz5 ?_)
    have q9:=setRow_heap w1 w.heap.size _ (zV5) 54 _ rr;have d9:=Ai bb (Nat.le_refl _) (zV5);refine bodyPost_ret (Fj rfl _ _ w.heap.size 54 _ (0,0) _ rfl q9 underlying54 rfl GE) rfl ?_;rw[HF.out.1,HF.out.2];exact⟨rfl,d9⟩
   .have h4:(5:Int)<(N:Int):=by omega
    clear h2;go_wp2_with ((with_reducible (refine Ar ?_));refine wpList_store_row rfl 54 (.tmp 4) (.tmp 22) rfl w.heap.size zV5 rfl rfl 54 _ rr GE rfl hz5 ?_)
    have q9:=setRow_heap w1 w.heap.size _ (zV5) 54 _ rr;have d9:=Ai bb (Nat.le_refl _) (zV5);refine bodyPost_ret (Fj rfl _ _ w.heap.size 54 _ (0,0) _ rfl q9 underlying54 rfl GE) rfl ?_;rw[HF.out.1,HF.out.2];exact⟨rfl,d9⟩
 .rw[decide_eq_false h1];have HF:Hid (Ct ac s=⟨0,0,0,0,0⟩/\CX ac s=2):=H8 (fun g=>h1 g.1);clear h1;go_wp2_with ((with_reducible (refine Ar ?_));refine wpList_store_row rfl 54 (.tmp 4) (.tmp 22) rfl w.heap.size zV5 rfl rfl 54 _ rr GE rfl hz5 ?_)
  have q9:=setRow_heap w1 w.heap.size _ (zV5) 54 _ rr;have d9:=Ai bb (Nat.le_refl _) (zV5);refine bodyPost_ret (Fj rfl _ _ w.heap.size 54 _ (0,0) _ rfl q9 underlying54 rfl GE) rfl ?_;rw[HF.out.1,HF.out.2];exact⟨rfl,d9⟩
theorem Kl{g:Gh}{w:World}{i nb ob j:Nat}{x:NX}{p:Nod}(hr:w.heap[nb]?=some (.cells (Ax i ob p x) 96))(hj:j<5):w.rangeAt nb (18+3*j) [iv (p.rnd.heard j).p.r,iv (p.rnd.heard j).p.n,S3.v (x.hv j)]:=by
 rcases five hj with rfl|rfl|rfl|rfl|rfl<;>exact OI hr _ _ rfl
theorem Ow{g:Gh}{w:World}{i nb ob:Nat}{x:NX}{p:Nod}(h:NodeAt g w i nb ob x p):Sac w (.slice (some ⟨nb,18,none⟩) 5 5) p.rnd.accs:=by
 refine⟨⟨some ⟨nb,18,none⟩,5,rfl,.inr ⟨nb,18,rfl,rl h.row,fun j A hA=>?_⟩⟩,by show 5<=3518437208780;decide⟩;have hj:j<5:=by have:=(List.getElem?_eq_some_iff.1 hA).1;exact this
 refine⟨S3.v (x.hv j),?_⟩;have h1:=Kl (g:=g) h.row hj;have h2:=(h.heard j hj).s;rcases five hj with rfl|rfl|rfl|rfl|rfl<;>(simp[Rnd.accs]at hA;subst hA;exact⟨h1,h2⟩)
theorem U9{ac:List Acc}{s:Int}(h:40<=s):CX ac s≠0:=by rw[(H8 (by omega)).2];decide
theorem UB{ac:List Acc}{n:Nat}(h:CX ac (n:Int)=0):n<=39:=by
 rcases Nat.lt_or_ge 39 n with h2|h2
 .exact absurd h (U9 (by omega))
 .exact h2
theorem el{W:World}{b k:Nat}{a:Acc}{y:S3}(h:W.rangeAt b k [iv a.p.r,iv a.p.n,S3.v y]):(Instr.loadAt 77 (pt b k)).run prog W=.ok (.agg #[iv a.p.r,iv a.p.n,S3.v y]) W:=by
 have h1:=run_loadVar_mid (P:=prog) W b k 77 _ _ h underlying77 rfl (by kernel_rfl);simp only[Instr.loadAt,Instr.sureAddr,Sem.run_bind,Sem.run_pure,Result.andThen_ok];exact h1
theorem AJ.at{L:List Sh}{W:World}(h:AJ L W)(k b:Nat)(o:Obj)(t:Tg)(hx:L[k]?=some ⟨b,o,t,false⟩):W.heap[b]?=some o:=h _ (List.mem_of_getElem? hx)
theorem EL{g:Gh}{w:World}{i nb ob:Nat}{p:Nod}{ls:List Let}{ts:List Tol}(h:NS i nb ob g w p ls ts){w0:World}(hB:Base w0 g w)(hT:Tabs w0)(hb:p.agreed.length<=40) :
  Calls prog 85 #[pt nb 0] w (NP i nb ob g w (.tuple #[]) p.learnC ls ts):=by
 obtain⟨x,lt,tl,hN,hO,hg⟩:=h;refine gI (fn:=f85) (TN i) g func85 hg ?_;refine qN hN ?_;refine qO hO ?_;refine qR [] 1 [] fun s1 g1 w1 c1=>?_;refine Br 34 [(0,pt nb 0)] [false,false] [] (fun k g' w' e L=>∃ l:List Cmd,e=[(0,pt nb 0)]/\L=[]/\NS i nb ob g' w' { p with agreed:=l } ls ts/\ME k p.rnd l=ME 41 p.rnd p.agreed/\41<=l.length+k/\l.length<=41/\Cg w.heap.size (TN i) g w g' w') (by kernel_rfl) (by kernel_rfl) (by kernel_rfl) (by kernel_rfl) 41 (fun K=>?_) ?_
 .have C2:=c1;exact⟨p.agreed,rfl,rfl,(nsC hN hO C2 K),rfl,by omega,by omega,(c1.nil (TN i))⟩
 .rintro k gr wr _ zr _ ⟨l,rfl,rfl,hM,hI,hk1,hk2,hC⟩ J hJ;obtain⟨xr,ltr,tlr,hNr,hOr,hgr⟩:=hM;refine qN hNr ?_;refine qO hOr ?_;have hln:xr.agreed.n=l.length:=hNr.agreed.num;refine qR [] 15 [19,0,2,4,6,8,10,12,14,16,18,20,0,22] fun s3 g3 w3 c3=>?_;refine BG 34 (fun g' w' e L=>∃ (bA:Nat),e=[(0,pt nb 0),(2,pt bA 0),(3,iv (CX p.rnd.accs (xr.agreed.n:Int)))]/\L=[⟨nb,.cells (Ax i ob ({ p with agreed:=l }) xr) 96,.n 0 i,false⟩,⟨ob,.cells #[S3.v ltr,S3.v tlr] 66,.n 50 0,false⟩,⟨bA,.cells #[iv (Ct p.rnd.accs (xr.agreed.n:Int)).k,iv (Ct p.rnd.accs (xr.agreed.n:Int)).c,iv (Ct p.rnd.accs (xr.agreed.n:Int)).s,iv (Ct p.rnd.accs (xr.agreed.n:Int)).n,iv (Ct p.rnd.accs (xr.agreed.n:Int)).v] 54,.l,false⟩]/\Cg w.heap.size [] gr wr g' w') (by kernel_rfl) ?_ ?_
  .intro J hJ;refine Cv 12 16 (by kernel_rfl) ?_ ?_
   .have hS6:=Ow (hNr.ch c3);have hB6:=hB.ch (((hC.n c3))) (AV i);refine qC 12 (JF _ _ (xr.agreed.n:Int) w3 hS6 (hB6.tn hT)) ?_;rintro e' w7 ⟨rfl,b7⟩;refine⟨_,rfl,b7,?_⟩;have c7:=Cg.ofBelow (B:=w.heap.size) (T:=[]) (g:=g3) b7;refine qR [] 7 [26,28,30,33,1,0,35,2,0,36] fun s8 g8 w8 c8=>?_;exact qB [true,true,true] fun z K0 K=>hJ _ _ _ z _ ⟨(s8 0),rfl,rfl,((c3.trans c7).trans c8)⟩ K
   .refine qR [] 1 [1,0] fun s9 g9 w9 c9=>?_;have hS10:=Ow (hNr.ch (c3.trans c9));have hB10:=hB.ch (hC.trans ((c3.trans c9).nil _)) (AV i);refine qC 12 (JF _ _ (xr.agreed.n:Int) w9 hS10 (hB10.tn hT)) ?_;rintro e' w11 ⟨rfl,b11⟩;refine⟨_,rfl,b11,?_⟩;have c11:=Cg.ofBelow (B:=w.heap.size) (T:=[]) (g:=g9) b11;refine qR [] 6 [26,28,30,35,2,0,36] fun s12 g12 w12 c12=>?_;exact qB [true,true,true] fun z K0 K=>hJ _ _ _ z _ ⟨(s9 0),rfl,rfl,(((c3.trans c9).trans c11).trans c12)⟩ K
  .rintro g4 w4 _ z4 _ ⟨bA,rfl,rfl,hc⟩;refine qR [] 6 [] fun s13 g13 w13 c13=>?_;by_cases h1:CX p.rnd.accs (xr.agreed.n:Int)≠0
   .refine qI (((CX p.rnd.accs (xr.agreed.n:Int)) != 0)) true (by simpa using h1) ?_;refine qE (.tuple #[]) fun K=>?_;have hE:p.learnC={ p with agreed:=l }:=by unfold Nod.learnC;rw[<- hI];cases k with|zero=>rfl|succ k=>rw[ME,if_neg (by rw[<- hln];exact h1)]
    rw[hE];exact⟨_,rfl,(nsC hNr hOr (hc.n c13) K),((hC.n hc).n c13)⟩
   .refine qI (((CX p.rnd.accs (xr.agreed.n:Int)) != 0)) false (by simpa using h1) ?_;have h10:CX p.rnd.accs (xr.agreed.n:Int)=0:=by simpa using h1
    have hl39:l.length<=39:=by rw[<- hln];exact UB h10
    obtain⟨k,rfl⟩:∃ k1,k=k1+1:=⟨k-1,by omega⟩;refine qR [] 10 [12,0,2,4,6,8,10,0,12,2,15,0,0] fun s16 g16 w16 c16=>?_;refine Jd 8 (x:=xr.agreed) 37 37 54 5 40 (.agg #[iv 0,iv 0,iv 0,iv 0,iv 0]) ⟨(s16 0),0,none⟩ 1 1 [iv (Ct p.rnd.accs (xr.agreed.n:Int)).k,iv (Ct p.rnd.accs (xr.agreed.n:Int)).c,iv (Ct p.rnd.accs (xr.agreed.n:Int)).s,iv (Ct p.rnd.accs (xr.agreed.n:Int)).n,iv (Ct p.rnd.accs (xr.agreed.n:Int)).v] (hNr.agreed.ch ((hc.trans c13).trans c16) (by simp) (by simp)) (by kernel_rfl) (by kernel_rfl) (by kernel_rfl) underlying37 (by kernel_rfl) (by kernel_rfl) (by decide) (by decide) rfl (by simp[Value.oneCell']) (fun K=>BW K 3 (s16 0) [iv (Ct p.rnd.accs (xr.agreed.n:Int)).k,iv (Ct p.rnd.accs (xr.agreed.n:Int)).c,iv (Ct p.rnd.accs (xr.agreed.n:Int)).s,iv (Ct p.rnd.accs (xr.agreed.n:Int)).n,iv (Ct p.rnd.accs (xr.agreed.n:Int)).v] 54 .z true (by kernel_rfl)) (by unfold maxLen;omega) (by omega) ?_;intro y17 g17 w17 a17 n17 cc17 G17;have c17:=cc17 w.heap.size [.n 3 i] (List.mem_singleton.2 rfl);refine qR [.n 0 i] 6 [18,20,22,25,0,1] fun s18 g18 w18 c18=>?_;refine DA J 34 [(0,pt nb 0)] [false,false,false,false] [] (by kernel_rfl) (by kernel_rfl) (by kernel_rfl) (by kernel_rfl) (by kernel_rfl) (fun z K0 K=>?_);have hcc:Ct p.rnd.accs (xr.agreed.n:Int)=Ct p.rnd.accs (l.length:Int):=by rw[hln]
    refine hJ k _ _ _ z _ (by omega) ⟨l++[Ct p.rnd.accs (l.length:Int)],rfl,rfl,?_,?_,by simp;omega,by simp;omega,(((((hC.n hc).n c13).n c16).trans (c17.mono (by simp[TN]))).trans (c18.mono (by simp[TN])))⟩ K
    skip
    have C19:=((((hc.nil ([.n 3 i,.n 0 i]:List Tg)).n c13).n c16).m c17).m c18;have Z19:Tg.z∉([.n 3 i,.n 0 i]:List Tg):=by simp
    .rw[<- hcc];exact⟨{ xr with agreed:=y17 },ltr,tlr,K0.nd 0 (hNr.tape.ch C19 Z19) (hNr.votes.ch C19 Z19) (AZ hNr.heard C19 Z19) (B0 hNr.pend C19 Z19 (by simp)) (hNr.queue.ch C19) (by rw[BJ];exact a17.ch c18) (hNr.wants.ch C19) (hNr.asked.ch C19) hNr.upm,hOr.ch C19 Z19 (by simp<;>omega),K0.new⟩
    .rw[<- hI,ME,if_pos (by rw[<- hln];exact h10)]
theorem L8{g:Gh}{w:World}{i nb ob:Nat}{p:Nod}{ls:List Let}{ts:List Tol}(h:NS i nb ob g w p ls ts){w0:World}(hB:Base w0 g w)(hT:Tabs w0)(j:Nat)(hj:j<5)(v:Vt)(hb:p.agreed.length<=40) :
  Calls prog 88 #[pt nb 0,iv (j:Int),.agg #[iv v.slot,iv v.b.r,iv v.b.n,iv v.w.k,iv v.w.c,iv v.w.s,iv v.w.n,iv v.w.v]] w (NP i nb ob g w (.tuple #[]) (p.count j v) ls ts):=by
 obtain⟨x,lt,tl,hN,hO,hg⟩:=h;refine gI (fn:=f88) (TN i) g func88 hg ?_;refine qN hN ?_;refine qO hO ?_;refine qR [] 15 [0,0,9,0,2,2,4,6,8,10,12,14,0] fun s1 g1 w1 c1=>?_;by_cases h1:v.b≠p.rnd.bal
 .refine qT 8 (.bool true) (fun _=>(LZ (x:=(.tmp 9)) (y:=(.tmp 15)) v.b p.rnd.bal h1)) ?_;refine qR [] 2 [] fun s2 g2 w2 c2=>?_;refine qE (.tuple #[]) fun K=>?_;rw[show p.count j v=p from if_pos h1];exact⟨_,rfl,(nsC hN hO (c1.n c2) K),((c1.nil (TN i)).n c2)⟩
 .have h10:v.b=p.rnd.bal:=by simpa using h1
  refine qT 8 (.bool false) (fun _=>(LY (x:=(.tmp 9)) (y:=(.tmp 15)) v.b p.rnd.bal h10)) ?_;refine qR [] 11 [16,0,2,4,6,8,10] fun s4 g4 w4 c4=>?_;refine NW 6 (pt nb (18+3*j)) false (fun W hW=>by rcases five hj with rfl|rfl|rfl|rfl|rfl<;>kernel_rfl) (by kernel_rfl) ?_;refine qU 7 (.agg #[iv (p.rnd.heard j).p.r,iv (p.rnd.heard j).p.n,S3.v (x.hv j)]) (fun W hW=>(el (Kl (g:=g) (AJ.at (hW rfl) 0 nb (.cells (Ax i ob p x) 96) (.n 0 i) (by kernel_rfl)) hj))) ?_;refine qR [] 1 [16,2] fun s6 g6 w6 c6=>?_;refine BG 42 (fun g' w' e L=>∃ (ys:S3) (bA:Nat),e=[(0,pt nb 0),(1,iv (j:Int)),(6,pt bA 0),(7,iv (AW (p.rnd.heard j) v))]/\L=[⟨nb,.cells (Ax i ob p x) 96,.n 0 i,false⟩,⟨ob,.cells #[S3.v lt,S3.v tl] 66,.n 50 0,false⟩,⟨(s1 0),.cells #[iv v.slot,iv v.b.r,iv v.b.n,iv v.w.k,iv v.w.c,iv v.w.s,iv v.w.n,iv v.w.v] 139,.z,false⟩,⟨bA,.cells #[iv (BY (p.rnd.heard j) v).r,iv (BY (p.rnd.heard j) v).n,S3.v ys] 77,.l,false⟩]/\FSv g' w' ys (Dc (p.rnd.heard j) v)/\Cg w.heap.size [] g w g' w') (by kernel_rfl) ?_ ?_
  .intro J hJ;refine Cv 9 13 (by kernel_rfl) ?_ ?_
   .refine Ae fun Kq9=>?_;have hS9:=((hN.heard j hj).ch ((c1.trans c4).trans c6) (by simp)).s;have hB9:=hB.ch ((c1.trans c4).trans c6) (by simp);have hG9:∀ z,w6.heap.size<=z->g6.t z=.z:=fun z hz=>(Kq9.new z hz).1;refine qC 9 (BI (p.rnd.heard j).p _ (p.rnd.heard j).vs v w6 hS9 (hB9.tn hT)) ?_;rintro e' w10 ⟨y10,rfl,hy10,hl10,b10⟩;refine⟨_,rfl,b10,?_⟩;have c10:=Cg.ofBelow (B:=w.heap.size) (T:=[]) (g:=g6) b10;obtain⟨ys10,rfl,hyn10,hys10⟩:=De hy10 hG9 (by omega);refine qR [] 7 [20,22,24,27,1,0,29,3,0,30] fun s11 g11 w11 c11=>?_;exact qB [true,true,true,true] fun z K0 K=>hJ _ _ _ z _ ⟨ys10,(s11 0),rfl,rfl,(hys10.ch c11),((((c1.trans c4).trans c6).trans c10).trans c11)⟩ K
   .refine qR [] 1 [1,0] fun s12 g12 w12 c12=>?_;refine Ae fun Kq13=>?_;have hS13:=((hN.heard j hj).ch (((c1.trans c4).trans c6).trans c12) (by simp)).s;have hB13:=hB.ch (((c1.trans c4).trans c6).trans c12) (by simp);have hG13:∀ z,w12.heap.size<=z->g12.t z=.z:=fun z hz=>(Kq13.new z hz).1;refine qC 9 (BI (p.rnd.heard j).p _ (p.rnd.heard j).vs v w12 hS13 (hB13.tn hT)) ?_;rintro e' w14 ⟨y14,rfl,hy14,hl14,b14⟩;refine⟨_,rfl,b14,?_⟩;have c14:=Cg.ofBelow (B:=w.heap.size) (T:=[]) (g:=g12) b14;obtain⟨ys14,rfl,hyn14,hys14⟩:=De hy14 hG13 (by omega);refine qR [] 6 [20,22,24,29,3,0,30] fun s15 g15 w15 c15=>?_;exact qB [true,true,true,true] fun z K0 K=>hJ _ _ _ z _ ⟨ys14,(s12 0),rfl,rfl,(hys14.ch c15),(((((c1.trans c4).trans c6).trans c12).trans c14).trans c15)⟩ K
  .rintro g7 w7 _ z7 _ ⟨ys,bA,rfl,rfl,hys,hc⟩;refine qR [] 6 [] fun s16 g16 w16 c16=>?_;by_cases h2:AW (p.rnd.heard j) v≠0
   .refine qI (((AW (p.rnd.heard j) v) != 0)) true (by simpa using h2) ?_;refine qE (.tuple #[]) fun K=>?_;rw[show p.count j v=p from by unfold Nod.count;rw[if_neg h1,if_pos h2]];exact⟨_,rfl,(nsC hN hO (hc.n c16) K),((hc.nil (TN i)).n c16)⟩
   .refine qI (((AW (p.rnd.heard j) v) != 0)) false (by simpa using h2) ?_;refine qR [] 10 [8,0,2,4,3,6,8,10,12] fun s19 g19 w19 c19=>?_;refine BG 42 (fun g' w' e L=>e=[(0,pt nb 0)]/\L=[⟨nb,.cells (Ax i ob ({ p with rnd:={ p.rnd with heard:=upN p.rnd.heard j ⟨BY (p.rnd.heard j) v,Dc (p.rnd.heard j) v⟩ } }) ({ x with hv:=upN x.hv j ys })) 96,.n 0 i,false⟩,⟨ob,.cells #[S3.v lt,S3.v tl] 66,.n 50 0,false⟩,⟨(s1 0),.cells #[iv v.slot,iv v.b.r,iv v.b.n,iv v.w.k,iv v.w.c,iv v.w.s,iv v.w.n,iv v.w.v] 139,.z,false⟩,⟨bA,.cells #[iv (BY (p.rnd.heard j) v).r,iv (BY (p.rnd.heard j) v).n,S3.v ys] 77,.l,false⟩]/\True/\Cg w.heap.size ([.n 0 i]:List Tg) g19 w19 g' w') (by kernel_rfl) ?_ ?_
    .intro J hJ;rcases five hj with rfl|rfl|rfl|rfl|rfl <;>
     (refine qR [.n 0 i] 3 [14,17,0,1] fun s21 g21 w21 c21=>?_;exact qB [true,true,true,true] fun z K0 K=>hJ _ _ _ z _ ⟨rfl,rfl,trivial,c21⟩ K)
    rintro g20 w20 _ z20 _ ⟨rfl,rfl,_,c20⟩;refine qR [] 2 [] fun s22 g22 w22 c22=>?_;rw[show p.count j v=Nod.learnC { p with rnd:={ p.rnd with heard:=upN p.rnd.heard j ⟨BY (p.rnd.heard j) v,Dc (p.rnd.heard j) v⟩ } }from by unfold Nod.count;rw[if_neg h1,if_neg h2]];refine Ae fun K=>?_;have C24:=((((hc.nil ([.n 0 i]:List Tg)).n c16).n c19).trans (c20)).n c22;have Z24:Tg.z∉([.n 0 i]:List Tg):=by simp
    have N23:NS i nb ob g22 w22 ({ p with rnd:={ p.rnd with heard:=upN p.rnd.heard j ⟨BY (p.rnd.heard j) v,Dc (p.rnd.heard j) v⟩ } }) ls ts:=⟨{ x with hv:=upN x.hv j ys },lt,tl,K.nd 0 (hN.tape.ch C24 Z24) (hN.votes.ch C24 Z24) (fun k hk=>(by show FSv _ _ (upN x.hv j ys k) (upN p.rnd.heard j ⟨BY (p.rnd.heard j) v,Dc (p.rnd.heard j) v⟩ k).vs;unfold upN;split;exact((((hys.ch c16).ch c19).ch c20).ch c22);exact(hN.heard k hk).ch C24 Z24)) (B0 hN.pend C24 Z24 (by simp)) (hN.queue.ch C24) (hN.agreed.ch C24) (hN.wants.ch C24) (hN.asked.ch C24) hN.upm,hO.ch C24 Z24 (by simp<;>omega),K.new⟩;refine qS0 1 [false,false,true,true] (EL N23 (hB.ch (((((hc.nil (TN i)).n c16).n c19).trans (c20.mono (by simp[TN]))).n c22) (AV i)) hT hb) fun g23 w23 x23 lt23 tl23 hN23 hO23 c23=>?_;refine qR [] 1 [] fun s25 g25 w25 c25=>?_;exact qF hN23 hO23 c25 (((((((hc.nil (TN i)).n c16).n c19).trans (c20.mono (by simp[TN]))).n c22).trans (c23)).n c25)
theorem Nd{g:Gh}{w:World}{i nb ob:Nat}{p:Nod}{ls:List Let}{ts:List Tol}(h:NS i nb ob g w p ls ts){w0:World}(hB:Base w0 g w)(hT:Tabs w0)(lb:Nat)(l:Let)(hl:BX g w lb l)(hs:l.src<5)(hb:p.agreed.length<=40) :
  Calls prog 46 #[pt nb 0,pt lb 0] w (NP i nb ob g w (.tuple #[]) (p.count l.src l.vote) ls ts):=by
 obtain⟨x,lt,tl,hN,hO,hg⟩:=h;refine gI (fn:=f46) (TN i) g func46 hg ?_;refine qN hN ?_;refine qO hO ?_;obtain⟨vs,wh,hl1,hl2,hl3⟩:=hl;refine BF ⟨lb,.cells (Ex l vs wh) 141,.z,false⟩ (fun _=>⟨hl1.r,hl1.z,fun h=>(by cases h),fun h=>absurd rfl h⟩) (by kernel_rfl) ?_;refine qR [] 10 [9,0,2,4,6,8,2,10,12,14,16,2] fun s1 g1 w1 c1=>?_;refine qS 9 [false,false,true] hN hO c1 (fun N2=>L8 N2 (hB.ch (c1.nil (TN i)) (AV i)) hT l.src hs l.vote hb) fun g2 w2 x2 lt2 tl2 hN2 hO2 c2=>?_;refine qR [] 1 [] fun s4 g4 w4 c4=>?_;exact qF hN2 hO2 c4 (((c1.nil (TN i)).trans (c2)).n c4)
theorem F9(q:List Cmd)(c:Cmd)(l:List Cmd):NO q (c::l)=NO (if q.length<40/\c∉q then q++[c]else q) l:=rfl
theorem CT{l:List Cmd}{j:Nat}{c:Cmd}(h:l[j]?=some c):l.drop j=c::l.drop (j+1):=by
 obtain⟨h1,h2⟩:=List.getElem?_eq_some_iff.1 h;rw[<- h2];exact List.drop_eq_getElem_cons h1
theorem XR(q l:List Cmd)(h:q.length<=40):(NO q l).length<=40:=by
 induction l generalizing q with
 | nil=>exact h
 | cons c l ih =>
  rw[F9];refine ih _ ?_;split
  .rw[List.length_append];show _+1<=_;omega
  .exact h
theorem I5{g:Gh}{w:World}{i nb ob:Nat}{p:Nod}{ls:List Let}{ts:List Tol}(h:NS i nb ob g w p ls ts)(what:List Cmd)(wh:S3)(hw:Rc g w wh what)(hb:what.length<100000000)(hq:p.rnd.queue.length<=40) :
  Calls prog 90 #[pt nb 0,wh.v] w (NP i nb ob g w (.tuple #[]) (p.enqueue what) ls ts):=by
 have hNS:=h;obtain⟨x,lt,tl,hN,hO,hg⟩:=h;have hwn:=hw.len;refine gI (fn:=f90) (TN i) g func90 hg ?_;refine qN hN ?_;refine qO hO ?_;refine qR [] 4 [] fun s1 g1 w1 c1=>?_;refine Ae fun K=>?_;have N3:NS i nb ob g1 w1 p ls ts:=(nsC hN hO c1 K);refine qC 1 (LK N3) ?_;rintro e' w4 ⟨rfl,b4⟩;refine⟨_,rfl,b4,?_⟩;have c4:=Cg.ofBelow (B:=w.heap.size) (T:=[]) (g:=g1) b4;refine qR [] 2 [] fun s5 g5 w5 c5=>?_;by_cases h1:p.leads=true
 .refine qI ((!p.leads)) false (by simpa using h1) ?_;rw[show p.enqueue what={ p with rnd:={ p.rnd with queue:=NO p.rnd.queue what } }from if_pos h1];refine qR [] 8 [] fun s6 g6 w6 c6=>?_;refine Br 49 [(0,pt nb 0),(9,S3.v wh),(10,iv (wh.n:Int)),(11,iv 0)] [false,false] [] (fun k g' w' e L=>∃ (j:Nat) (q:List Cmd),k=what.length-j/\j<=what.length/\e=[(0,pt nb 0),(9,S3.v wh),(10,iv (wh.n:Int)),(11,iv (j:Int))]/\L=[]/\NS i nb ob g' w' { p with rnd:={ p.rnd with queue:=q } } ls ts/\NO q (what.drop j)=NO p.rnd.queue what/\q.length<=40/\Cg w.heap.size (TN i) g w g' w') (by kernel_rfl) (by kernel_rfl) (by kernel_rfl) (by kernel_rfl) what.length (fun K=>?_) ?_
  .have C7:=((c1.n c4).n c5).n c6;exact⟨0,p.rnd.queue,rfl,by omega,rfl,rfl,(nsC hN hO C7 K),rfl,hq,((((c1.nil (TN i)).n c4).n c5).n c6)⟩
  .rintro k gr wr _ zr _ ⟨j,q,rfl,hj,rfl,rfl,hM,hI,hq1,hC⟩ J hJ;obtain⟨xr,ltr,tlr,hNr,hOr,hgr⟩:=hM;refine qN hNr ?_;refine qO hOr ?_;have hqn:xr.queue.n=q.length:=hNr.queue.num;refine qR [] 5 [] fun s8 g8 w8 c8=>?_;by_cases h2:j<what.length
   .refine qI ((decide ((j:Int)<(wh.n:Int)))) true (decide_eq_true (by omega)) ?_;obtain⟨c,hcj⟩:∃ c,what[j]?=some c:=⟨_,List.getElem?_eq_getElem h2⟩;have hwr:=hw.ch hC (AV i);obtain⟨bx,ox,hxa⟩:=hw.addr h2;refine qR [] 5 [] fun s9 g9 w9 c9=>?_;refine qV 0 (pt bx (ox+5*j)) (OH hxa j (by omega)) ?_;have hwz:=hwr.ch (c8.trans c9);refine qV 1 (.agg #[iv c.k,iv c.c,iv c.s,iv c.n,iv c.v]) (Wp c fun q_ u hu=>hwz.cellAt hxa hcj hu) ?_;refine qR [] 12 [0,0,2,0,19,0,2,4,6,8,10,0,12] fun s11 g11 w11 c11=>?_;by_cases h3:(xr.queue.n:Int)<40
    .refine qT 7 (.bool true) (fun _=>(rLt (t:=3) (x:=(.tmp 21)) (y:=(.const (iv 40))) (decide_eq_true h3))) ?_;refine qR [] 8 [16,18,20,22,24,26,28,0,30,2] fun s12 g12 w12 c12=>?_;refine qC 16 (Et (l:=q) (hNr.queue.ch (((c8.trans c9).trans c11).trans c12) (by simp) (by simp)).rd (by omega) c) ?_;rintro e' w13 ⟨rfl,b13⟩;refine⟨_,rfl,b13,?_⟩;have c13:=Cg.ofBelow (B:=w.heap.size) (T:=[]) (g:=g12) b13;refine qR [] 3 [34,36] fun s14 g14 w14 c14=>?_;by_cases h4:c∈q
     .refine qI ((!(decide (c∈q)))) false (by simpa using h4) ?_;refine qR [] 3 [] fun s15 g15 w15 c15=>?_;refine qV 0 (iv ((j:Int)+1)) (AN (x:=(.tmp 11)) (y:=(.const (iv 1))) (j:Int) 1 underlying3 (by omega)) ?_;refine qR [] 2 [] fun s16 g16 w16 c16=>?_;refine qB [false,false,false] fun z K0 K=>hJ (what.length-(j+1)) _ _ _ z _ (by omega) ⟨j+1,q,rfl,by omega,rfl,rfl,?_,?_,by omega,((((((((hC.n c8).n c9).n c11).n c12).n c13).n c14).n c15).n c16)⟩ K
      .exact(nsC hNr hOr (((((((c8.n c9).n c11).n c12).n c13).n c14).n c15).n c16) K0)
      .rw[<- hI,CT hcj,F9,if_neg (fun h=>h.2 h4)]
     .refine qI ((!(decide (c∈q)))) true (by simpa using h4) ?_;refine qR [] 10 [14,0,2,4,6,8,10,12,0,14,2,17,0,0] fun s18 g18 w18 c18=>?_;refine Jd 9 (x:=xr.queue) 37 37 54 5 40 (.agg #[iv 0,iv 0,iv 0,iv 0,iv 0]) ⟨(s18 0),0,none⟩ 1 1 [iv c.k,iv c.c,iv c.s,iv c.n,iv c.v] (hNr.queue.ch ((((((c8.trans c9).trans c11).trans c12).trans c13).trans c14).trans c18) (by simp) (by simp)) (by kernel_rfl) (by kernel_rfl) (by kernel_rfl) underlying37 (by kernel_rfl) (by kernel_rfl) (by decide) (by decide) rfl (by simp[Value.oneCell']) (fun K=>BW K 3 (s18 0) [iv c.k,iv c.c,iv c.s,iv c.n,iv c.v] 54 .z true (by kernel_rfl)) (by unfold maxLen;omega) (by omega) ?_;intro y19 g19 w19 a19 n19 cc19 G19;have c19:=cc19 w.heap.size [.n 2 i] (List.mem_singleton.2 rfl);refine qR [.n 0 i] 8 [20,22,24,26,29,0,1] fun s20 g20 w20 c20=>?_;refine qV 0 (iv ((j:Int)+1)) (AN (x:=(.tmp 11)) (y:=(.const (iv 1))) (j:Int) 1 underlying3 (by omega)) ?_;refine qR [] 2 [] fun s21 g21 w21 c21=>?_;refine qB [false,false,false,false] fun z K0 K=>hJ (what.length-(j+1)) _ _ _ z _ (by omega) ⟨j+1,(q++[c]),rfl,by omega,rfl,rfl,?_,?_,by simp;omega,((((((((((hC.n c8).n c9).n c11).n c12).n c13).n c14).n c18).trans (c19.mono (by simp[TN]))).trans (c20.mono (by simp[TN]))).n c21)⟩ K;have C22:=(((((((((c8.nil ([.n 2 i,.n 0 i]:List Tg)).n c9).n c11).n c12).n c13).n c14).n c18).m c19).m c20).n c21;have Z22:Tg.z∉([.n 2 i,.n 0 i]:List Tg):=by simp
      .exact⟨{ xr with queue:=y19 },ltr,tlr,K0.nd 0 (hNr.tape.ch C22 Z22) (hNr.votes.ch C22 Z22) (AZ hNr.heard C22 Z22) (B0 hNr.pend C22 Z22 (by simp)) (by rw[BJ];exact((a19.ch c20).ch c21)) (hNr.agreed.ch C22) (hNr.wants.ch C22) (hNr.asked.ch C22) hNr.upm,hOr.ch C22 Z22 (by simp<;>omega),K0.new⟩
      .rw[<- hI,CT hcj,F9,if_pos ⟨by omega,h4⟩]
    .refine qT 7 (.bool false) (fun _=>(rLt (t:=3) (x:=(.tmp 21)) (y:=(.const (iv 40))) (decide_eq_false h3))) ?_;refine qR [] 16 [16,18,20,22,24,26,28,30,32,34,36] fun s23 g23 w23 c23=>?_;refine qV 0 (iv ((j:Int)+1)) (AN (x:=(.tmp 11)) (y:=(.const (iv 1))) (j:Int) 1 underlying3 (by omega)) ?_;refine qR [] 2 [] fun s24 g24 w24 c24=>?_;refine qB [false,false,false] fun z K0 K=>hJ (what.length-(j+1)) _ _ _ z _ (by omega) ⟨j+1,q,rfl,by omega,rfl,rfl,?_,?_,by omega,(((((hC.n c8).n c9).n c11).n c23).n c24)⟩ K
     .exact(nsC hNr hOr ((((c8.n c9).n c11).n c23).n c24) K0)
     .rw[<- hI,CT hcj,F9,if_neg (by omega)]
   .refine qI ((decide ((j:Int)<(wh.n:Int)))) false (decide_eq_false (by omega)) ?_;refine qR [] 1 [] fun s26 g26 w26 c26=>?_;obtain rfl:j=what.length:=by omega
    rw[List.drop_length]at hI
    refine qE (.tuple #[]) fun K=>?_;rw[<- hI];exact⟨_,rfl,(nsC hNr hOr (c8.n c26) K),((hC.n c8).n c26)⟩
 .refine qI ((!p.leads)) true (by simpa using h1) ?_;refine qE (.tuple #[]) fun K=>?_;rw[show p.enqueue what=p from if_neg h1];exact⟨_,rfl,(nsC hN hO ((c1.n c4).n c5) K),(((c1.nil (TN i)).n c4).n c5)⟩
theorem Ef{g:Gh}{w:World}{i nb ob:Nat}{p:Nod}{ls:List Let}{ts:List Tol}(h:NS i nb ob g w p ls ts){b:Bool}(hb:p.leads=b) :
  Calls prog 84 #[pt nb 0] w fun e w'=>e=.returned (.bool b)/\Bw w w':=by subst hb;exact LK h
theorem CV{W:World}{ty:TypeId}{dd:TypeDesc}{b k:Nat}{v:Value}(hu:prog.underlying ty=some dd)(hr:dd.isRow=false)(hc:W.cell? ⟨b,k,none⟩=some v):(Instr.loadAt ty (pt b k)).run prog W=.ok v W:=by
 have hagg:(isAgg ty).run prog W=.ok false W:=by
  unfold isAgg;rw[Sem.run_bind,run_underlying hu W];cases dd<;>first|rfl|(simp only[TypeDesc.isRow]at hr;cases hr)
 have hl:(loadVar ty ⟨b,k,none⟩).run prog W=.ok v W:=by simp[loadVar,hagg,hc,go_sem]
 simp only[Instr.loadAt,Instr.sureAddr,Sem.run_bind,Sem.run_pure,Result.andThen_ok,hl]
theorem Va(p:Nod)(l:List Cmd):(p.enqueue l).pend=p.pend:=by unfold Nod.enqueue;split<;>rfl
theorem KE{g:Gh}{w:World}{i nb ob:Nat}{p:Nod}{ls:List Let}{ts:List Tol}(h:NS i nb ob g w p ls ts)(lb:Nat)(l:Let)(hl:BX g w lb l)(hk:l.kind=6)(hb:p.pend.length<100000000)(hb2:l.what.length<100000000)(hq:p.rnd.queue.length<=40) :
  Calls prog 48 #[pt nb 0,pt lb 0] w (NP i nb ob g w (.tuple #[]) (p.take l) ls ts):=by
 obtain⟨x,lt,tl,hN,hO,hg⟩:=h;refine gI (fn:=f48) (TN i) g func48 hg ?_;refine qN hN ?_;refine qO hO ?_;have hLL:=hl;obtain⟨vs,wh,hl1,hl2,hl3⟩:=hl;refine BF ⟨lb,.cells (Ex l vs wh) 141,.z,false⟩ (fun _=>⟨hl1.r,hl1.z,fun h=>(by cases h),fun h=>absurd rfl h⟩) (by kernel_rfl) ?_;refine qR [] 12 [0,0,0,0,5,0,3,2,4,4,6,8,2] fun s1 g1 w1 c1=>?_;refine qS 5 [false,false,true,true,true] hN hO c1 (fun N2=>I5 N2 l.what wh (hl3.ch (c1.nil (TN i)) (AV i)) hb2 hq) fun g2 w2 x2 lt2 tl2 hN2 hO2 c2=>?_;have hn:=hN2.agreed.num;refine qR [] 15 [11,0,2,2,4,6,0,8,1,10,12,14,16,3,18,20] fun s4 g4 w4 c4=>?_;by_cases h1:l.slot<(p.enqueue l.what).agreed.length
 .refine qI ((decide ((l.slot:Int)<(x2.agreed.n:Int)))) true (decide_eq_true (by omega)) ?_;refine qR [] 3 [1] fun s5 g5 w5 c5=>?_;rw[show p.take l=(p.enqueue l.what).wait (.tell l.src l.slot)from by unfold Nod.take;rw[hk];exact if_pos h1];refine Ae fun K=>?_;obtain⟨z1,z2⟩:=K.isZ 1 (s1 0) (.cells #[pt nb 0] 69) false (by kernel_rfl);obtain⟨z3,z4⟩:=K.isZ 2 (s1 1) (.cells #[pt lb 0] 142) false (by kernel_rfl);have N6:NS i nb ob g5 w5 (p.enqueue l.what) ls ts:=(nsC hN2 hO2 (c4.n c5) K);refine qS0 2 [true,true,true,false,false] (AG N6 (by rw[Va];exact hb) _ _ (.tell l.src l.slot) ⟨(s1 0),(s1 1),lb,l,rfl,⟨z1,z2⟩,⟨z3,z4⟩,hLL.ch ((((c1.nil (TN i)).trans (c2)).n c4).n c5) (AV i),rfl,rfl⟩) fun g6 w6 x6 lt6 tl6 hN6 hO6 c6=>?_;refine qR [] 1 [] fun s8 g8 w8 c8=>?_;exact qF hN6 hO6 c8 ((((((c1.nil (TN i)).trans (c2)).n c4).n c5).trans (c6)).n c8)
 .refine qI ((decide ((l.slot:Int)<(x2.agreed.n:Int)))) false (decide_eq_false (by omega)) ?_;refine qR [] 1 [] fun s10 g10 w10 c10=>?_;refine qE (.tuple #[]) fun K=>?_;rw[show p.take l=(p.enqueue l.what)from by unfold Nod.take;rw[hk];exact if_neg h1];exact⟨_,rfl,(nsC hN2 hO2 (c4.n c10) K),((((c1.nil (TN i)).trans (c2)).n c4).n c10)⟩
theorem Jm{g:Gh}{w:World}{i nb ob:Nat}{p:Nod}{ls:List Let}{ts:List Tol}(h:NS i nb ob g w p ls ts){w0:World}(hB:Base w0 g w)(hT:Tabs w0)(lb:Nat)(l:Let)(hl:BX g w lb l)(hk:l.kind=1)(hs:l.src<5)(hb:(p.learn 0 l.what).agreed.length<=40)(hb2:l.what.length<=40)(hb3:(p.rnd.heard l.src).vs.length<100000000) :
  Calls prog 43 #[pt nb 0,pt lb 0] w (NP i nb ob g w (.tuple #[]) (p.take l) ls ts):=by
 obtain⟨kd,src,dst,bal,vote,votes,slot,what⟩:=l;simp only at hk hs hb hb2 hb3;obtain⟨x,lt,tl,hN,hO,hg⟩:=h;refine gI (fn:=f43) (TN i) g func43 hg ?_;refine qN hN ?_;refine qO hO ?_;obtain⟨vs,wh,hl1,hl2,hl3⟩:=hl;obtain⟨wa,wn,wc⟩:=wh;obtain rfl:wn=what.length:=hl3.len;have hba:p.agreed.length<=40:=Nat.le_trans (by unfold Nod.learn;rw[List.length_append];omega) hb;refine BF ⟨lb,.cells (Ex (Let.mk kd src dst bal vote votes slot what) vs (S3.mk wa what.length wc)) 141,.z,false⟩ (fun _=>⟨hl1.r,hl1.z,fun h=>(by cases h),fun h=>absurd rfl h⟩) (by kernel_rfl) ?_;refine qR [] 7 [2] fun s1 g1 w1 c1=>?_;refine qS 5 [false,false,true] hN hO c1 (fun N2=>LM N2 0 what (S3.mk wa what.length wc) (hl3.ch (c1.nil (TN i)) (AV i)) (by omega) (by omega) (by omega)) fun g2 w2 x2 lt2 tl2 hN2 hO2 c2=>?_;by_cases h1:(p.learn 0 what).leads=false
 .refine qR [] 5 [29,0] fun s4 g4 w4 c4=>?_;refine Ae fun K=>?_;have N6:NS i nb ob g4 w4 (p.learn 0 what) ls ts:=(nsC hN2 hO2 c4 K);refine qC 1 (Ef N6 h1) ?_;rintro e' w7 ⟨rfl,b7⟩;refine⟨_,rfl,b7,?_⟩;have c7:=Cg.ofBelow (B:=w.heap.size) (T:=[]) (g:=g4) b7;refine qR [] 29 [4,6,8,10,12,14,16,18,20,22,24,26,28,30,32,34,36,38,40,42,44,46,48,50,52,54,56] fun s8 g8 w8 c8=>?_;refine qE (.tuple #[]) fun K=>?_;rw[show p.take (Let.mk kd src dst bal vote votes slot what)=(p.learn 0 what)from by unfold Nod.take;rw[hk];exact if_pos (.inl h1)];exact⟨_,rfl,(nsC hN2 hO2 ((c4.n c7).n c8) K),(((((c1.nil (TN i)).trans (c2)).n c4).n c7).n c8)⟩
 .have h10:(p.learn 0 what).leads=true:=by simpa using h1
  refine qR [] 5 [29,0] fun s10 g10 w10 c10=>?_;refine Ae fun K=>?_;have N12:NS i nb ob g10 w10 (p.learn 0 what) ls ts:=(nsC hN2 hO2 c10 K);refine qC 1 (Ef N12 h10) ?_;rintro e' w13 ⟨rfl,b13⟩;refine⟨_,rfl,b13,?_⟩;have c13:=Cg.ofBelow (B:=w.heap.size) (T:=[]) (g:=g10) b13;refine qR [] 12 [4,6,8,10,12,14,0,16,18,20,22,24,26,1] fun s14 g14 w14 c14=>?_;by_cases h2:bal≠(p.learn 0 what).rnd.bal
  .refine qT 14 (.bool true) (fun _=>(LZ (x:=(.tmp 17)) (y:=(.tmp 23)) bal (p.learn 0 what).rnd.bal h2)) ?_;refine qR [] 16 [30,32,34,36,38,40,42,44,46,48,50,52,54,56] fun s15 g15 w15 c15=>?_;refine qE (.tuple #[]) fun K=>?_;rw[show p.take (Let.mk kd src dst bal vote votes slot what)=(p.learn 0 what)from by unfold Nod.take;rw[hk];exact if_pos (.inr (.inl h2))];exact⟨_,rfl,(nsC hN2 hO2 (((c10.n c13).n c14).n c15) K),((((((c1.nil (TN i)).trans (c2)).n c10).n c13).n c14).n c15)⟩
  .have h20:bal=(p.learn 0 what).rnd.bal:=by simpa using h2
   refine qT 14 (.bool false) (fun _=>(LY (x:=(.tmp 17)) (y:=(.tmp 23)) bal (p.learn 0 what).rnd.bal h20)) ?_;refine qR [] 11 [30,32,34,36,38,40,42,0,44,46,48,50] fun s17 g17 w17 c17=>?_;refine BG 69 (fun g' w' e L=>e=[(0,pt nb 0),(1,pt lb 0),(38,.bool ((p.learn 0 what).rnd.pro src))]/\L=[⟨lb,.cells (Ex (Let.mk kd src dst bal vote votes slot what) vs (S3.mk wa what.length wc)) 141,.z,false⟩,⟨nb,.cells (Ax i ob (p.learn 0 what) x2) 96,.n 0 i,false⟩,⟨ob,.cells #[S3.v lt2,S3.v tl2] 66,.n 50 0,false⟩]/\True/\Cg w.heap.size ([]:List Tg) g17 w17 g' w') (by kernel_rfl) ?_ ?_
   .intro J hJ;rcases five hs with rfl|rfl|rfl|rfl|rfl <;>
    (refine qR [] 4 [52,54,1,56] fun s19 g19 w19 c19=>?_;exact qB [true,true,true] fun z K0 K=>hJ _ _ _ z _ ⟨rfl,rfl,trivial,(c19.nil ([]:List Tg))⟩ K)
   rintro g18 w18 _ z18 _ ⟨rfl,rfl,_,c18⟩;by_cases h3:(p.learn 0 what).rnd.pro src=true
   .refine qI (((p.learn 0 what).rnd.pro src)) true h3 ?_;refine qE (.tuple #[]) fun K=>?_;rw[show p.take (Let.mk kd src dst bal vote votes slot what)=(p.learn 0 what)from by unfold Nod.take;rw[hk];exact if_pos (.inr (.inr h3))];exact⟨_,rfl,(nsC hN2 hO2 ((((c10.n c13).n c14).n c17).n c18) K),(((((((c1.nil (TN i)).trans (c2)).n c10).n c13).n c14).n c17).n c18)⟩
   .refine qI (((p.learn 0 what).rnd.pro src)) false (by simpa using h3) ?_;refine qR [] 15 [12,0,2,4,6,8,10,12,14,0,16,18,20,22,0] fun s23 g23 w23 c23=>?_;refine qS 12 [true,false,false] hN2 hO2 (((((c10.n c13).n c14).n c17).n c18).n c23) (fun N24=>Od N24 (hB.ch ((((((((c1.nil (TN i)).trans (c2)).n c10).n c13).n c14).n c17).n c18).n c23) (AV i)) hT src hs votes vs (hl2.ch ((((((((c1.nil (TN i)).trans (c2)).n c10).n c13).n c14).n c17).n c18).n c23) (AV i)) hb3) fun g24 w24 x24 lt24 tl24 hN24 hO24 c24=>?_;refine qR [] 17 [15,0,2,4,6,8,0,10,12,14,16,0,18,20,22,24,26] fun s26 g26 w26 c26=>?_;refine BG 69 (fun g' w' e L=>e=[(0,pt nb 0)]/\L=[⟨lb,.cells (Ex (Let.mk kd src dst bal vote votes slot what) vs (S3.mk wa what.length wc)) 141,.z,false⟩,⟨nb,.cells (Ax i ob ({ (p.learn 0 what)with rnd:={ (p.learn 0 what).rnd.hear src votes with taught:=upN (p.learn 0 what).rnd.taught src what.length } }) x24) 96,.n 0 i,false⟩,⟨ob,.cells #[S3.v lt24,S3.v tl24] 66,.n 50 0,false⟩]/\True/\Cg w.heap.size ([.n 0 i]:List Tg) g26 w26 g' w') (by kernel_rfl) ?_ ?_
    .intro J hJ;rcases five hs with rfl|rfl|rfl|rfl|rfl <;>
     (refine qR [.n 0 i] 3 [28,31,1,1] fun s28 g28 w28 c28=>?_;exact qB [true,true,true] fun z K0 K=>hJ _ _ _ z _ ⟨rfl,rfl,trivial,c28⟩ K)
    rintro g27 w27 _ z27 _ ⟨rfl,rfl,_,c27⟩;refine qR [] 2 [] fun s29 g29 w29 c29=>?_;rw[show p.take (Let.mk kd src dst bal vote votes slot what)=Nod.learnC { (p.learn 0 what)with rnd:={ (p.learn 0 what).rnd.hear src votes with taught:=upN (p.learn 0 what).rnd.taught src what.length } }from by unfold Nod.take;rw[hk];exact if_neg (by rintro(h|h|h);exact h1 h;exact h2 h;exact h3 h)];refine Ae fun K=>?_;have C31:=((c26.nil ([.n 0 i]:List Tg)).trans (c27)).n c29;have N30:NS i nb ob g29 w29 ({ (p.learn 0 what)with rnd:={ (p.learn 0 what).rnd.hear src votes with taught:=upN (p.learn 0 what).rnd.taught src what.length } }) ls ts:=⟨x24,lt24,tl24,K.ndu 1 hN24 C31,hO24.ch C31 (hn:=by simp<;>omega),K.new⟩;refine qS0 1 [true,false,false] (EL N30 (hB.ch ((((((((((((c1.nil (TN i)).trans (c2)).n c10).n c13).n c14).n c17).n c18).n c23).trans (c24)).n c26).trans (c27.mono (by simp[TN]))).n c29) (AV i)) hT hb) fun g30 w30 x30 lt30 tl30 hN30 hO30 c30=>?_;refine qR [] 1 [] fun s32 g32 w32 c32=>?_;exact qF hN30 hO30 c32 ((((((((((((((c1.nil (TN i)).trans (c2)).n c10).n c13).n c14).n c17).n c18).n c23).trans (c24)).n c26).trans (c27.mono (by simp[TN]))).n c29).trans (c30)).n c32)
def tkG:Nat->FuncId
 | 0=>42
 | 1=>43
 | 2=>44
 | 3=>45
 | 4=>46
 | 5=>47
 | _=>48
def tkV(k:Nat):Value:=.func (.func (tkG k)) #[] #[]
def tkL(j:Nat):List MapEntry:=(List.range j).map fun(k:Nat)=>{ key:=iv (k:Int),val:=tkV k,born:=k }
structure TkAt(g:Gh)(w:World)(b j:Nat):Prop where
 t:g.t b=.n 70 0
 k:g.k b=0
 row:w.heap[b]?=some (.map (tkL j).toArray j)
theorem TkAt.ch{B:Nat}{T:List Tg}{g g':Gh}{w w':World}{b j:Nat}(h:TkAt g w b j)(c:Cg B T g w g' w')(hn:Tg.n 70 0∉T:=by simp):TkAt g' w' b j :=
 have h1:=c.rc h.row h.t hn
 ⟨h1.2.1,h1.2.2.trans h.k,h1.1⟩
theorem WJ{k:Nat}(h:k<7):k=0\/k=1\/k=2\/k=3\/k=4\/k=5\/k=6:=by omega
theorem Pg(em:Bool)(k:Nat)(w:World):(Instr.checkKey em 10000 123 (iv (k:Int))).run prog w=.ok () w:=by kernel_rfl
theorem Zk{j:Nat}(h:j<7)(w:World):(Instr.findKey 123 (iv (j:Int)) (tkL j)).run prog w=.ok none w:=by
 rcases WJ h with rfl|rfl|rfl|rfl|rfl|rfl|rfl<;>kernel_rfl
theorem Zj{j:Nat}(h:j<7)(w:World):(Instr.findKey 123 (iv (j:Int)) (tkL 7)).run prog w=.ok (some (j,tkV j)) w:=by
 rcases WJ h with rfl|rfl|rfl|rfl|rfl|rfl|rfl<;>kernel_rfl
theorem cW{g:Gh}{w:World}{b j:Nat}(h:TkAt g w b j)(hj:j<7):∃ w',(Instr.mapUpdate 67 (.map (some b)) (iv (j:Int)) (tkV j)).run prog w=.ok () w'/\TkAt g w' b (j+1)/\(∀ B T,Tg.n 70 0∈T->Cg B T g w g w')/\w'.heap.size=w.heap.size:=by
 have hg:(getObj b).run prog w=.ok (.map (tkL j).toArray j) w:=by simp[getObj,Sem.run,h.row]
 have hs:=MapKept.run_setObj_map (P:=prog) (w:=w) (.map (tkL (j+1)).toArray (j+1)) h.row;have he:((tkL j).toArray.push { key:=iv (j:Int),val:=tkV j,born:=j })=(tkL (j+1)).toArray:=by simp[tkL,List.range_succ]
 refine⟨_,?_,⟨h.t,h.k,ChangeMaps.heap_setBlock_same h.row (.map (tkL (j+1)).toArray (j+1))⟩,fun B T hT=>Cg.block h.row h.t h.k hT _,by simp[ChangeMaps.setBlock]⟩;rw[Instr.mapUpdate];simp only[Sem.run_bind,run_underlying underlying67,Result.andThen_ok,hg,Pg,Zk hj,he,hs];rfl
theorem rTk{w:World}{b k:Nat}(hb:w.heap[b]?=some (.map (tkL 7).toArray 7))(hk:k<7):(Instr.lookup 67 (.map (some b)) (iv (k:Int)) false).run prog w=.ok (tkV k) w:=by
 have hg:(getObj b).run prog w=.ok (.map (tkL 7).toArray 7) w:=by simp[getObj,Sem.run,hb]
 simp[Instr.lookup,run_underlying underlying67,hg,Pg,Zj hk]
section
variable{fn:Func}{R:Ending->World->Prop}{B:Nat}{T:List Tg}{g:Gh}{w:World}
theorem dO{s:Xs}(i':Nat)(hsem:CK s i'=some (Instr.makeMap 67 none>>=fun v=>pure (.value v)))
  (hob:(nxt s i' undef s.L).o.map Ob.l'=(nxt s i' undef s.L).o.map Ob.r')
  (hk:∀ b g' w',w.heap.size<=b->TkAt g' w' b 0->(∀ B T,Cg B T g w g' w')->(∀ b,w'.heap.size<=b->g'.t b=.z/\g'.k b=0)->GG prog fn R B T (nxt s i' (.map (some b)) s.L).s g' w'):GG prog fn R B T s g w:=by
 refine JV i' s.L hob (BC hsem) fun hK ops j o hop=>?_;have hr:(Instr.makeMap 67 none).run prog w=.ok (.map (some w.heap.size)) (w.alloc (.map #[] 0)):=by
  simp[Instr.makeMap,go_sem]
 have hC:∀ B T,Cg B T g w (M1 g w (.n 70 0) 0) (w.alloc (.map #[] 0)):=fun B T =>
  ⟨rfl,rfl,rfl,by simp,fun b hb=>.inl (if_neg (by omega)),fun b hb=>by show _<=(if b=w.heap.size then _ else g.k b);rw[if_neg (by omega)];exact Nat.le_refl _,fun b hb _ _=>if_neg (by omega),fun b hb _ _=>heap_alloc_old w _ hb,fun b hb j hj=>World.cell?_of_block (w:=w) (heap_alloc_old w _ hb)⟩
 have hG:∀ b,(w.alloc (.map #[] 0)).heap.size<=b->(M1 g w (.n 70 0) 0).t b=.z/\(M1 g w (.n 70 0) 0).k b=0:=fun b hb=>by
  have hb':w.heap.size+1<=b:=by simpa using hb
  show(if b=w.heap.size then _ else g.t b)=.z/\(if b=w.heap.size then _ else g.k b)=0;rw[if_neg (by omega),if_neg (by omega)];exact hK.new b (by omega)
 refine⟨.map (some w.heap.size),_,M1 g w (.n 70 0) 0,.inl ?_,hK.ch (hC _ []) hG (by simp),hk _ _ _ (Nat.le_refl _) ⟨if_pos rfl,if_pos rfl,heap_alloc_new _ _⟩ hC hG⟩;rw[CO hsem hop,Sem.run_bind,hr,Result.andThen_ok];rfl
theorem Ge{s:Xs}(i':Nat){b j:Nat}(h:TkAt g w b j)(hj:j<7)(hsem:CK s i'=some (Instr.mapUpdate 67 (.map (some b)) (iv (j:Int)) (tkV j)>>=fun _=>pure .skip))
  (hob:(nxt s i' undef s.L).o.map Ob.l'=(nxt s i' undef s.L).o.map Ob.r')(hT:s.L.all (fun y=>[Tg.n 70 0].all fun t=>y.t.ne t)=true)
  (hk:∀ w',TkAt g w' b (j+1)->(∀ B T,Tg.n 70 0∈T->Cg B T g w g w')->GG prog fn R B T (nxt s i' undef s.L).s g w'):GG prog fn R B T s g w:=by
 refine JV i' s.L hob (BC hsem) fun hK ops i o hop=>?_;obtain⟨w',hr,h2,h3,h4⟩:=cW h hj;refine⟨undef,w',g,.inr ⟨?_,rfl⟩,hK.ch (h3 _ [Tg.n 70 0] (List.mem_singleton.2 rfl)) (fun b hb=>hK.new b (by rw[h4]at hb;exact hb)) hT,hk w' h2 h3⟩;rw[CO hsem hop,Sem.run_bind,hr,Result.andThen_ok];rfl
end
def TM:List Tg:=[0,1,2,3,4].flatMap TN
theorem Ep:Tg.z∉TM:=by simp[TM,TN]
theorem dl{i:Nat}(hi:i<5):∀ t∈TN i,t∈TM:=fun t ht=>List.mem_flatMap.2 ⟨i,by rcases five hi with rfl|rfl|rfl|rfl|rfl<;>simp,ht⟩
theorem dm{i j r:Nat}(h:j≠i)(hr:r<6):Tg.n r j∉TN i:=by simp[TN];omega
def mtA(nb:Nat->Nat)(ob tb:Nat):Array Value:=#[pt (nb 0) 0,pt (nb 1) 0,pt (nb 2) 0,pt (nb 3) 0,pt (nb 4) 0,pt ob 0,.map (some tb)]
structure MS(mb tb ob:Nat)(nb:Nat->Nat)(g:Gh)(w:World)(M:Meet):Prop where
 box:Box g w mb (mtA nb ob tb) 72
 tk:TkAt g w tb 7
 node:∀ i,i<5->∃ x,NodeAt g w i (nb i) ob x (M.node i)
 out:∃ lt tl,OutAt g w ob lt tl M.lets M.told
 new:Hu g w
def MP(mb tb ob:Nat)(nb:Nat->Nat)(g:Gh)(w:World)(v:Value)(M:Meet):Ending->World->Prop:=fun e w'=>∃ g',e=.returned v/\MS mb tb ob nb g' w' M/\Cg w.heap.size TM g w g' w'
section
variable{mb tb ob i:Nat}{nb:Nat->Nat}{g g':Gh}{w w':World}{M:Meet}
theorem MS.ns(h:MS mb tb ob nb g w M)(hi:i<5):NS i (nb i) ob g w (M.node i) M.lets M.told :=
 let ⟨x,hx⟩:=h.node i hi
 let ⟨lt,tl,ho⟩:=h.out
 ⟨x,lt,tl,hx,ho,h.new⟩
theorem MS.ch0{B:Nat}(h:MS mb tb ob nb g w M)(c:Cg B [] g w g' w')(hn:Hu g' w'):MS mb tb ob nb g' w' M :=
 ⟨h.box.ch c,h.tk.ch c,fun i hi=>let ⟨x,hx⟩:=h.node i hi;⟨x,hx.ch c⟩,let ⟨lt,tl,ho⟩:=h.out;⟨lt,tl,ho.ch c⟩,hn⟩
theorem MS.of{B:Nat}(h:MS mb tb ob nb g w M)(hi:i<5){p:Nod}{ls:List Let}{ts:List Tol}(hn:NS i (nb i) ob g' w' p ls ts)(c:Cg B (TN i) g w g' w'):MS mb tb ob nb g' w' ⟨upN M.node i p,ls,ts⟩:=by
 obtain⟨x,lt,tl,h1,h2,h3⟩:=hn;refine⟨h.box.ch c (AV i),h.tk.ch c (by simp[TN]),fun j hj=>?_,⟨lt,tl,h2⟩,h3⟩;by_cases e:j=i
 .subst e;exact⟨x,by show NodeAt g' w' j (nb j) ob x (upN M.node j p j);rw[cY];exact h1⟩
 .obtain⟨y,hy⟩:=h.node j hj;exact⟨y,by show NodeAt g' w' j (nb j) ob y (upN M.node i p j);rw[cZ _ _ e];exact hy.ch c (AV i) fun r hr=>dm e hr⟩
theorem MS.call(h:MS mb tb ob nb g w M)(hi:i<5){f:FuncId}{av:Array Value}{v:Value}{p:Nod}{ls:List Let}{ts:List Tol}(hc:Calls prog f av w (NP i (nb i) ob g w v p ls ts)):Calls prog f av w (MP mb tb ob nb g w v ⟨upN M.node i p,ls,ts⟩) :=
 hc.mono fun e w' ⟨g',he,hn,c⟩=>⟨g',he,h.of hi hn c,c.mono (dl hi)⟩
theorem RE{W:World}(hr:W.heap[mb]?=some (.cells (mtA nb ob tb) 72)){j:Nat}(hj:j<5):W.cell? ⟨mb,j,none⟩=some (pt (nb j) 0):=by
 rcases five hj with rfl|rfl|rfl|rfl|rfl<;>(rw[cell_of_row _ _ _ _ _ _ hr];rfl)
end
end Go.Proofs.YtalbmmghmoggcaaGreatDoor
