/- Part 18 of the walk: what the functions of the program do, one by one. -/
import Derived.Test.YtakgfdbjgeopdaaGreatDoorZ17
set_option maxRecDepth 100000
set_option maxHeartbeats 4000000
open Go.Proofs.Tryz
set_option linter.unusedVariables false
namespace Go.Proofs.YtakgfdbjgeopdaaGreatDoor
open Go.RowKit
def cmG(c:Cmd):Value:=.agg #[iv c.k,iv c.c,iv c.s,iv c.n,iv c.v]
theorem QF(x:Cmd × Bal × Nat):(mkA x).key=cmG x.1:=rfl
theorem TE(u v:Cmd)(w:World):(Op.equal 25 (cmG u) (cmG v)).run prog w=.ok (decide (u=v)) w:=by
 have h1:=Q3 u.k u.c u.s u.n u.v v.k v.c v.s v.n v.v w;rw[Qy]at h1
 rw[run_eql_struct]at h1
 show(Op.equalIn 10000 _ _ _).run _ _=_;simp only[cmG];cases hr:(Op.equalIn 10000 25 (.agg #[iv u.k,iv u.c,iv u.s,iv u.n,iv u.v]) (.agg #[iv v.k,iv v.c,iv v.s,iv v.n,iv v.v])).run prog w with
 | ok b w'=>simp only[hr]at h1;simp[Result.andThen]at h1;rw[h1.1,h1.2]
 | _=>simp only[hr]at h1;simp[Result.andThen]at h1
abbrev Ask:=Cmd × Bal × Nat
def Jr(v:Cmd):List Ask→Nat→Option (Nat × Value)
 | [],_=>none
 | x::c,i=>if v=x.1 then some (i,(mkA x).val)else Jr v c (i+1)
theorem KM(v:Cmd)(w:World):∀ (c:List Ask) (i:Nat),(Instr.findAsking 25 (cmG v) (c.map mkA) i).run prog w=.ok (Jr v c i) w
 | [],i=>by simp[Instr.findAsking,Jr]
 | x::c,i=>by
  have h:=TE v x.1 w;rw[List.map_cons,Instr.findAsking,Sem.run_bind];rw[QF,h,Result.andThen_ok,Jr];by_cases e:v=x.1
  ·rw[decide_eq_true e,if_pos e];rfl
  ·rw[decide_eq_false e,if_neg e];simpa using KM v w c (i+1)
theorem Fr(v:Cmd)(w:World)(c:List Ask):(Instr.findKey 25 (cmG v) (c.map mkA)).run prog w=.ok (Jr v c 0) w:=by
 rw[Instr.findKey,Sem.run_bind,run_underlying underlying25 w,Result.andThen_ok];cases c with
 | nil=>simp[Instr.findNow,Jr]
 | cons x c =>
  show Sem.run _ (match(none:Option (Option (Nat × Value)))with|some r=>pure r|none=>Instr.findAsking 25 (cmG v) ((x::c).map mkA)) w=_;exact KM v w (x::c) 0
theorem DQ(em:Bool)(v:Cmd)(w:World):(Instr.checkKey em 10000 25 (cmG v)).run prog w=.ok () w:=by
 obtain⟨k,c,q,m,x⟩:=v;kernel_rfl
theorem Xg(v:Cmd)(n:Nat):Instr.sameBits (n+1) (cmG v) (cmG v)=true:=by simp[Instr.sameBits,cmG]
theorem Vi(v:Cmd)(w:World):(Instr.keyThatStays (cmG v) (cmG v)).run prog w=.ok (cmG v) w:=by
 rw[Instr.keyThatStays,if_pos (Xg v 9999)];rfl
def E9(c:List Ask)(v:Cmd):Option Bal:=(c.find? fun x=>decide (v=x.1)).map (·.2.1)
theorem IT(v:Cmd):∀ (c:List Ask) (i:Nat),(Jr v c i=none∧E9 c v=none∧∀ x∈c,v≠x.1)∨∃ a x b,c=a++x::b∧x.1=v∧(∀ y∈a,v≠y.1)∧Jr v c i=some (i+a.length,(mkA x).val)∧E9 c v=some x.2.1
 | [],i=>.inl ⟨rfl,rfl,fun x hx=>by cases hx⟩
 | x::c,i=>by
  by_cases e:v=x.1
  ·refine .inr ⟨[],x,c,rfl,e.symm,fun y hy=>(List.not_mem_nil hy).elim,?_,?_⟩
   ·rw[Jr,if_pos e];rfl
   ·simp[E9,e]
  ·rcases IT v c (i+1)with⟨h1,h2,h3⟩|⟨a,y,b,rfl,hy,h3,h4,h5⟩
   ·refine .inl ⟨by rw[Jr,if_neg e,h1],?_,fun y hy=>?_⟩
    ·rw[← h2];simp[E9,e]
    ·rcases List.mem_cons.1 hy with rfl|hy
     ·exact e
     ·exact h3 y hy
   ·refine .inr ⟨x::a,y,b,rfl,hy,fun z hz=>?_,?_,?_⟩
    ·rcases List.mem_cons.1 hz with rfl|hz
     ·exact e
     ·exact h3 z hz
    ·rw[Jr,if_neg e,h4];simp;omega
    ·rw[← h5];simp[E9,e]
def IC(b:Bal):Value:=.agg #[iv b.r,iv b.n]
theorem XL{g:Gh}{w:World}{τ:Tg}{b:Nat}{f:Cmd→Option Bal}(h:AskAt g w τ b f)(v:Cmd)(ok:Bool):(Instr.lookup 127 (.map (some b)) (cmG v) ok).run prog w=.ok (if ok then .tuple #[IC ((f v).getD Co),.bool (f v).isSome]else IC ((f v).getD Co)) w:=by
 obtain⟨_,_,c,k,hb,_,_,_,hf⟩:=h;have hf2:f v=E9 c v:=hf v;have hg:(getObj b).run prog w=.ok (.map (c.map mkA).toArray k) w:=by simp[getObj,Sem.run,hb]
 rcases IT v c 0 with⟨h1,h2,_⟩|⟨a,x,d,_,_,_,h1,h2⟩
 ·rw[h2]at hf2
  cases ok<;>simp[Instr.lookup,run_underlying underlying127,hg,DQ,Fr,h1,hf2,IC,Co]
 ·rw[h2]at hf2
  cases ok<;>simp[Instr.lookup,run_underlying underlying127,hg,DQ,Fr,h1,hf2,mkA,IC]
theorem Cg.block{B:Nat}{T:List Tg}{g:Gh}{w:World}{b:Nat}{es:Array MapEntry}{k:Nat}{τ:Tg}(hb:w.heap[b]?=some (.map es k))(ht:g.t b=τ)(hk:g.k b=0)(hτ:τ∈T)(o:Obj):Cg B T g w g (ChangeMaps.setBlock w b o) :=
 have hne:∀ b',g.t b'∉T→b'≠b:=fun b' h e=>h (by rw[e,ht];exact hτ)
 ⟨rfl,rfl,rfl,by simp[ChangeMaps.setBlock],fun _ _=>.inl rfl,fun _ _=>Nat.le_refl _,fun _ _ _ _=>rfl,fun b' _ h _=>ChangeMaps.heap_setBlock_other hb o (hne b' h),
  fun b' _ j hj=>World.cell?_of_block (w:=w) (ChangeMaps.heap_setBlock_other hb o (fun e=>by have e':b'=b:=e;rw[e',hk]at hj;omega))⟩
theorem R8(c:List Ask)(v u:Cmd)(x:Bal)(k:Nat)(h:∀ y∈c,v≠y.1):E9 (c++[(v,x,k)]) u=if u=v then some x else E9 c u:=by
 unfold E9;rw[List.find?_append];by_cases e:u=v
 ·subst e;have hn:c.find? (fun y=>decide (u=y.1))=none:=by
   rw[List.find?_eq_none];intro y hy;simp[h y hy]
  simp[hn]
 ·rw[if_neg e];simp[e]
theorem TG(a d:List Ask)(v u:Cmd)(x y:Bal)(k:Nat)(h:∀ y∈a,v≠y.1):E9 (a++(v,y,k)::d) u=if u=v then some y else E9 (a++(v,x,k)::d) u:=by
 unfold E9;rw[List.find?_append,List.find?_append,List.find?_cons,List.find?_cons];by_cases e:u=v
 ·subst e;have hn:a.find? (fun y=>decide (u=y.1))=none:=by
   rw[List.find?_eq_none];intro y hy;simp[h y hy]
  simp[hn]
 ·rw[if_neg e];simp[e]
theorem TH(a d:List Ask)(v u:Cmd)(x:Bal)(k:Nat)(h:∀ y∈a,v≠y.1)(h2:∀ y∈d,v≠y.1):E9 (a++d) u=if u=v then none else E9 (a++(v,x,k)::d) u:=by
 unfold E9;rw[List.find?_append,List.find?_append,List.find?_cons];by_cases e:u=v
 ·subst e;have hn:a.find? (fun y=>decide (u=y.1))=none:=by
   rw[List.find?_eq_none];intro y hy;simp[h y hy]
  have hn2:d.find? (fun y=>decide (u=y.1))=none:=by
   rw[List.find?_eq_none];intro y hy;simp[h2 y hy]
  simp[hn,hn2]
 ·rw[if_neg e];simp[e]
theorem VN{g:Gh}{w:World}{τ:Tg}{b:Nat}{f:Cmd→Option Bal}(h:AskAt g w τ b f)(v:Cmd)(x:Bal):∃ w',(Instr.mapUpdate 127 (.map (some b)) (cmG v) (IC x)).run prog w=.ok () w'∧AskAt g w' τ b (DK f v (some x))∧(∀ B T,τ∈T→Cg B T g w g w')∧w'.heap.size=w.heap.size:=by
 obtain⟨ht,hkp,c,k,hb,hk,hn1,hn2,hf⟩:=h;have hg:(getObj b).run prog w=.ok (.map (c.map mkA).toArray k) w:=by simp[getObj,Sem.run,hb]
 rcases IT v c 0 with⟨h1,h2,h3⟩|⟨a,y,d,rfl,hy,h3,h1,h2⟩
 ·have hs:=MapKept.run_setObj_map (P:=prog) (w:=w) (.map ((c++[(v,x,k)]).map mkA).toArray (k+1)) hb;refine⟨_,?_,⟨ht,hkp,c++[(v,x,k)],k+1,ChangeMaps.heap_setBlock_same hb (.map ((c++[(v,x,k)]).map mkA).toArray (k+1)),?_,?_,?_,?_⟩,fun B T hT=>Cg.block hb ht hkp hT _,by simp[ChangeMaps.setBlock]⟩
  ·have he:((c.map mkA).toArray.push { key:=cmG v,val:=IC x,born:=k })=((c++[(v,x,k)]).map mkA).toArray:=by simp[mkA,cmG,IC,cmV]
   rw[Instr.mapUpdate];simp only[Sem.run_bind,run_underlying underlying127,Result.andThen_ok,hg,DQ,Fr,h1,he,hs];rfl
  ·intro y hy;rcases List.mem_append.1 hy with hy|hy
   ·have:=hk y hy;omega
   ·obtain rfl:y=(v,x,k):=by simpa using hy
    show k<k+1;omega
  ·rw[List.map_append,List.nodup_append];refine⟨hn1,by simp,?_⟩;intro p hp q hq;obtain⟨y,hy,rfl⟩:=List.mem_map.1 hp;obtain rfl:q=k:=by simpa using hq
   have:=hk y hy;omega
  ·rw[List.map_append,List.nodup_append];refine⟨hn2,by simp,?_⟩;intro p hp q hq;obtain⟨y,hy,rfl⟩:=List.mem_map.1 hp;obtain rfl:q=v:=by simpa using hq
   exact fun e=>h3 y hy e.symm
  ·intro u;rw[show(List.find? (fun x=>decide (u=x.1)) (c++[(v,x,k)])).map (·.2.1)=E9 (c++[(v,x,k)]) u from rfl,R8 c v u x k h3];unfold DK;split
   ·rfl
   ·exact hf u
 ·obtain⟨yv,yb,yk⟩:=y;simp only at hy;subst hy;have hs:=MapKept.run_setObj_map (P:=prog) (w:=w) (.map ((a++(yv,x,yk)::d).map mkA).toArray k) hb;refine⟨_,?_,⟨ht,hkp,a++(yv,x,yk)::d,k,ChangeMaps.heap_setBlock_same hb (.map ((a++(yv,x,yk)::d).map mkA).toArray k),?_,?_,?_,?_⟩,fun B T hT=>Cg.block hb ht hkp hT _,by simp[ChangeMaps.setBlock]⟩
  ·have hx:((a++(yv,yb,yk)::d).map mkA).toArray[a.length]?=some (mkA (yv,yb,yk)):=by simp
   have he:(((a++(yv,yb,yk)::d).map mkA).toArray.modify a.length fun e=>{ e with key:=cmG yv,val:=IC x })=((a++(yv,x,yk)::d).map mkA).toArray:=by
    apply Array.ext_getElem?;intro i;rw[Array.getElem?_modify];split
    ·rename_i hi
     subst hi;simp[mkA,cmG,IC,cmV]
    ·rename_i hi
     simp only[List.getElem?_toArray,List.map_append,List.map_cons];rcases Nat.lt_or_ge i a.length with g|g
     ·rw[List.getElem?_append_left (by simpa using g),List.getElem?_append_left (by simpa using g)]
     ·rw[List.getElem?_append_right (by simpa using g),List.getElem?_append_right (by simpa using g)];obtain⟨q,hq⟩:∃ q,i-(a.map mkA).length=q+1:=⟨i-a.length-1,by simp;omega⟩;rw[hq];rfl
   have hst:=Vi yv w;rw[Instr.mapUpdate];simp only[Sem.run_bind,run_underlying underlying127,Result.andThen_ok,hg,DQ,Fr,h1,Nat.zero_add,hx,Option.map_some,Option.getD_some];rw[QF,hst,Result.andThen_ok,he,hs];rfl
  ·intro y hy;rcases List.mem_append.1 hy with hy|hy
   ·exact hk y (List.mem_append_left _ hy)
   ·rcases List.mem_cons.1 hy with rfl|hy
    ·exact hk (yv,yb,yk) (by simp)
    ·exact hk y (List.mem_append_right _ (List.mem_cons_of_mem _ hy))
  ·simpa using hn1
  ·simpa using hn2
  ·intro u;rw[show(List.find? (fun x=>decide (u=x.1)) (a++(yv,x,yk)::d)).map (·.2.1)=E9 (a++(yv,x,yk)::d) u from rfl,TG a d yv u yb x yk h3];unfold DK;split
   ·rfl
   ·exact hf u
theorem VM{g:Gh}{w:World}{τ:Tg}{b:Nat}{f:Cmd→Option Bal}(h:AskAt g w τ b f)(v:Cmd)(ty:TypeId):∃ w',(Builtin.delete_ #[127,25] ty #[.map (some b),cmG v]).run prog w=.ok (.tuple #[]) w'∧AskAt g w' τ b (DK f v none)∧(∀ B T,τ∈T→Cg B T g w g w')∧w'.heap.size=w.heap.size:=by
 obtain⟨ht,hkp,c,k,hb,hk,hn1,hn2,hf⟩:=h;have hg:(getObj b).run prog w=.ok (.map (c.map mkA).toArray k) w:=by simp[getObj,Sem.run,hb]
 rcases IT v c 0 with⟨h1,h2,h3⟩|⟨a,y,d,rfl,hy,h3,h1,h2⟩
 ·have hs:=MapKept.run_setObj_map (P:=prog) (w:=w) (.map (c.map mkA).toArray k) hb;refine⟨_,?_,⟨ht,hkp,c,k,ChangeMaps.heap_setBlock_same hb (.map (c.map mkA).toArray k),hk,hn1,hn2,?_⟩,fun B T hT=>Cg.block hb ht hkp hT _,by simp[ChangeMaps.setBlock]⟩
  ·simp[Builtin.delete_,run_underlying underlying127,hg,DQ,Fr,h1,hs];rfl
  ·intro u;unfold DK;split
   ·rename_i e;rw[e];exact h2.symm
   ·exact hf u
 ·obtain⟨yv,yb,yk⟩:=y;simp only at hy;subst hy;have hs:=MapKept.run_setObj_map (P:=prog) (w:=w) (.map ((a++d).map mkA).toArray k) hb;have h4:∀ y∈d,yv≠y.1:=by
   intro y hy e;rw[List.map_append,List.map_cons,List.nodup_append]at hn2
   exact(List.nodup_cons.1 hn2.2.1).1 (List.mem_map.2 ⟨y,hy,e.symm⟩)
  refine⟨_,?_,⟨ht,hkp,a++d,k,ChangeMaps.heap_setBlock_same hb (.map ((a++d).map mkA).toArray k),?_,?_,?_,?_⟩,fun B T hT=>Cg.block hb ht hkp hT _,by simp[ChangeMaps.setBlock]⟩
  ·have he:(((a++(yv,yb,yk)::d).map mkA).toArray.eraseIdxIfInBounds a.length)=((a++d).map mkA).toArray:=by
    rw[Array.eraseIdxIfInBounds,dif_pos (by simp)];simp[List.eraseIdx_append_of_length_le]
   have hF:=Fr yv w (a++(yv,yb,yk)::d);rw[h1,Nat.zero_add]at hF
   simp only[Builtin.delete_,List.getElem?_toArray,List.getElem?_cons_zero,List.getElem?_cons_succ,Sem.run_bind,run_underlying underlying127,Result.andThen_ok,hg,DQ,hF,he,hs];rfl
  ·intro y hy;rcases List.mem_append.1 hy with hy|hy
   ·exact hk y (List.mem_append_left _ hy)
   ·exact hk y (List.mem_append_right _ (List.mem_cons_of_mem _ hy))
  ·rw[List.map_append,List.map_cons]at hn1
   rw[List.map_append];exact hn1.sublist (List.Sublist.append_left (List.sublist_cons_self _ _) _)
  ·rw[List.map_append,List.map_cons]at hn2
   rw[List.map_append];exact hn2.sublist (List.Sublist.append_left (List.sublist_cons_self _ _) _)
  ·intro u;rw[show(List.find? (fun x=>decide (u=x.1)) (a++d)).map (·.2.1)=E9 (a++d) u from rfl,TH a d yv u yb yk h3 h4];unfold DK;split
   ·rfl
   ·exact hf u
section
variable{fn:Func}{R:Ending→World→Prop}{B:Nat}{T:List Tg}{g:Gh}{w:World}
theorem US{g:Gh}{w:World}{τ:Tg}{b:Nat}{f:Cmd→Option Bal}(h:AskAt g w τ b f)(v:Cmd):(Instr.lookup 127 (.map (some b)) (cmG v) true).run prog w=.ok (.tuple #[IC ((f v).getD Co),.bool (f v).isSome]) w:=XL h v true
theorem YK{g:Gh}{w:World}{τ:Tg}{b:Nat}{f:Cmd→Option Bal}(h:AskAt g w τ b f)(v:Cmd):(Instr.lookup 127 (.map (some b)) (cmG v) false).run prog w=.ok (IC ((f v).getD Co)) w:=XL h v false
theorem Q6{s:Xs}(i':Nat){τ:Tg}{b:Nat}{f:Cmd→Option Bal}(v:Cmd)(x:Bal)(h:AskAt g w τ b f)(hsem:Dv s i'=some (Instr.mapUpdate 127 (.map (some b)) (cmG v) (IC x)>>=fun _=>pure .skip))
  (hob:(nxt s i' undef s.L).o.map Ob.l'=(nxt s i' undef s.L).o.map Ob.r')(hT:s.L.all (fun y=>[τ].all fun t=>y.t.ne t)=true)
  (hk:∀ w',AskAt g w' τ b (DK f v (some x))→(∀ B T,τ∈T→Cg B T g w g w')→GG prog fn R B T (nxt s i' undef s.L).s g w'):GG prog fn R B T s g w:=by
 refine Jw i' s.L hob (BA hsem) fun hK ops i o hop=>?_;obtain⟨w',hr,h2,h3,h4⟩:=VN h v x;refine⟨undef,w',g,.inr ⟨?_,rfl⟩,hK.ch (h3 _ [τ] (List.mem_singleton.2 rfl)) (fun b hb=>hK.new b (by rw[h4]at hb;exact hb)) hT,hk w' h2 h3⟩;rw[CI hsem hop,Sem.run_bind,hr,Result.andThen_ok];rfl
theorem Wk{s:Xs}(i':Nat){τ:Tg}{b:Nat}{f:Cmd→Option Bal}(v:Cmd)(ty:TypeId)(h:AskAt g w τ b f)(hsem:Dv s i'=some (Builtin.delete_ #[127,25] ty #[.map (some b),cmG v]>>=fun v=>pure (.value v)))
  (hob:(nxt s i' undef s.L).o.map Ob.l'=(nxt s i' undef s.L).o.map Ob.r')(hT:s.L.all (fun y=>[τ].all fun t=>y.t.ne t)=true)
  (hk:∀ w',AskAt g w' τ b (DK f v none)→(∀ B T,τ∈T→Cg B T g w g w')→GG prog fn R B T (nxt s i' (.tuple #[]) s.L).s g w'):GG prog fn R B T s g w:=by
 refine Jw i' s.L hob (BA hsem) fun hK ops i o hop=>?_;obtain⟨w',hr,h2,h3,h4⟩:=VM h v ty;refine⟨.tuple #[],w',g,.inl ?_,hK.ch (h3 _ [τ] (List.mem_singleton.2 rfl)) (fun b hb=>hK.new b (by rw[h4]at hb;exact hb)) hT,hk w' h2 h3⟩;rw[CI hsem hop,Sem.run_bind,hr,Result.andThen_ok];rfl
end
def TO:List Tg:=[.n 50 0,.n 51 0,.n 52 0]
theorem Va{g:Gh}{w:World}{i nb ob:Nat}{x:NX}{p:Nod}{lt tl:S3}{ls:List Let}{ts:List Tol}(hN:NodeAt g w i nb ob x p)(hO:OutAt g w ob lt tl ls ts)(hg:Hc g w)(hb:ls.length<100000000)(l:Let)(vs wh:S3)(hv:FSv g w vs l.votes)(hw:Rc g w wh l.what)(to:Nat) :
  Calls prog 149 #[pt nb 0,iv (to:Int),.agg (Ek l vs wh)] w fun e w'=>∃ g' lt',e=.returned (.tuple #[])∧OutAt g' w' ob lt' tl (ls++[{ l with src:=i,dst:=to }]) ts∧Cg w.heap.size TO g w g' w'∧Hc g' w':=by
 obtain⟨bs,hL,hLs⟩:=hO.lets;have hln:lt.n=ls.length:=by have:=hL.len;have:=hLs.len;simp at *;omega
 refine gIn (fn:=f149) TO g func149 (by kernel_rfl) (by kernel_rfl) hg ?_;refine qN hN ?_;refine qO hO ?_;refine qR [] 29 [0,0,0,2,0,2,0,15,0,2,4,6,0,8,10,12,14,0,16,18,20,1,23,0,0] fun s1 g1 w1 c1=>?_;refine F4 12 (x:=lt) 102 102 178 1 8 (.pointer none) ⟨(s1 1),0,none⟩ 1 1 [pt (s1 0) 0] (hL.ch c1 (by simp) (by simp)) (by kernel_rfl) (by kernel_rfl) (by kernel_rfl) underlying102 (by kernel_rfl) (by kernel_rfl) (by decide) (by decide) rfl (by simp[Value.oneCell']) (fun K=>CB K 3 (s1 1) [pt (s1 0) 0] 178 .z true (by kernel_rfl)) (by rw[hln];unfold maxLen;omega) (by rw[hln];omega) ?_;intro y2 g2 w2 a2 n2 cc2 G2;have c2:=cc2 w.heap.size [.n 51 0] (List.mem_singleton.2 rfl);refine qR [.n 50 0] 4 [26,28,31,1,1] fun s3 g3 w3 c3=>?_;refine qE (.tuple #[]) fun K=>?_;obtain⟨q1,q2,q3⟩:=K.isN 1 ob (.cells #[S3.v y2,S3.v tl] 104) 50 0 (by kernel_rfl);obtain⟨q4,q5⟩:=K.isZ 2 (s1 0) (.cells (Ek { l with src:=i,dst:=to } vs wh) 177) false (by kernel_rfl);have hz:∀ r,Tg.z∉[Tg.n r 0]:=fun r=>by simp
 refine⟨_,y2,rfl,⟨q1,q2,q3,⟨bs++[(s1 0)],?_,?_⟩,(((hO.told.ch c1 (by simp) (by simp)).ch c2 (by simp) (by simp)).ch c3 (by simp) (by simp))⟩,(((c1.nil TO).trans (c2.mono (by simp[TO]))).trans (c3.mono (by simp[TO]))),K.new⟩
 ·rw[List.map_append];exact a2.ch c3 (by simp) (by simp)
 ·refine(((hLs.ch c1 (by simp)).ch c2 (hz _)).ch c3 (hz _)).snoc ⟨vs,wh,⟨q4,q5⟩,(((hv.ch c1 (by simp)).ch c2 (hz _)).ch c3 (hz _)),(((hw.ch c1 (by simp)).ch c2 (hz _)).ch c3 (hz _))⟩
theorem AJ{g:Gh}{w:World}{i nb ob:Nat}{p:Nod}{ls:List Let}{ts:List Tol}(h:NS i nb ob g w p ls ts)(hb:p.pend.length<100000000)(fv:Fn)(cv:Array Value)(q:Pend)(hv:Ja g w nb (.func fv #[] cv) q) :
  Calls prog 114 #[pt nb 0,.func fv #[] cv] w (NP i nb ob g w (.tuple #[]) (p.wait q) ls ts):=by
 obtain⟨x,lt,tl,hN,hO,hg⟩:=h;obtain⟨vs,hP,hPs⟩:=hN.pend;have hn:x.synced.n=p.pend.length:=by have:=hP.len;have:=hPs.len;simp at *;omega
 refine gIn (fn:=f114) (TN i) g func114 (by kernel_rfl) (by kernel_rfl) hg ?_;refine qN hN ?_;refine qO hO ?_;refine qR [] 9 [0,0,0] fun s1 g1 w1 c1=>?_;refine F4 8 (x:=x.synced) 116 116 1 1 8 (.nilFunc) ⟨(s1 0),0,none⟩ 1 1 [.func fv #[] cv] (hP.ch c1 (by simp) (by simp)) (by kernel_rfl) (by kernel_rfl) (by kernel_rfl) underlying116 (by kernel_rfl) (by kernel_rfl) (by decide) (by decide) rfl (by simp[Value.oneCell']) (fun K=>CB K 2 (s1 0) [.func fv #[] cv] 1 .z true (by kernel_rfl)) (by rw[hn];unfold maxLen;omega) (by rw[hn];omega) ?_;intro y2 g2 w2 a2 n2 cc2 G2;have c2:=cc2 w.heap.size [.n 1 i] (List.mem_singleton.2 rfl);refine qR [.n 0 i] 5 [0,1] fun s3 g3 w3 c3=>?_;refine qE (.tuple #[]) fun K=>?_;have C4:Cg w.heap.size ([.n 1 i,.n 0 i]:List Tg) g w g3 w3:=(((c1.nil ([.n 1 i,.n 0 i]:List Tg)).trans (c2.mono (by simp))).trans (c3.mono (by simp)));have Z4:Tg.z∉([.n 1 i,.n 0 i]:List Tg):=by simp
 exact⟨_,rfl,⟨{ x with synced:=y2 },lt,tl,K.nd 0 (hN.tape.ch C4 Z4) (hN.votes.ch C4 Z4) (AZ hN.heard C4 Z4) ⟨vs++[.func fv #[] cv],a2.ch c3 (by simp) (by simp),(hPs.ch C4 Z4).snoc (hv.ch C4 Z4)⟩ (hN.queue.ch C4 (by simp) (by simp)) (hN.agreed.ch C4 (by simp) (by simp)) (hN.wants.ch C4 (by simp) (by simp)) (hN.asked.ch C4 (by simp)) hN.upm,hO.ch C4 Z4 (by simp<;>omega),K.new⟩,(((c1.nil (TN i)).trans (c2.mono (by simp[TN]))).trans (c3.mono (by simp[TN])))⟩
theorem O1{g:Gh}{w:World}{i nb ob:Nat}{p:Nod}{ls:List Let}{ts:List Tol}(h:NS i nb ob g w p ls ts)(hb:ts.length<100000000)(c:Cmd)(ae aa:Int) :
  Calls prog 111 #[pt nb 0,.agg (cmC c),.agg #[iv ae,iv aa]] w (NP i nb ob g w (.tuple #[]) p ls (ts++[⟨i,c.c,c.s,ae,aa⟩])):=by
 obtain⟨x,lt,tl,hN,hO,hg⟩:=h;have hn:tl.n=ts.length:=by have h1:=hO.told.len;rw[Fe]at h1;omega
 refine gIn (fn:=f111) (TN i) g func111 (by kernel_rfl) (by kernel_rfl) hg ?_;refine qN hN ?_;refine qO hO ?_;refine qR [] 28 [0,0,0,0,25,0,2,4,6,0,8,10,12,14,0,16,18,20,1,22,24,26,28,0,30,32,2,34,36,2,38,3,40,43,0,0] fun s1 g1 w1 c1=>?_;refine F4 22 (x:=tl) 41 41 140 5 40 (.agg #[iv 0,iv 0,iv 0,iv 0,iv 0]) ⟨(s1 2),0,none⟩ 1 1 [iv (i:Int),iv c.c,iv c.s,iv ae,iv aa] (hO.told.ch c1 (by simp) (by simp)) (by kernel_rfl) (by kernel_rfl) (by kernel_rfl) underlying41 (by kernel_rfl) (by kernel_rfl) (by decide) (by decide) rfl (by simp[Value.oneCell']) (fun K=>CB K 4 (s1 2) [iv (i:Int),iv c.c,iv c.s,iv ae,iv aa] 140 .z true (by kernel_rfl)) (by rw[hn];unfold maxLen;omega) (by rw[hn];omega) ?_;intro y2 g2 w2 a2 n2 cc2 G2;have c2:=cc2 w.heap.size [.n 52 0] (List.mem_singleton.2 rfl);refine qR [.n 50 0] 4 [46,48,51,1,1] fun s3 g3 w3 c3=>?_;refine qE (.tuple #[]) fun K=>?_;have C4:Cg w.heap.size ([.n 52 0,.n 50 0]:List Tg) g w g3 w3:=(((c1.nil ([.n 52 0,.n 50 0]:List Tg)).trans (c2.mono (by simp))).trans (c3.mono (by simp)));have Z4:Tg.z∉([.n 52 0,.n 50 0]:List Tg):=by simp
 exact⟨_,rfl,⟨x,lt,y2,K.ndu 0 hN C4,K.od 1 (CW hO.lets C4 Z4 (by simp)) (by rw[List.flatMap_append];exact a2.ch c3 (by simp) (by simp)),K.new⟩,(((c1.nil (TN i)).trans (c2.mono (by simp[TN]))).trans (c3.mono (by simp[TN])))⟩
theorem q9z{g:Gh}{w:World}{i nb ob:Nat}{p:Nod}{ls:List Let}{ts:List Tol}(h:NS i nb ob g w p ls ts)(lb:Nat)(l:Let)(hl:BW g w lb l) :
  Calls prog 104 #[pt nb 0,pt lb 0] w (NP i nb ob g w (.tuple #[]) { p with rounds:=max p.rounds l.bal.r } ls ts):=by
 obtain⟨x,lt,tl,hN,hO,hg⟩:=h;refine gIn (fn:=f104) (TN i) g func104 (by kernel_rfl) (by kernel_rfl) hg ?_;refine qN hN ?_;refine qO hO ?_;obtain⟨vs,wh,hl1,hl2,hl3⟩:=hl;refine Bj ⟨lb,_,.z,false⟩ (fun _=>⟨hl1.r,hl1.z,fun h=>(by cases h),fun h=>absurd rfl h⟩) (by kernel_rfl) ?_;refine qR [] 12 [15,0,2,4,6,8,10,0,12,14,16,18,20,2] fun s1 g1 w1 c1=>?_;refine qT 11 (iv (max p.rounds l.bal.r)) (fun _=>(q8z #[3,3] 3 p.rounds l.bal.r)) ?_;refine qR [.n 0 i] 5 [24,26,28,31,0,1] fun s2 g2 w2 c2=>?_;refine qE (.tuple #[]) fun K=>?_;have C3:Cg w.heap.size ([.n 0 i]:List Tg) g w g2 w2:=((c1.nil ([.n 0 i]:List Tg)).trans (c2));have Z3:Tg.z∉([.n 0 i]:List Tg):=by simp
 exact⟨_,rfl,⟨x,lt,tl,K.ndu 0 hN C3,hO.ch C3 Z3 (by simp<;>omega),K.new⟩,((c1.nil (TN i)).trans (c2.mono (by simp[TN])))⟩
theorem Ez{g:Gh}{w:World}{i nb ob:Nat}{p:Nod}{ls:List Let}{ts:List Tol}(h:NS i nb ob g w p ls ts)(hb:ls.length<100000000)(l:Let)(vs wh:S3)(hv:FSv g w vs l.votes)(hw:Rc g w wh l.what)(to:Nat) :
  Calls prog 149 #[pt nb 0,iv (to:Int),.agg (Ek l vs wh)] w (NP i nb ob g w (.tuple #[]) p (ls++[{ l with src:=i,dst:=to }]) ts):=by
 obtain⟨x,lt,tl,hN,hO,hg⟩:=h;refine(Va hN hO hg hb l vs wh hv hw to).mono ?_;rintro e w' ⟨g',lt',rfl,h1,h2,h3⟩;exact⟨g',rfl,⟨x,lt',tl,hN.ch h2 (by simp[TO]) (fun r hr=>by simp[TO];omega),h1,h3⟩,h2.mono (by simp[TO,TN])⟩
def BG(i:Nat)(l:Let)(k:Nat):List Let:=((List.range k).filter fun j=>decide (j≠i)).map fun to=>{ l with src:=i,dst:=to }
theorem Vd{i:Nat}{l:Let}{k:Nat}(h:k≠i):BG i l (k+1)=BG i l k++[{ l with src:=i,dst:=k }]:=by unfold BG;rw[List.range_succ,List.filter_append,List.map_append];simp[h]
theorem Vb{i:Nat}{l:Let}{k:Nat}(h:k=i):BG i l (k+1)=BG i l k:=by unfold BG;rw[List.range_succ,List.filter_append,List.map_append];simp[h]
theorem Vc(i:Nat)(l:Let)(k:Nat):(BG i l k).length≤k:=by unfold BG;rw[List.length_map];exact Nat.le_trans (List.length_filter_le _ _) (by simp)
theorem Dw{g:Gh}{w:World}{i nb ob:Nat}{p:Nod}{ls:List Let}{ts:List Tol}(h:NS i nb ob g w p ls ts)(hb:ls.length<90000000)(l:Let)(vs wh:S3)(hv:FSv g w vs l.votes)(hw:Rc g w wh l.what) :
  Calls prog 117 #[pt nb 0,.agg (Ek l vs wh)] w (NP i nb ob g w (.tuple #[]) p (ls++BG i l 5) ts):=by
 obtain⟨x,lt,tl,hN,hO,hg⟩:=h;refine gIn (fn:=f117) (TN i) g func117 (by kernel_rfl) (by kernel_rfl) hg ?_;refine qN hN ?_;refine qO hO ?_;refine qR [] 9 [0,0] fun s1 g1 w1 c1=>?_;refine BE 19 [(0,pt nb 0),(3,pt (s1 0) 0),(5,iv 0)] [false,false,true] [⟨(s1 0),.cells #[iv (l.kind:Int),iv (l.src:Int),iv (l.dst:Int),iv l.bal.r,iv l.bal.n,iv l.vote.slot,iv l.vote.b.r,iv l.vote.b.n,iv l.vote.w.k,iv l.vote.w.c,iv l.vote.w.s,iv l.vote.w.n,iv l.vote.w.v,S3.v vs,iv (l.slot:Int),S3.v wh] 177,.z,false⟩] (fun k g' w' e L=>∃ j:Nat,k=5-j∧j≤5∧e=[(0,pt nb 0),(3,pt (s1 0) 0),(5,iv (j:Int))]∧L=[⟨(s1 0),.cells #[iv (l.kind:Int),iv (l.src:Int),iv (l.dst:Int),iv l.bal.r,iv l.bal.n,iv l.vote.slot,iv l.vote.b.r,iv l.vote.b.n,iv l.vote.w.k,iv l.vote.w.c,iv l.vote.w.s,iv l.vote.w.n,iv l.vote.w.v,S3.v vs,iv (l.slot:Int),S3.v wh] 177,.z,false⟩]∧NS i nb ob g' w' p (ls++BG i l j) ts∧Cg w.heap.size (TN i) g w g' w') (by kernel_rfl) (by kernel_rfl) (by kernel_rfl) (by kernel_rfl) 5 (fun K=>?_) ?_
 ·have C2:Cg w.heap.size ([]:List Tg) g w g1 w1:=(c1.nil ([]:List Tg));have Z2:Tg.z∉([]:List Tg):=by simp
  refine⟨0,rfl,by omega,rfl,rfl,?_,c1.nil _⟩;rw[show BG i l 0=[]from rfl,List.append_nil];exact⟨x,lt,tl,hN.ch C2 Z2 (by simp),hO.ch C2 Z2 (by simp),K.new⟩
 ·rintro k gr wr _ zr _ ⟨j,rfl,hj,rfl,rfl,hM,hC⟩ J hJ;have hs:=Vc i l j;obtain⟨xr,ltr,tlr,hNr,hOr,hgr⟩:=hM;refine qN hNr ?_;refine qO hOr ?_;refine qR [] 5 [] fun s3 g3 w3 c3=>?_;by_cases h1:j<5
  ·refine qI (decide ((j:Int)<5)) true (decide_eq_true (by omega)) ?_;refine qR [] 17 [1] fun s4 g4 w4 c4=>?_;by_cases h2:(j:Int)≠(i:Int)
   ·refine qI (((j:Int) != (i:Int))) true (by simpa using h2) ?_;refine qR [] 4 [0] fun s5 g5 w5 c5=>?_;have C0:=hC.trans (((c3.nil (TN i)).trans (c4.nil (TN i))).trans (c5.nil (TN i)));refine Ae fun K=>?_;have C7:Cg w.heap.size ([]:List Tg) gr wr g5 w5:=(((c3.nil ([]:List Tg)).trans (c4.nil ([]:List Tg))).trans (c5.nil ([]:List Tg)));have Z7:Tg.z∉([]:List Tg):=by simp
    have N6:NS i nb ob g5 w5 p (ls++BG i l j) ts:=⟨xr,ltr,tlr,hNr.ch C7 Z7 (by simp),hOr.ch C7 Z7 (by simp),K.new⟩;refine qG 3 (TN i) [true,false,false] (Ez N6 (by simp;omega) l vs wh (hv.ch C0 (AV i)) (hw.ch C0 (AV i)) j) ?_;rintro e' w6 ⟨g6,rfl,M6,c6⟩;refine⟨_,g6,rfl,c6,M6.new,?_⟩;replace c6:=c6.ret (B:=w.heap.size);rw[List.append_assoc,← Vd (by omega)]at M6
    obtain⟨x6,lt6,tl6,hN6,hO6,hg6⟩:=M6;refine qN hN6 ?_;refine qO hO6 ?_;refine qR [] 3 [] fun s8 g8 w8 c8=>?_;refine qV 0 (iv ((j:Int)+1)) (B7 (x:=(.tmp 5)) (y:=(.const (iv 1))) (j:Int) 1 underlying3 (by omega)) ?_;refine qR [] 2 [] fun s9 g9 w9 c9=>?_;refine qB [true,false,false] fun z K0 K=>hJ (5-(j+1)) _ _ _ z _ (by omega) ⟨j+1,rfl,by omega,rfl,rfl,?_,hC.trans ((((((c3.nil (TN i)).trans (c4.nil (TN i))).trans (c5.nil (TN i))).trans (c6)).trans (c8.nil (TN i))).trans (c9.nil (TN i)))⟩ K;have C10:Cg w.heap.size ([]:List Tg) g6 w6 g9 w9:=((c8.nil ([]:List Tg)).trans (c9.nil ([]:List Tg)));have Z10:Tg.z∉([]:List Tg):=by simp
    have hst:NS i nb ob g9 w9 p (ls++BG i l (j+1)) ts:=⟨x6,lt6,tl6,hN6.ch C10 Z10 (by simp),hO6.ch C10 Z10 (by simp),K0.new⟩;exact hst
   ·refine qI (((j:Int) != (i:Int))) false (by simpa using h2) ?_;refine qR [] 3 [] fun s11 g11 w11 c11=>?_;refine qV 0 (iv ((j:Int)+1)) (B7 (x:=(.tmp 5)) (y:=(.const (iv 1))) (j:Int) 1 underlying3 (by omega)) ?_;refine qR [] 2 [] fun s12 g12 w12 c12=>?_;refine qB [true,false,false] fun z K0 K=>hJ (5-(j+1)) _ _ _ z _ (by omega) ⟨j+1,rfl,by omega,rfl,rfl,?_,hC.trans ((((c3.nil (TN i)).trans (c4.nil (TN i))).trans (c11.nil (TN i))).trans (c12.nil (TN i)))⟩ K;have C13:Cg w.heap.size ([]:List Tg) gr wr g12 w12:=((((c3.nil ([]:List Tg)).trans (c4.nil ([]:List Tg))).trans (c11.nil ([]:List Tg))).trans (c12.nil ([]:List Tg)));have Z13:Tg.z∉([]:List Tg):=by simp
    have hst:NS i nb ob g12 w12 p (ls++BG i l j) ts:=⟨xr,ltr,tlr,hNr.ch C13 Z13 (by simp),hOr.ch C13 Z13 (by simp),K0.new⟩;exact(by simpa[Vb (show j=i by omega)]using hst)
  ·refine qI (decide ((j:Int)<5)) false (decide_eq_false (by omega)) ?_;refine qR [] 1 [] fun s14 g14 w14 c14=>?_;obtain rfl:j=5:=by omega
   refine qE (.tuple #[]) fun K=>?_;have C15:Cg w.heap.size ([]:List Tg) gr wr g14 w14:=((c3.nil ([]:List Tg)).trans (c14.nil ([]:List Tg)));have Z15:Tg.z∉([]:List Tg):=by simp
   exact⟨_,rfl,⟨xr,ltr,tlr,hNr.ch C15 Z15 (by simp),hOr.ch C15 Z15 (by simp),K.new⟩,hC.trans ((c3.nil (TN i)).trans (c14.nil (TN i)))⟩
theorem Lk{g:Gh}{w:World}{i nb ob:Nat}{p:Nod}{ls:List Let}{ts:List Tol}(h:NS i nb ob g w p ls ts) :
  Calls prog 151 #[pt nb 0] w fun e w'=>e=.returned (.bool p.leads)∧Below w.heap.size w w':=by
 obtain⟨x,lt,tl,hN,hO,hg⟩:=h;refine gIn (fn:=f151) (TN i) g func151 (by kernel_rfl) (by kernel_rfl) hg ?_;refine qN hN ?_;refine qO hO ?_;refine qR [] 13 [24,0,2,4,6,8,10,0,12] fun s1 g1 w1 c1=>?_;by_cases h1:p.rnd.bal=Co
 ·refine qT 7 (.bool false) (fun _=>(Lw (x:=(.tmp 8)) (y:=(.tmp 9)) p.rnd.bal Co h1)) ?_;refine qR [] 17 [16,18,20,22,24,26,28,30,32,34,36,38,40,42,44,46] fun s2 g2 w2 c2=>?_;exact qE (.bool false) fun K=>⟨(by rw[show p.leads=false from decide_eq_false (fun h=>h.1 h1)]),Cg.below (c1.trans c2) (fun _ _=>List.not_mem_nil)⟩
 ·refine qT 7 (.bool true) (fun _=>(Lx (x:=(.tmp 8)) (y:=(.tmp 9)) p.rnd.bal Co h1)) ?_;refine qR [] 13 [16,18,20,22,24,26,28,0,30,32,34,36,38,40,0] fun s4 g4 w4 c4=>?_;refine qT 21 (.bool (decide (p.rnd.bal=p.vo.p))) (fun _=>(bF (x:=(.tmp 17)) (y:=(.tmp 23)) p.rnd.bal p.vo.p)) ?_;refine qR [] 3 [44,46] fun s5 g5 w5 c5=>?_;exact qE (.bool (decide (p.rnd.bal=p.vo.p))) fun K=>⟨(by rw[show p.leads=decide (p.rnd.bal=p.vo.p)from decide_eq_decide.2 ⟨fun h=>h.2,fun h=>⟨h1,h⟩⟩]),Cg.below ((c1.trans c4).trans c5) (fun _ _=>List.not_mem_nil)⟩
theorem JN{g:Gh}{w:World}{i nb ob:Nat}{p:Nod}{ls:List Let}{ts:List Tol}(h:NS i nb ob g w p ls ts)(hb:p.pend.length<100000000)(to:Nat)(e:Int) :
  Calls prog 147 #[pt nb 0,iv (to:Int),iv e] w (NP i nb ob g w (.tuple #[]) (p.refuse to e) ls ts):=by
 obtain⟨x,lt,tl,hN,hO,hg⟩:=h;refine gIn (fn:=f147) (TN i) g func147 (by kernel_rfl) (by kernel_rfl) hg ?_;refine qN hN ?_;refine qO hO ?_;refine qR [] 11 [0,0,0,0] fun s1 g1 w1 c1=>?_;by_cases h1:e=7
 ·refine qI (e != 7) false (by simpa using h1) ?_;refine qR [] 15 [2,0,0,0,4,0,2] fun s2 g2 w2 c2=>?_;refine Ae fun K=>?_;obtain⟨z1,z2⟩:=K.isZ 2 (s1 0) (.cells #[pt nb 0] 107) false (by kernel_rfl);obtain⟨z3,z4⟩:=K.isZ 3 (s1 1) (.cells #[iv (to:Int)] 3) false (by kernel_rfl);obtain⟨z5,z6⟩:=K.isZ 4 (s2 0) (.cells #[iv p.vo.p.r,iv p.vo.p.n] 112) true (by kernel_rfl);have C4:Cg w.heap.size ([]:List Tg) g w g2 w2:=((c1.nil ([]:List Tg)).trans (c2.nil ([]:List Tg)));have Z4:Tg.z∉([]:List Tg):=by simp
  have N3:NS i nb ob g2 w2 p ls ts:=⟨x,lt,tl,hN.ch C4 Z4 (by simp),hO.ch C4 Z4 (by simp),K.new⟩;refine qG 2 (TN i) [false,false,true,true,true] (AJ N3 hb _ _ (.refuse to p.vo.p) ⟨(s1 0),(s1 1),(s2 0),rfl,⟨z1,z2⟩,⟨z3,z4⟩,⟨z5,z6⟩⟩) ?_;rintro e' w3 ⟨g3,rfl,M3,c3⟩;refine⟨_,g3,rfl,c3,M3.new,?_⟩;replace c3:=c3.ret (B:=w.heap.size);obtain⟨x3,lt3,tl3,hN3,hO3,hg3⟩:=M3;refine qN hN3 ?_;refine qO hO3 ?_;refine qR [] 1 [] fun s5 g5 w5 c5=>?_;refine qE (.tuple #[]) fun K=>?_;rw[show p.refuse to e=p.wait (.refuse to p.vo.p)from if_pos h1];have C6:Cg w.heap.size ([]:List Tg) g3 w3 g5 w5:=(c5.nil ([]:List Tg));have Z6:Tg.z∉([]:List Tg):=by simp
  exact⟨_,rfl,⟨x3,lt3,tl3,hN3.ch C6 Z6 (by simp),hO3.ch C6 Z6 (by simp),K.new⟩,((((c1.nil (TN i)).trans (c2.nil (TN i))).trans (c3)).trans (c5.nil (TN i)))⟩
 ·refine qI (e != 7) true (by simpa using h1) ?_;refine qE (.tuple #[]) fun K=>?_;rw[show p.refuse to e=p from if_neg h1];have C8:Cg w.heap.size ([]:List Tg) g w g1 w1:=(c1.nil ([]:List Tg));have Z8:Tg.z∉([]:List Tg):=by simp
  exact⟨_,rfl,⟨x,lt,tl,hN.ch C8 Z8 (by simp),hO.ch C8 Z8 (by simp),K.new⟩,(c1.nil (TN i))⟩
end Go.Proofs.YtakgfdbjgeopdaaGreatDoor
