/- Part 15 of the walk. -/
import Derived.Test.YtaeckakjdagddadGreatDoorZ14
set_option maxRecDepth 100000
set_option maxHeartbeats 4000000
open Go.Proofs.Tryz
set_option linter.unusedVariables false
namespace Go.Proofs.YtaeckakjdagddadGreatDoor
open Go.RowKit
def cmG(c:Cmd):Value:=.agg #[iv c.k,iv c.c,iv c.s,iv c.n,iv c.v]
theorem So(x:Cmd × Bal × Nat):(mkA x).key=cmG x.1:=rfl
theorem VF(u v:Cmd)(w:World):(Op.equal 44 (cmG u) (cmG v)).run prog w=.ok (decide (u=v)) w:=by
 have h1:=RV u.k u.c u.s u.n u.v v.k v.c v.s v.n v.v w;rw[RQ]at h1
 rw[run_eql_struct]at h1
 show(Op.equalIn 10000 _ _ _).run _ _=_;simp only[cmG];cases hr:(Op.equalIn 10000 44 (.agg #[iv u.k,iv u.c,iv u.s,iv u.n,iv u.v]) (.agg #[iv v.k,iv v.c,iv v.s,iv v.n,iv v.v])).run prog w with
 | ok b w'=>simp only[hr]at h1;simp[Result.andThen]at h1;rw[h1.1,h1.2]
 | _=>simp only[hr]at h1;simp[Result.andThen]at h1
abbrev Ask:=Cmd × Bal × Nat
def Kf(v:Cmd):List Ask→Nat→Option (Nat × Value)
 | [],_=>none
 | x::c,i=>if v=x.1 then some (i,(mkA x).val)else Kf v c (i+1)
theorem LO(v:Cmd)(w:World):∀ (c:List Ask) (i:Nat),(Instr.findAsking 44 (cmG v) (c.map mkA) i).run prog w=.ok (Kf v c i) w
 | [],i=>by simp[Instr.findAsking,Kf]
 | x::c,i=>by
  have h:=VF v x.1 w;rw[List.map_cons,Instr.findAsking,Sem.run_bind];rw[So,h,Result.andThen_ok,Kf];by_cases e:v=x.1
  ·rw[decide_eq_true e,if_pos e];rfl
  ·rw[decide_eq_false e,if_neg e];simpa using LO v w c (i+1)
theorem FH(v:Cmd)(w:World)(c:List Ask):(Instr.findKey 44 (cmG v) (c.map mkA)).run prog w=.ok (Kf v c 0) w:=by
 rw[Instr.findKey,Sem.run_bind,run_underlying underlying44 w,Result.andThen_ok];cases c with
 | nil=>simp[Instr.findNow,Kf]
 | cons x c =>
  show Sem.run _ (match(none:Option (Option (Nat × Value)))with|some r=>pure r|none=>Instr.findAsking 44 (cmG v) ((x::c).map mkA)) w=_;exact LO v w (x::c) 0
theorem Eh(em:Bool)(v:Cmd)(w:World):(Instr.checkKey em 10000 44 (cmG v)).run prog w=.ok () w:=by
 obtain⟨k,c,q,m,x⟩:=v;kernel_rfl
theorem ZG(v:Cmd)(n:Nat):Instr.sameBits (n+1) (cmG v) (cmG v)=true:=by simp[Instr.sameBits,cmG]
theorem X1(v:Cmd)(w:World):(Instr.keyThatStays (cmG v) (cmG v)).run prog w=.ok (cmG v) w:=by
 rw[Instr.keyThatStays,if_pos (ZG v 9999)];rfl
def ET(c:List Ask)(v:Cmd):Option Bal:=(c.find? fun x=>decide (v=x.1)).map (·.2.1)
theorem J8(v:Cmd):∀ (c:List Ask) (i:Nat),(Kf v c i=none∧ET c v=none∧∀ x∈c,v≠x.1)∨∃ a x b,c=a++x::b∧x.1=v∧(∀ y∈a,v≠y.1)∧Kf v c i=some (i+a.length,(mkA x).val)∧ET c v=some x.2.1
 | [],i=>.inl ⟨rfl,rfl,fun x hx=>by cases hx⟩
 | x::c,i=>by
  by_cases e:v=x.1
  ·refine .inr ⟨[],x,c,rfl,e.symm,fun y hy=>(List.not_mem_nil hy).elim,?_,?_⟩
   ·rw[Kf,if_pos e];rfl
   ·simp[ET,e]
  ·rcases J8 v c (i+1)with⟨h1,h2,h3⟩|⟨a,y,b,rfl,hy,h3,h4,h5⟩
   ·refine .inl ⟨by rw[Kf,if_neg e,h1],?_,fun y hy=>?_⟩
    ·rw[← h2];simp[ET,e]
    ·rcases List.mem_cons.1 hy with rfl|hy
     ·exact e
     ·exact h3 y hy
   ·refine .inr ⟨x::a,y,b,rfl,hy,fun z hz=>?_,?_,?_⟩
    ·rcases List.mem_cons.1 hz with rfl|hz
     ·exact e
     ·exact h3 z hz
    ·rw[Kf,if_neg e,h4];simp;omega
    ·rw[← h5];simp[ET,e]
def Jk(b:Bal):Value:=.agg #[iv b.r,iv b.n]
theorem aW{g:Gh}{w:World}{τ:Tg}{b:Nat}{f:Cmd→Option Bal}(h:AskAt g w τ b f)(v:Cmd)(ok:Bool):(Instr.lookup 106 (.map (some b)) (cmG v) ok).run prog w=.ok (if ok then .tuple #[Jk ((f v).getD Cu),.bool (f v).isSome]else Jk ((f v).getD Cu)) w:=by
 obtain⟨_,_,c,k,hb,_,_,_,hf⟩:=h;have hf2:f v=ET c v:=hf v;have hg:(getObj b).run prog w=.ok (.map (c.map mkA).toArray k) w:=by simp[getObj,Sem.run,hb]
 rcases J8 v c 0 with⟨h1,h2,_⟩|⟨a,x,d,_,_,_,h1,h2⟩
 ·rw[h2]at hf2
  cases ok<;>simp[Instr.lookup,run_underlying underlying106,hg,Eh,FH,h1,hf2,Jk,Cu]
 ·rw[h2]at hf2
  cases ok<;>simp[Instr.lookup,run_underlying underlying106,hg,Eh,FH,h1,hf2,mkA,Jk]
theorem Cg.block{B:Nat}{T:List Tg}{g:Gh}{w:World}{b:Nat}{es:Array MapEntry}{k:Nat}{τ:Tg}(hb:w.heap[b]?=some (.map es k))(ht:g.t b=τ)(hk:g.k b=0)(hτ:τ∈T)(o:Obj):Cg B T g w g (ChangeMaps.setBlock w b o) :=
 have hne:∀ b',g.t b'∉T→b'≠b:=fun b' h e=>h (by rw[e,ht];exact hτ)
 ⟨rfl,rfl,rfl,by simp[ChangeMaps.setBlock],fun _ _=>.inl rfl,fun _ _=>Nat.le_refl _,fun _ _ _ _=>rfl,fun b' _ h _=>ChangeMaps.heap_setBlock_other hb o (hne b' h),
  fun b' _ j hj=>World.cell?_of_block (w:=w) (ChangeMaps.heap_setBlock_other hb o (fun e=>by have e':b'=b:=e;rw[e',hk]at hj;omega))⟩
theorem Tx(c:List Ask)(v u:Cmd)(x:Bal)(k:Nat)(h:∀ y∈c,v≠y.1):ET (c++[(v,x,k)]) u=if u=v then some x else ET c u:=by
 unfold ET;rw[List.find?_append];by_cases e:u=v
 ·subst e;have hn:c.find? (fun y=>decide (u=y.1))=none:=by
   rw[List.find?_eq_none];intro y hy;simp[h y hy]
  simp[hn]
 ·rw[if_neg e];simp[e]
theorem VI(a d:List Ask)(v u:Cmd)(x y:Bal)(k:Nat)(h:∀ y∈a,v≠y.1):ET (a++(v,y,k)::d) u=if u=v then some y else ET (a++(v,x,k)::d) u:=by
 unfold ET;rw[List.find?_append,List.find?_append,List.find?_cons,List.find?_cons];by_cases e:u=v
 ·subst e;have hn:a.find? (fun y=>decide (u=y.1))=none:=by
   rw[List.find?_eq_none];intro y hy;simp[h y hy]
  simp[hn]
 ·rw[if_neg e];simp[e]
theorem VJ(a d:List Ask)(v u:Cmd)(x:Bal)(k:Nat)(h:∀ y∈a,v≠y.1)(h2:∀ y∈d,v≠y.1):ET (a++d) u=if u=v then none else ET (a++(v,x,k)::d) u:=by
 unfold ET;rw[List.find?_append,List.find?_append,List.find?_cons];by_cases e:u=v
 ·subst e;have hn:a.find? (fun y=>decide (u=y.1))=none:=by
   rw[List.find?_eq_none];intro y hy;simp[h y hy]
  have hn2:d.find? (fun y=>decide (u=y.1))=none:=by
   rw[List.find?_eq_none];intro y hy;simp[h2 y hy]
  simp[hn,hn2]
 ·rw[if_neg e];simp[e]
theorem Yk{g:Gh}{w:World}{τ:Tg}{b:Nat}{f:Cmd→Option Bal}(h:AskAt g w τ b f)(v:Cmd)(x:Bal):∃ w',(Instr.mapUpdate 106 (.map (some b)) (cmG v) (Jk x)).run prog w=.ok () w'∧AskAt g w' τ b (DA f v (some x))∧(∀ B T,τ∈T→Cg B T g w g w')∧w'.heap.size=w.heap.size:=by
 obtain⟨ht,hkp,c,k,hb,hk,hn1,hn2,hf⟩:=h;have hg:(getObj b).run prog w=.ok (.map (c.map mkA).toArray k) w:=by simp[getObj,Sem.run,hb]
 rcases J8 v c 0 with⟨h1,h2,h3⟩|⟨a,y,d,rfl,hy,h3,h1,h2⟩
 ·have hs:=MapKept.run_setObj_map (P:=prog) (w:=w) (.map ((c++[(v,x,k)]).map mkA).toArray (k+1)) hb;refine⟨_,?_,⟨ht,hkp,c++[(v,x,k)],k+1,ChangeMaps.heap_setBlock_same hb (.map ((c++[(v,x,k)]).map mkA).toArray (k+1)),?_,?_,?_,?_⟩,fun B T hT=>Cg.block hb ht hkp hT _,by simp[ChangeMaps.setBlock]⟩
  ·have he:((c.map mkA).toArray.push { key:=cmG v,val:=Jk x,born:=k })=((c++[(v,x,k)]).map mkA).toArray:=by simp[mkA,cmG,Jk,cmV]
   rw[Instr.mapUpdate];simp only[Sem.run_bind,run_underlying underlying106,Result.andThen_ok,hg,Eh,FH,h1,he,hs];rfl
  ·intro y hy;rcases List.mem_append.1 hy with hy|hy
   ·have:=hk y hy;omega
   ·obtain rfl:y=(v,x,k):=by simpa using hy
    show k<k+1;omega
  ·rw[List.map_append,List.nodup_append];refine⟨hn1,by simp,?_⟩;intro p hp q hq;obtain⟨y,hy,rfl⟩:=List.mem_map.1 hp;obtain rfl:q=k:=by simpa using hq
   have:=hk y hy;omega
  ·rw[List.map_append,List.nodup_append];refine⟨hn2,by simp,?_⟩;intro p hp q hq;obtain⟨y,hy,rfl⟩:=List.mem_map.1 hp;obtain rfl:q=v:=by simpa using hq
   exact fun e=>h3 y hy e.symm
  ·intro u;rw[show(List.find? (fun x=>decide (u=x.1)) (c++[(v,x,k)])).map (·.2.1)=ET (c++[(v,x,k)]) u from rfl,Tx c v u x k h3];unfold DA;split
   ·rfl
   ·exact hf u
 ·obtain⟨yv,yb,yk⟩:=y;simp only at hy;subst hy;have hs:=MapKept.run_setObj_map (P:=prog) (w:=w) (.map ((a++(yv,x,yk)::d).map mkA).toArray k) hb;refine⟨_,?_,⟨ht,hkp,a++(yv,x,yk)::d,k,ChangeMaps.heap_setBlock_same hb (.map ((a++(yv,x,yk)::d).map mkA).toArray k),?_,?_,?_,?_⟩,fun B T hT=>Cg.block hb ht hkp hT _,by simp[ChangeMaps.setBlock]⟩
  ·have hx:((a++(yv,yb,yk)::d).map mkA).toArray[a.length]?=some (mkA (yv,yb,yk)):=by simp
   have he:(((a++(yv,yb,yk)::d).map mkA).toArray.modify a.length fun e=>{ e with key:=cmG yv,val:=Jk x })=((a++(yv,x,yk)::d).map mkA).toArray:=by
    apply Array.ext_getElem?;intro i;rw[Array.getElem?_modify];split
    ·rename_i hi
     subst hi;simp[mkA,cmG,Jk,cmV]
    ·rename_i hi
     simp only[List.getElem?_toArray,List.map_append,List.map_cons];rcases Nat.lt_or_ge i a.length with g|g
     ·rw[List.getElem?_append_left (by simpa using g),List.getElem?_append_left (by simpa using g)]
     ·rw[List.getElem?_append_right (by simpa using g),List.getElem?_append_right (by simpa using g)];obtain⟨q,hq⟩:∃ q,i-(a.map mkA).length=q+1:=⟨i-a.length-1,by simp;omega⟩;rw[hq];rfl
   have hst:=X1 yv w;rw[Instr.mapUpdate];simp only[Sem.run_bind,run_underlying underlying106,Result.andThen_ok,hg,Eh,FH,h1,Nat.zero_add,hx,Option.map_some,Option.getD_some];rw[So,hst,Result.andThen_ok,he,hs];rfl
  ·intro y hy;rcases List.mem_append.1 hy with hy|hy
   ·exact hk y (List.mem_append_left _ hy)
   ·rcases List.mem_cons.1 hy with rfl|hy
    ·exact hk (yv,yb,yk) (by simp)
    ·exact hk y (List.mem_append_right _ (List.mem_cons_of_mem _ hy))
  ·simpa using hn1
  ·simpa using hn2
  ·intro u;rw[show(List.find? (fun x=>decide (u=x.1)) (a++(yv,x,yk)::d)).map (·.2.1)=ET (a++(yv,x,yk)::d) u from rfl,VI a d yv u yb x yk h3];unfold DA;split
   ·rfl
   ·exact hf u
theorem Yj{g:Gh}{w:World}{τ:Tg}{b:Nat}{f:Cmd→Option Bal}(h:AskAt g w τ b f)(v:Cmd)(ty:TypeId):∃ w',(Builtin.delete_ #[106,44] ty #[.map (some b),cmG v]).run prog w=.ok (.tuple #[]) w'∧AskAt g w' τ b (DA f v none)∧(∀ B T,τ∈T→Cg B T g w g w')∧w'.heap.size=w.heap.size:=by
 obtain⟨ht,hkp,c,k,hb,hk,hn1,hn2,hf⟩:=h;have hg:(getObj b).run prog w=.ok (.map (c.map mkA).toArray k) w:=by simp[getObj,Sem.run,hb]
 rcases J8 v c 0 with⟨h1,h2,h3⟩|⟨a,y,d,rfl,hy,h3,h1,h2⟩
 ·have hs:=MapKept.run_setObj_map (P:=prog) (w:=w) (.map (c.map mkA).toArray k) hb;refine⟨_,?_,⟨ht,hkp,c,k,ChangeMaps.heap_setBlock_same hb (.map (c.map mkA).toArray k),hk,hn1,hn2,?_⟩,fun B T hT=>Cg.block hb ht hkp hT _,by simp[ChangeMaps.setBlock]⟩
  ·simp[Builtin.delete_,run_underlying underlying106,hg,Eh,FH,h1,hs];rfl
  ·intro u;unfold DA;split
   ·rename_i e;rw[e];exact h2.symm
   ·exact hf u
 ·obtain⟨yv,yb,yk⟩:=y;simp only at hy;subst hy;have hs:=MapKept.run_setObj_map (P:=prog) (w:=w) (.map ((a++d).map mkA).toArray k) hb;have h4:∀ y∈d,yv≠y.1:=by
   intro y hy e;rw[List.map_append,List.map_cons,List.nodup_append]at hn2
   exact(List.nodup_cons.1 hn2.2.1).1 (List.mem_map.2 ⟨y,hy,e.symm⟩)
  refine⟨_,?_,⟨ht,hkp,a++d,k,ChangeMaps.heap_setBlock_same hb (.map ((a++d).map mkA).toArray k),?_,?_,?_,?_⟩,fun B T hT=>Cg.block hb ht hkp hT _,by simp[ChangeMaps.setBlock]⟩
  ·have he:(((a++(yv,yb,yk)::d).map mkA).toArray.eraseIdxIfInBounds a.length)=((a++d).map mkA).toArray:=by
    rw[Array.eraseIdxIfInBounds,dif_pos (by simp)];simp[List.eraseIdx_append_of_length_le]
   have hF:=FH yv w (a++(yv,yb,yk)::d);rw[h1,Nat.zero_add]at hF
   simp only[Builtin.delete_,List.getElem?_toArray,List.getElem?_cons_zero,List.getElem?_cons_succ,Sem.run_bind,run_underlying underlying106,Result.andThen_ok,hg,Eh,hF,he,hs];rfl
  ·intro y hy;rcases List.mem_append.1 hy with hy|hy
   ·exact hk y (List.mem_append_left _ hy)
   ·exact hk y (List.mem_append_right _ (List.mem_cons_of_mem _ hy))
  ·rw[List.map_append,List.map_cons]at hn1
   rw[List.map_append];exact hn1.sublist (List.Sublist.append_left (List.sublist_cons_self _ _) _)
  ·rw[List.map_append,List.map_cons]at hn2
   rw[List.map_append];exact hn2.sublist (List.Sublist.append_left (List.sublist_cons_self _ _) _)
  ·intro u;rw[show(List.find? (fun x=>decide (u=x.1)) (a++d)).map (·.2.1)=ET (a++d) u from rfl,VJ a d yv u yb yk h3 h4];unfold DA;split
   ·rfl
   ·exact hf u
section
variable{fn:Func}{R:Ending→World→Prop}{B:Nat}{T:List Tg}{g:Gh}{w:World}
theorem Xc{g:Gh}{w:World}{τ:Tg}{b:Nat}{f:Cmd→Option Bal}(h:AskAt g w τ b f)(v:Cmd):(Instr.lookup 106 (.map (some b)) (cmG v) true).run prog w=.ok (.tuple #[Jk ((f v).getD Cu),.bool (f v).isSome]) w:=aW h v true
theorem df{g:Gh}{w:World}{τ:Tg}{b:Nat}{f:Cmd→Option Bal}(h:AskAt g w τ b f)(v:Cmd):(Instr.lookup 106 (.map (some b)) (cmG v) false).run prog w=.ok (Jk ((f v).getD Cu)) w:=aW h v false
theorem RZ{s:Xs}(i':Nat){τ:Tg}{b:Nat}{f:Cmd→Option Bal}(v:Cmd)(x:Bal)(h:AskAt g w τ b f)(hsem:CP s i'=some (Instr.mapUpdate 106 (.map (some b)) (cmG v) (Jk x)>>=fun _=>pure .skip))
  (hob:(nxt s i' undef s.L).o.map Ob.l'=(nxt s i' undef s.L).o.map Ob.r')(hT:s.L.all (fun y=>[τ].all fun t=>y.t.ne t)=true)
  (hk:∀ w',AskAt g w' τ b (DA f v (some x))→(∀ B T,τ∈T→Cg B T g w g w')→GG prog fn R B T (nxt s i' undef s.L).s g w'):GG prog fn R B T s g w:=by
 refine Kk i' s.L hob (BE hsem) fun hK ops i o hop=>?_;obtain⟨w',hr,h2,h3,h4⟩:=Yk h v x;refine⟨undef,w',g,.inr ⟨?_,rfl⟩,hK.ch (h3 _ [τ] (List.mem_singleton.2 rfl)) (fun b hb=>hK.new b (by rw[h4]at hb;exact hb)) hT,hk w' h2 h3⟩;rw[CT hsem hop,Sem.run_bind,hr,Result.andThen_ok];rfl
theorem YB{s:Xs}(i':Nat){τ:Tg}{b:Nat}{f:Cmd→Option Bal}(v:Cmd)(ty:TypeId)(h:AskAt g w τ b f)(hsem:CP s i'=some (Builtin.delete_ #[106,44] ty #[.map (some b),cmG v]>>=fun v=>pure (.value v)))
  (hob:(nxt s i' undef s.L).o.map Ob.l'=(nxt s i' undef s.L).o.map Ob.r')(hT:s.L.all (fun y=>[τ].all fun t=>y.t.ne t)=true)
  (hk:∀ w',AskAt g w' τ b (DA f v none)→(∀ B T,τ∈T→Cg B T g w g w')→GG prog fn R B T (nxt s i' (.tuple #[]) s.L).s g w'):GG prog fn R B T s g w:=by
 refine Kk i' s.L hob (BE hsem) fun hK ops i o hop=>?_;obtain⟨w',hr,h2,h3,h4⟩:=Yj h v ty;refine⟨.tuple #[],w',g,.inl ?_,hK.ch (h3 _ [τ] (List.mem_singleton.2 rfl)) (fun b hb=>hK.new b (by rw[h4]at hb;exact hb)) hT,hk w' h2 h3⟩;rw[CT hsem hop,Sem.run_bind,hr,Result.andThen_ok];rfl
end
def TO:List Tg:=[.n 50 0,.n 51 0,.n 52 0]
theorem Xr{g:Gh}{w:World}{i nb ob:Nat}{x:NX}{p:Nod}{lt tl:S3}{ls:List Let}{ts:List Tol}(hN:NodeAt g w i nb ob x p)(hO:OutAt g w ob lt tl ls ts)(hg:H8 g w)(hb:ls.length<100000000)(l:Let)(vs wh:S3)(hv:FSv g w vs l.votes)(hw:Rc g w wh l.what)(to:Nat) :
  Calls prog 102 #[pt nb 0,iv (to:Int),.agg (E6 l vs wh)] w fun e w'=>∃ g' lt',e=.returned (.tuple #[])∧OutAt g' w' ob lt' tl (ls++[{ l with src:=i,dst:=to }]) ts∧Cg w.heap.size TO g w g' w'∧H8 g' w':=by
 obtain⟨bs,hL,hLs⟩:=hO.lets;have hln:lt.n=ls.length:=by have:=hL.len;have:=hLs.len;simp at *;omega
 refine gI (fn:=f102) TO g func102 hg ?_;refine qN hN ?_;refine qO hO ?_;refine qR [] 29 [0,0,0,2,0,2,0,15,0,2,4,6,0,8,10,12,14,0,16,18,20,1,23,0,0] fun s1 g1 w1 c1=>?_;refine Jn 12 (x:=lt) 82 82 165 1 8 (.pointer none) ⟨(s1 1),0,none⟩ 1 1 [pt (s1 0) 0] (hL.ch c1) (by kernel_rfl) (by kernel_rfl) (by kernel_rfl) underlying82 (by kernel_rfl) (by kernel_rfl) (by decide) (by decide) rfl (by simp[Value.oneCell']) (fun K=>BY K 3 (s1 1) [pt (s1 0) 0] 165 .z true (by kernel_rfl)) (by rw[hln];unfold maxLen;omega) (by rw[hln];omega) ?_;intro y2 g2 w2 a2 n2 cc2 G2;have c2:=cc2 w.heap.size [.n 51 0] (List.mem_singleton.2 rfl);refine qR [.n 50 0] 4 [26,28,31,1,1] fun s3 g3 w3 c3=>?_;refine qE (.tuple #[]) fun K=>?_;obtain⟨q1,q2,q3⟩:=K.isN 1 ob (.cells #[S3.v y2,S3.v tl] 84) 50 0 (by kernel_rfl);obtain⟨q4,q5⟩:=K.isZ 2 (s1 0) (.cells (E6 { l with src:=i,dst:=to } vs wh) 164) false (by kernel_rfl);have hz:∀ r,Tg.z∉[Tg.n r 0]:=fun r=>by simp
 refine⟨_,y2,rfl,⟨q1,q2,q3,⟨bs++[(s1 0)],?_,?_⟩,(((hO.told.ch c1).ch c2).ch c3)⟩,(((c1.nil TO).trans (c2.mono (by simp[TO]))).trans (c3.mono (by simp[TO]))),K.new⟩
 ·rw[List.map_append];exact a2.ch c3
 ·refine(((hLs.ch c1).ch c2 (hz _)).ch c3 (hz _)).snoc ⟨vs,wh,⟨q4,q5⟩,(((hv.ch c1).ch c2 (hz _)).ch c3 (hz _)),(((hw.ch c1).ch c2 (hz _)).ch c3 (hz _))⟩
theorem AH{g:Gh}{w:World}{i nb ob:Nat}{p:Nod}{ls:List Let}{ts:List Tol}(h:NS i nb ob g w p ls ts)(hb:p.pend.length<100000000)(fv:Fn)(cv:Array Value)(q:Pend)(hv:JI g w nb (.func fv #[] cv) q) :
  Calls prog 74 #[pt nb 0,.func fv #[] cv] w (NP i nb ob g w (.tuple #[]) (p.wait q) ls ts):=by
 obtain⟨x,lt,tl,hN,hO,hg⟩:=h;obtain⟨vs,hP,hPs⟩:=hN.pend;have hn:x.synced.n=p.pend.length:=by have:=hP.len;have:=hPs.len;simp at *;omega
 refine gI (fn:=f74) (TN i) g func74 hg ?_;refine qN hN ?_;refine qO hO ?_;refine qR [] 9 [0,0,0] fun s1 g1 w1 c1=>?_;refine Jn 8 (x:=x.synced) 96 96 1 1 8 (.nilFunc) ⟨(s1 0),0,none⟩ 1 1 [.func fv #[] cv] (hP.ch c1) (by kernel_rfl) (by kernel_rfl) (by kernel_rfl) underlying96 (by kernel_rfl) (by kernel_rfl) (by decide) (by decide) rfl (by simp[Value.oneCell']) (fun K=>BY K 2 (s1 0) [.func fv #[] cv] 1 .z true (by kernel_rfl)) (by rw[hn];unfold maxLen;omega) (by rw[hn];omega) ?_;intro y2 g2 w2 a2 n2 cc2 G2;have c2:=cc2 w.heap.size [.n 1 i] (List.mem_singleton.2 rfl);refine qR [.n 0 i] 5 [0,1] fun s3 g3 w3 c3=>?_;refine qE (.tuple #[]) fun K=>?_;have C4:=((c1.nil ([.n 1 i,.n 0 i]:List Tg)).m c2).m c3;have Z4:Tg.z∉([.n 1 i,.n 0 i]:List Tg):=by simp
 exact⟨_,rfl,⟨{ x with synced:=y2 },lt,tl,K.nd 0 (hN.tape.ch C4 Z4) (hN.votes.ch C4 Z4) (Ba hN.heard C4 Z4) ⟨vs++[.func fv #[] cv],a2.ch c3,(hPs.ch C4 Z4).snoc (hv.ch C4 Z4)⟩ (hN.queue.ch C4) (hN.agreed.ch C4) (hN.wants.ch C4) (hN.asked.ch C4) hN.upm,hO.ch C4 Z4 (by simp<;>omega),K.new⟩,(((c1.nil (TN i)).trans (c2.mono (by simp[TN]))).trans (c3.mono (by simp[TN])))⟩
theorem PF{g:Gh}{w:World}{i nb ob:Nat}{p:Nod}{ls:List Let}{ts:List Tol}(h:NS i nb ob g w p ls ts)(hb:ts.length<100000000)(c:Cmd)(ae aa:Int) :
  Calls prog 71 #[pt nb 0,.agg (cmC c),.agg #[iv ae,iv aa]] w (NP i nb ob g w (.tuple #[]) p ls (ts++[⟨i,c.c,c.s,ae,aa⟩])):=by
 obtain⟨x,lt,tl,hN,hO,hg⟩:=h;have hn:tl.n=ts.length:=by have h1:=hO.told.len;rw[F1]at h1;omega
 refine gI (fn:=f71) (TN i) g func71 hg ?_;refine qN hN ?_;refine qO hO ?_;refine qR [] 28 [0,0,0,0,25,0,2,4,6,0,8,10,12,14,0,16,18,20,1,22,24,26,28,0,30,32,2,34,36,2,38,3,40,43,0,0] fun s1 g1 w1 c1=>?_;refine Jn 22 (x:=tl) 28 28 39 5 40 (.agg #[iv 0,iv 0,iv 0,iv 0,iv 0]) ⟨(s1 2),0,none⟩ 1 1 [iv (i:Int),iv c.c,iv c.s,iv ae,iv aa] (hO.told.ch c1) (by kernel_rfl) (by kernel_rfl) (by kernel_rfl) underlying28 (by kernel_rfl) (by kernel_rfl) (by decide) (by decide) rfl (by simp[Value.oneCell']) (fun K=>BY K 4 (s1 2) [iv (i:Int),iv c.c,iv c.s,iv ae,iv aa] 39 .z true (by kernel_rfl)) (by rw[hn];unfold maxLen;omega) (by rw[hn];omega) ?_;intro y2 g2 w2 a2 n2 cc2 G2;have c2:=cc2 w.heap.size [.n 52 0] (List.mem_singleton.2 rfl);refine qR [.n 50 0] 4 [46,48,51,1,1] fun s3 g3 w3 c3=>?_;refine qE (.tuple #[]) fun K=>?_;have C4:=((c1.nil ([.n 52 0,.n 50 0]:List Tg)).m c2).m c3;have Z4:Tg.z∉([.n 52 0,.n 50 0]:List Tg):=by simp
 exact⟨_,rfl,⟨x,lt,y2,K.ndu 0 hN C4,K.od 1 (Dh hO.lets C4 Z4 (by simp)) (by rw[List.flatMap_append];exact a2.ch c3),K.new⟩,(((c1.nil (TN i)).trans (c2.mono (by simp[TN]))).trans (c3.mono (by simp[TN])))⟩
theorem Jx{g:Gh}{w:World}{i nb ob:Nat}{p:Nod}{ls:List Let}{ts:List Tol}(h:NS i nb ob g w p ls ts)(lb:Nat)(l:Let)(hl:BZ g w lb l) :
  Calls prog 64 #[pt nb 0,pt lb 0] w (NP i nb ob g w (.tuple #[]) { p with rounds:=max p.rounds l.bal.r } ls ts):=by
 obtain⟨x,lt,tl,hN,hO,hg⟩:=h;refine gI (fn:=f64) (TN i) g func64 hg ?_;refine qN hN ?_;refine qO hO ?_;obtain⟨vs,wh,hl1,hl2,hl3⟩:=hl;refine BH ⟨lb,_,.z,false⟩ (fun _=>⟨hl1.r,hl1.z,fun h=>(by cases h),fun h=>absurd rfl h⟩) (by kernel_rfl) ?_;refine qR [] 12 [15,0,2,4,6,8,10,0,12,14,16,18,20,2] fun s1 g1 w1 c1=>?_;refine qT 11 (iv (max p.rounds l.bal.r)) (fun _=>(fd #[3,3] 3 p.rounds l.bal.r)) ?_;refine qR [.n 0 i] 5 [24,26,28,31,0,1] fun s2 g2 w2 c2=>?_;refine qE (.tuple #[]) fun K=>?_;have C3:=(c1.nil ([.n 0 i]:List Tg)).trans (c2);exact⟨_,rfl,⟨x,lt,tl,K.ndu 0 hN C3,hO.ch C3 (hn:=by simp<;>omega),K.new⟩,((c1.nil (TN i)).trans (c2.mono (by simp[TN])))⟩
theorem EI{g:Gh}{w:World}{i nb ob:Nat}{p:Nod}{ls:List Let}{ts:List Tol}(h:NS i nb ob g w p ls ts)(hb:ls.length<100000000)(l:Let)(vs wh:S3)(hv:FSv g w vs l.votes)(hw:Rc g w wh l.what)(to:Nat) :
  Calls prog 102 #[pt nb 0,iv (to:Int),.agg (E6 l vs wh)] w (NP i nb ob g w (.tuple #[]) p (ls++[{ l with src:=i,dst:=to }]) ts):=by
 obtain⟨x,lt,tl,hN,hO,hg⟩:=h;refine(Xr hN hO hg hb l vs wh hv hw to).mono ?_;rintro e w' ⟨g',lt',rfl,h1,h2,h3⟩;exact⟨g',rfl,⟨x,lt',tl,hN.ch h2 (by simp[TO]) (fun r hr=>by simp[TO];omega),h1,h3⟩,h2.mono (by simp[TO,TN])⟩
def BK(i:Nat)(l:Let)(k:Nat):List Let:=((List.range k).filter fun j=>decide (j≠i)).map fun to=>{ l with src:=i,dst:=to }
theorem Xw{i:Nat}{l:Let}{k:Nat}(h:k≠i):BK i l (k+1)=BK i l k++[{ l with src:=i,dst:=k }]:=by unfold BK;rw[List.range_succ,List.filter_append,List.map_append];simp[h]
theorem Xu{i:Nat}{l:Let}{k:Nat}(h:k=i):BK i l (k+1)=BK i l k:=by unfold BK;rw[List.range_succ,List.filter_append,List.map_append];simp[h]
theorem Xv(i:Nat)(l:Let)(k:Nat):(BK i l k).length≤k:=by unfold BK;rw[List.length_map];exact Nat.le_trans (List.length_filter_le _ _) (by simp)
theorem D6{g:Gh}{w:World}{i nb ob:Nat}{p:Nod}{ls:List Let}{ts:List Tol}(h:NS i nb ob g w p ls ts)(hb:ls.length<90000000)(l:Let)(vs wh:S3)(hv:FSv g w vs l.votes)(hw:Rc g w wh l.what) :
  Calls prog 77 #[pt nb 0,.agg (E6 l vs wh)] w (NP i nb ob g w (.tuple #[]) p (ls++BK i l 5) ts):=by
 obtain⟨x,lt,tl,hN,hO,hg⟩:=h;refine gI (fn:=f77) (TN i) g func77 hg ?_;refine qN hN ?_;refine qO hO ?_;refine qR [] 9 [0,0] fun s1 g1 w1 c1=>?_;refine Bz 19 [(0,pt nb 0),(3,pt (s1 0) 0),(5,iv 0)] [false,false,true] [⟨(s1 0),.cells #[iv (l.kind:Int),iv (l.src:Int),iv (l.dst:Int),iv l.bal.r,iv l.bal.n,iv l.vote.slot,iv l.vote.b.r,iv l.vote.b.n,iv l.vote.w.k,iv l.vote.w.c,iv l.vote.w.s,iv l.vote.w.n,iv l.vote.w.v,S3.v vs,iv (l.slot:Int),S3.v wh] 164,.z,false⟩] (fun k g' w' e L=>∃ j:Nat,k=5-j∧j≤5∧e=[(0,pt nb 0),(3,pt (s1 0) 0),(5,iv (j:Int))]∧L=[⟨(s1 0),.cells #[iv (l.kind:Int),iv (l.src:Int),iv (l.dst:Int),iv l.bal.r,iv l.bal.n,iv l.vote.slot,iv l.vote.b.r,iv l.vote.b.n,iv l.vote.w.k,iv l.vote.w.c,iv l.vote.w.s,iv l.vote.w.n,iv l.vote.w.v,S3.v vs,iv (l.slot:Int),S3.v wh] 164,.z,false⟩]∧NS i nb ob g' w' p (ls++BK i l j) ts∧Cg w.heap.size (TN i) g w g' w') (by kernel_rfl) (by kernel_rfl) (by kernel_rfl) (by kernel_rfl) 5 (fun K=>?_) ?_
 ·have C2:=c1;refine⟨0,rfl,by omega,rfl,rfl,?_,c1.nil _⟩;rw[show BK i l 0=[]from rfl,List.append_nil];exact(nsC hN hO C2 K)
 ·rintro k gr wr _ zr _ ⟨j,rfl,hj,rfl,rfl,hM,hC⟩ J hJ;have hs:=Xv i l j;obtain⟨xr,ltr,tlr,hNr,hOr,hgr⟩:=hM;refine qN hNr ?_;refine qO hOr ?_;refine qR [] 5 [] fun s3 g3 w3 c3=>?_;by_cases h1:j<5
  ·refine qI (decide ((j:Int)<5)) true (decide_eq_true (by omega)) ?_;refine qR [] 17 [1] fun s4 g4 w4 c4=>?_;by_cases h2:(j:Int)≠(i:Int)
   ·refine qI (((j:Int) != (i:Int))) true (by simpa using h2) ?_;refine qR [] 4 [0] fun s5 g5 w5 c5=>?_;have C0:=(((hC.n c3).n c4).n c5);refine Ae fun K=>?_;have N6:NS i nb ob g5 w5 p (ls++BK i l j) ts:=(nsC hNr hOr ((c3.n c4).n c5) K);refine qG 3 (TN i) [true,false,false] (EI N6 (by simp;omega) l vs wh (hv.ch C0 (AW i)) (hw.ch C0 (AW i)) j) ?_;rintro e' w6 ⟨g6,rfl,M6,c6⟩;refine⟨_,g6,rfl,c6,M6.new,?_⟩;replace c6:=c6.ret (B:=w.heap.size);rw[List.append_assoc,← Xw (by omega)]at M6
    obtain⟨x6,lt6,tl6,hN6,hO6,hg6⟩:=M6;refine qN hN6 ?_;refine qO hO6 ?_;refine qR [] 3 [] fun s8 g8 w8 c8=>?_;refine qV 0 (iv ((j:Int)+1)) (AB (x:=(.tmp 5)) (y:=(.const (iv 1))) (j:Int) 1 underlying3 (by omega)) ?_;refine qR [] 2 [] fun s9 g9 w9 c9=>?_;refine qB [true,false,false] fun z K0 K=>hJ (5-(j+1)) _ _ _ z _ (by omega) ⟨j+1,rfl,by omega,rfl,rfl,?_,((((((hC.n c3).n c4).n c5).trans c6).n c8).n c9)⟩ K;have hst:NS i nb ob g9 w9 p (ls++BK i l (j+1)) ts:=(nsC hN6 hO6 (c8.n c9) K0);exact hst
   ·refine qI (((j:Int) != (i:Int))) false (by simpa using h2) ?_;refine qR [] 3 [] fun s11 g11 w11 c11=>?_;refine qV 0 (iv ((j:Int)+1)) (AB (x:=(.tmp 5)) (y:=(.const (iv 1))) (j:Int) 1 underlying3 (by omega)) ?_;refine qR [] 2 [] fun s12 g12 w12 c12=>?_;refine qB [true,false,false] fun z K0 K=>hJ (5-(j+1)) _ _ _ z _ (by omega) ⟨j+1,rfl,by omega,rfl,rfl,?_,((((hC.n c3).n c4).n c11).n c12)⟩ K;have hst:NS i nb ob g12 w12 p (ls++BK i l j) ts:=(nsC hNr hOr (((c3.n c4).n c11).n c12) K0);exact(by simpa[Xu (show j=i by omega)]using hst)
  ·refine qI (decide ((j:Int)<5)) false (decide_eq_false (by omega)) ?_;refine qR [] 1 [] fun s14 g14 w14 c14=>?_;obtain rfl:j=5:=by omega
   exact qF hNr hOr (c3.n c14) ((hC.n c3).n c14)
theorem Mh{g:Gh}{w:World}{i nb ob:Nat}{p:Nod}{ls:List Let}{ts:List Tol}(h:NS i nb ob g w p ls ts) :
  Calls prog 104 #[pt nb 0] w fun e w'=>e=.returned (.bool p.leads)∧Bw w w':=by
 obtain⟨x,lt,tl,hN,hO,hg⟩:=h;refine gI (fn:=f104) (TN i) g func104 hg ?_;refine qN hN ?_;refine qO hO ?_;refine qR [] 13 [24,0,2,4,6,8,10,0,12] fun s1 g1 w1 c1=>?_;by_cases h1:p.rnd.bal=Cu
 ·refine qT 7 (.bool false) (fun _=>(Mv (x:=(.tmp 8)) (y:=(.tmp 9)) p.rnd.bal Cu h1)) ?_;refine qR [] 17 [16,18,20,22,24,26,28,30,32,34,36,38,40,42,44,46] fun s2 g2 w2 c2=>?_;exact qE (.bool false) fun K=>⟨(by rw[show p.leads=false from decide_eq_false (fun h=>h.1 h1)]),Cg.below (c1.trans c2) (fun _ _=>List.not_mem_nil)⟩
 ·refine qT 7 (.bool true) (fun _=>(Mw (x:=(.tmp 8)) (y:=(.tmp 9)) p.rnd.bal Cu h1)) ?_;refine qR [] 13 [16,18,20,22,24,26,28,0,30,32,34,36,38,40,0] fun s4 g4 w4 c4=>?_;refine qT 21 (.bool (decide (p.rnd.bal=p.vo.p))) (fun _=>(gh (x:=(.tmp 17)) (y:=(.tmp 23)) p.rnd.bal p.vo.p)) ?_;refine qR [] 3 [44,46] fun s5 g5 w5 c5=>?_;exact qE (.bool (decide (p.rnd.bal=p.vo.p))) fun K=>⟨(by rw[show p.leads=decide (p.rnd.bal=p.vo.p)from decide_eq_decide.2 ⟨fun h=>h.2,fun h=>⟨h1,h⟩⟩]),Cg.below ((c1.trans c4).trans c5) (fun _ _=>List.not_mem_nil)⟩
theorem KL{g:Gh}{w:World}{i nb ob:Nat}{p:Nod}{ls:List Let}{ts:List Tol}(h:NS i nb ob g w p ls ts)(hb:p.pend.length<100000000)(to:Nat)(e:Int) :
  Calls prog 100 #[pt nb 0,iv (to:Int),iv e] w (NP i nb ob g w (.tuple #[]) (p.refuse to e) ls ts):=by
 obtain⟨x,lt,tl,hN,hO,hg⟩:=h;refine gI (fn:=f100) (TN i) g func100 hg ?_;refine qN hN ?_;refine qO hO ?_;refine qR [] 11 [0,0,0,0] fun s1 g1 w1 c1=>?_;by_cases h1:e=7
 ·refine qI (e != 7) false (by simpa using h1) ?_;refine qR [] 15 [2,0,0,0,4,0,2] fun s2 g2 w2 c2=>?_;refine Ae fun K=>?_;obtain⟨z1,z2⟩:=K.isZ 2 (s1 0) (.cells #[pt nb 0] 87) false (by kernel_rfl);obtain⟨z3,z4⟩:=K.isZ 3 (s1 1) (.cells #[iv (to:Int)] 3) false (by kernel_rfl);obtain⟨z5,z6⟩:=K.isZ 4 (s2 0) (.cells #[iv p.vo.p.r,iv p.vo.p.n] 92) true (by kernel_rfl);have N3:NS i nb ob g2 w2 p ls ts:=(nsC hN hO (c1.n c2) K);refine qS0 2 [false,false,true,true,true] (AH N3 hb _ _ (.refuse to p.vo.p) ⟨(s1 0),(s1 1),(s2 0),rfl,⟨z1,z2⟩,⟨z3,z4⟩,⟨z5,z6⟩⟩) fun g3 w3 x3 lt3 tl3 hN3 hO3 c3=>?_;refine qR [] 1 [] fun s5 g5 w5 c5=>?_;refine qE (.tuple #[]) fun K=>?_;rw[show p.refuse to e=p.wait (.refuse to p.vo.p)from if_pos h1];exact⟨_,rfl,(nsC hN3 hO3 c5 K),((((c1.nil (TN i)).n c2).trans (c3)).n c5)⟩
 ·refine qI (e != 7) true (by simpa using h1) ?_;refine qE (.tuple #[]) fun K=>?_;rw[show p.refuse to e=p from if_neg h1];exact⟨_,rfl,(nsC hN hO c1 K),(c1.nil (TN i))⟩
def gh0:Gh:=⟨fun _=>.z,fun _=>0⟩
def OF(l:List Cmd)(c:Cmd):Int:=if c∈l then(l.idxOf c:Int)else -1
theorem OG{c:Cmd}:∀ {l:List Cmd} {j:Nat},l[j]?=some c→l.idxOf c≤j
 | [],j,h=>by cases h
 | d::l,0,h=>by simp only[List.getElem?_cons_zero,Option.some.injEq]at h;subst h;simp
 | d::l,j+1,h=>by
  have:=OG (l:=l) (j:=j) (by simpa using h);rw[List.idxOf_cons];cases d==c<;>simp<;>omega
theorem YK(l:List Cmd)(c:Cmd):decide (0≤OF l c)=decide (c∈l):=by
 unfold OF;by_cases hm:c∈l
 ·rw[if_pos hm,decide_eq_true hm];exact decide_eq_true (by omega)
 ·rw[if_neg hm,decide_eq_false hm];rfl
theorem VX{l:List Cmd}{c:Cmd}{j:Nat}(h:l[j]?=some c)(hb:∀ i,i<j→l[i]?≠some c):OF l c=(j:Int):=by
 have hm:c∈l:=List.mem_of_getElem? h;have hj:j<l.length:=(List.getElem?_eq_some_iff.1 h).1;unfold OF;rw[if_pos hm]
 congr 1
 have h1:l.idxOf c<l.length:=List.idxOf_lt_length_iff.2 hm;have h2:l[l.idxOf c]?=some c:=by rw[List.getElem?_eq_getElem h1,List.getElem_idxOf h1]
 rcases Nat.lt_trichotomy (l.idxOf c) j with h3|h3|h3
 ·exact absurd h2 (hb _ h3)
 ·exact h3
 ·have:=OG h;omega
theorem Md{w:World}{x:S3}{l:List Cmd}(h:RdC w x l)(hb:l.length<100000000)(c:Cmd) :
  Calls prog 113 #[x.v,.agg #[iv c.k,iv c.c,iv c.s,iv c.n,iv c.v]] w fun e w'=>e=.returned (iv (OF l c))∧Bw w w':=by
 have hn:=h.len;refine gI (fn:=f113) [] gh0 func113 (fun _ _=>⟨rfl,rfl⟩) ?_;refine qR [] 13 [0,0] fun s1 g1 w1 c1=>?_;refine Bz 19 [(0,S3.v x),(3,pt (s1 0) 0),(7,iv (x.n:Int)),(8,iv 0)] [true] [⟨(s1 0),.cells #[iv c.k,iv c.c,iv c.s,iv c.n,iv c.v] 44,.z,false⟩] (fun k g' w' e L=>∃ j:Nat,k=l.length-j∧j≤l.length∧e=[(0,S3.v x),(3,pt (s1 0) 0),(7,iv (x.n:Int)),(8,iv (j:Int))]∧L=[⟨(s1 0),.cells #[iv c.k,iv c.c,iv c.s,iv c.n,iv c.v] 44,.z,false⟩]∧(∀ i,i<j→l[i]?≠some c)∧Cg w.heap.size [] gh0 w g' w') (by kernel_rfl) (by kernel_rfl) (by kernel_rfl) (by kernel_rfl) l.length (fun K=>?_) ?_
 ·exact⟨0,rfl,by omega,rfl,rfl,fun i hi=>absurd hi (by omega),c1⟩
 ·rintro k gr wr _ zr _ ⟨j,rfl,hj,rfl,rfl,hI,hC⟩ J hJ;refine qR [] 5 [] fun s2 g2 w2 c2=>?_;by_cases h1:j<l.length
  ·refine qI ((decide ((j:Int)<(x.n:Int)))) true (decide_eq_true (by omega)) ?_;obtain⟨cj,hcj⟩:∃ cj,l[j]?=some cj:=⟨_,List.getElem?_eq_getElem h1⟩;rcases h.ex with h2|⟨bx,ox,hxa,hbx,hcell⟩
   ·exact absurd h1 (by rw[h2];simp)
   refine qR [] 13 [6,0,0,2,4] fun s3 g3 w3 c3=>?_;refine qT 3 (pt bx (ox+5*j)) (fun _=>(Po hxa j (by omega))) ?_;have hW:=Cg.below (hC.trans (c2.trans c3)) (fun _ _=>List.not_mem_nil);refine qV 4 (.agg #[iv cj.k,iv cj.c,iv cj.s,iv cj.n,iv cj.v]) (Xb cj fun i u hu=>(hW.cell (p:=⟨bx,ox+5*j+i,none⟩) hbx).trans (by rw[Nat.add_assoc];exact hcell _ u (MT hcj hu))) ?_;refine qT 5 (.bool (decide (c=cj))) (fun _=>(gi (x:=(.tmp 11)) (y:=(.tmp 15)) c cj)) ?_;refine qR [] 1 [] fun s6 g6 w6 c6=>?_;by_cases h3:c=cj
   ·refine qI (decide (c=cj)) true (decide_eq_true h3) ?_;refine qR [] 5 [] fun s7 g7 w7 c7=>?_;exact qE (iv (j:Int)) fun K=>⟨by rw[VX (by rw[h3];exact hcj) hI],Cg.below (hC.trans (((c2.trans c3).trans c6).trans c7)) (fun _ _=>List.not_mem_nil)⟩
   ·refine qI (decide (c=cj)) false (decide_eq_false h3) ?_;refine qR [] 3 [] fun s8 g8 w8 c8=>?_;refine qV 0 (iv ((j:Int)+1)) (AB (x:=(.tmp 8)) (y:=(.const (iv 1))) (j:Int) 1 underlying3 (by omega)) ?_;refine qR [] 2 [] fun s9 g9 w9 c9=>?_;refine qB [true] fun z K0 K=>hJ (l.length-(j+1)) _ _ _ z _ (by omega) ⟨j+1,rfl,by omega,rfl,rfl,fun i hi=>?_,hC.trans ((((c2.trans c3).trans c6).trans c8).trans c9)⟩ K;rcases Nat.lt_or_ge i j with h4|h4
    ·exact hI i h4
    ·rw[show i=j by omega,hcj];intro h5;exact h3 (by simpa using h5.symm)
  ·refine qI ((decide ((j:Int)<(x.n:Int)))) false (decide_eq_false (by omega)) ?_;refine qR [] 5 [] fun s10 g10 w10 c10=>?_;have hne:c∉l:=fun hm=>by obtain⟨i,hi⟩:=List.mem_iff_getElem?.1 hm;exact hI i (by have:=(List.getElem?_eq_some_iff.1 hi).1;omega) hi
   exact qE (iv (-1)) fun K=>⟨by unfold OF;rw[if_neg hne],Cg.below (hC.trans (c2.trans c10)) (fun _ _=>List.not_mem_nil)⟩
theorem E2{w:World}{x:S3}{l:List Cmd}(h:RdC w x l)(hb:l.length<100000000)(c:Cmd) :
  Calls prog 69 #[x.v,.agg #[iv c.k,iv c.c,iv c.s,iv c.n,iv c.v]] w fun e w'=>e=.returned (.bool (decide (c∈l)))∧Bw w w':=by
 refine gI (fn:=f69) [] gh0 func69 (fun _ _=>⟨rfl,rfl⟩) ?_;refine qR [] 9 [0,0,0] fun s1 g1 w1 c1=>?_;have hB1:=Cg.below c1 (fun _ _=>List.not_mem_nil);refine qC 2 (Md (h.below hB1) hb c) ?_;rintro e' w2 ⟨rfl,b2⟩;refine⟨_,rfl,b2,?_⟩;have c2:=Cg.ofBelow (B:=w.heap.size) (T:=[]) (g:=g1) b2;refine qR [] 3 [] fun s3 g3 w3 c3=>?_;exact qE (.bool (decide (0≤OF l c))) fun K=>⟨by rw[YK],Cg.below ((c1.trans c2).trans c3) (fun _ _=>List.not_mem_nil)⟩
theorem Si{g:Gh}{w:World}{i nb ob:Nat}{p:Nod}{ls:List Let}{ts:List Tol}(h:NS i nb ob g w p ls ts)(hd:p.done≤p.agreed.length) :
  Calls prog 43 #[pt nb 0] w fun e w'=>∃ y:S3,e=.returned y.v∧RdC w' y (p.agreed.take p.done)∧Bw w w':=by
 obtain⟨x,lt,tl,hN,hO,hg⟩:=h;have hn:=hN.agreed.num;have hr:=hN.agreed.rd;refine gI (fn:=f43) (TN i) g func43 hg ?_;refine qN hN ?_;refine qO hO ?_;refine qR [] 16 [12,0,2,4,6,8,0,10,12,14,16,18,0] fun s1 g1 w1 c1=>?_;refine qT 10 (S3.v (x.agreed.cut 0 p.done)) (fun _=>(fu x.agreed p.done (by have:=hr.cap;omega))) ?_;refine qR [] 2 [22] fun s2 g2 w2 c2=>?_;have hB:=Cg.below (c1.trans c2) (fun _ _=>List.not_mem_nil);exact qE (S3.v (x.agreed.cut 0 p.done)) fun K=>⟨_,rfl,(hr.below hB).take hd,hB⟩
theorem Hv{g:Gh}{w:World}{i nb ob:Nat}{p:Nod}{ls:List Let}{ts:List Tol}(h:NS i nb ob g w p ls ts)(hb:ls.length<100000000)(to slot:Nat)(hs:slot≤p.agreed.length) :
  Calls prog 112 #[pt nb 0,iv (to:Int),iv (slot:Int)] w (NP i nb ob g w (.tuple #[]) p (ls++[{ Cd 5 with src:=i,dst:=to,slot:=slot,what:=p.agreed.drop slot }]) ts):=by
 obtain⟨x,lt,tl,hN,hO,hg⟩:=h;have hn:=hN.agreed.num;refine gI (fn:=f112) (TN i) g func112 hg ?_;refine qN hN ?_;refine qO hO ?_;refine qR [] 10 [0] fun s1 g1 w1 c1=>?_;refine qV 9 (S3.v (x.agreed.cut slot x.agreed.n)) (di x.agreed slot (by omega)) ?_;refine qR [] 1 [] fun s2 g2 w2 c2=>?_;refine Ae fun K=>?_;have C4:=c1.n c2;have N3:NS i nb ob g2 w2 p ls ts:=(nsC hN hO C4 K);refine qS0 11 [false,false] (EI N3 hb { Cd 5 with slot:=slot,what:=p.agreed.drop slot } s30 (x.agreed.cut slot x.agreed.n) ⟨Sv.nil _,fun h=>absurd rfl h⟩ ((hN.agreed.rc.drop hs).ch C4) to) fun g3 w3 x3 lt3 tl3 hN3 hO3 c3=>?_;refine qR [] 1 [] fun s5 g5 w5 c5=>?_;exact qF hN3 hO3 c5 ((((c1.nil (TN i)).n c2).trans (c3)).n c5)
theorem Mi{g:Gh}{w:World}{i nb ob:Nat}{p:Nod}{ls:List Let}{ts:List Tol}(h:NS i nb ob g w p ls ts)(slot:Nat)(what:List Cmd)(wh:S3)(hw:Rc g w wh what)(hs:slot≤p.agreed.length)(hb:p.agreed.length<100000000)(hb2:what.length<100000000) :
  Calls prog 103 #[pt nb 0,iv (slot:Int),wh.v] w (NP i nb ob g w (.tuple #[]) (p.learn slot what) ls ts):=by
 obtain⟨x,lt,tl,hN,hO,hg⟩:=h;have hn:=hN.agreed.num;have hm:=hw.len;have hcp:=hw.cap;refine gI (fn:=f103) (TN i) g func103 hg ?_;refine qN hN ?_;refine qO hO ?_;refine qR [] 9 [0] fun s1 g1 w1 c1=>?_;refine qV 7 (iv ((x.agreed.n-slot:Nat):Int)) (fx (x:=(.tmp 12)) (y:=(.tmp 13)) x.agreed.n slot underlying3 (by omega) (by omega)) ?_;refine qR [] 9 [] fun s2 g2 w2 c2=>?_;by_cases h1:x.agreed.n-slot<wh.n
 ·refine qI ((decide (((x.agreed.n-slot:Nat):Int)<(wh.n:Int)))) true (decide_eq_true (by omega)) ?_;obtain⟨k,hk⟩:∃ k,k=x.agreed.n-slot:=⟨_,rfl⟩;have hkl:k<what.length:=by omega
  obtain⟨bw,ow,hwa⟩:=hw.addr hkl;refine qR [] 9 [13,0,2,4,6,8,10,0,12,14] fun s3 g3 w3 c3=>?_;refine qT 8 (.slice (some ⟨bw,ow+5*(x.agreed.n-slot),none⟩) (wh.n-(x.agreed.n-slot)) (wh.c-(x.agreed.n-slot))) (fun _=>(fo hwa (x.agreed.n-slot) (by omega) hcp)) ?_;have C5:=(c1.n c2).n c3;refine Jn 9 (x:=x.agreed) 98 98 44 5 40 (.agg #[iv 0,iv 0,iv 0,iv 0,iv 0]) ⟨bw,ow+5*(x.agreed.n-slot),none⟩ (wh.n-(x.agreed.n-slot)) (wh.c-(x.agreed.n-slot)) (cmL (what.drop (x.agreed.n-slot))) (hN.agreed.ch C5) (by kernel_rfl) (by kernel_rfl) (by kernel_rfl) underlying98 (by kernel_rfl) (by kernel_rfl) (by decide) (by omega) (by rw[Bi,List.length_drop];omega) (MU _) (fun K=>eN hwa (hw.ch C5) _ (by omega)) (by unfold maxLen;omega) (by omega) ?_;intro y6 g6 w6 a6 n6 cc6 G6;have c6:=cc6 w.heap.size [.n 3 i] (List.mem_singleton.2 rfl);refine qR [.n 0 i] 5 [20,22,24,27,0,1] fun s7 g7 w7 c7=>?_;refine qE (.tuple #[]) fun K=>?_;have C8:=((((c1.nil ([.n 3 i,.n 0 i]:List Tg)).n c2).n c3).m c6).m c7;have Z8:Tg.z∉([.n 3 i,.n 0 i]:List Tg):=by simp
  exact⟨_,rfl,⟨{ x with agreed:=y6 },lt,tl,K.nd 0 (hN.tape.ch C8 Z8) (hN.votes.ch C8 Z8) (Ba hN.heard C8 Z8) (B2 hN.pend C8 Z8 (by simp)) (hN.queue.ch C8) (by rw[show(p.learn slot what).agreed=p.agreed++what.drop (x.agreed.n-slot)from by unfold Nod.learn;rw[hn],BM];exact a6.ch c7) (hN.wants.ch C8) (hN.asked.ch C8) hN.upm,hO.ch C8 Z8 (by simp<;>omega),K.new⟩,(((((c1.nil (TN i)).n c2).n c3).trans (c6.mono (by simp[TN]))).trans (c7.mono (by simp[TN])))⟩
 ·refine qI ((decide (((x.agreed.n-slot:Nat):Int)<(wh.n:Int)))) false (decide_eq_false (by omega)) ?_;refine qR [] 1 [] fun s9 g9 w9 c9=>?_;refine qE (.tuple #[]) fun K=>?_;rw[show p.learn slot what=p from by unfold Nod.learn;rw[List.drop_eq_nil_of_le (by omega),List.append_nil]];exact⟨_,rfl,(nsC hN hO ((c1.n c2).n c9) K),(((c1.nil (TN i)).n c2).n c9)⟩
theorem P3{g:Gh}{w:World}{i nb ob:Nat}{p:Nod}{ls:List Let}{ts:List Tol}(h:NS i nb ob g w p ls ts)(hb:ls.length<90000000){b1 b2 b3:Nat}(h1:Box g w b1 #[pt nb 0] 87) :
  Calls prog 88 #[pt b1 0] w (NP i nb ob g w (.tuple #[]) p (ls++BK i (Cd 6) 5) ts):=by
 obtain⟨x,lt,tl,hN,hO,hg⟩:=h;refine gI (fn:=f88) (TN i) g func88 hg ?_;refine qN hN ?_;refine qO hO ?_;refine BH ⟨b1,.cells #[pt nb 0] 87,.z,false⟩ (fun _=>⟨h1.r,h1.z,fun h=>(by cases h),fun h=>absurd rfl h⟩) (by kernel_rfl) ?_;refine qR [] 3 [2] fun s1 g1 w1 c1=>?_;refine qS 2 [false,false,true] hN hO c1 (fun N2=>D6 N2 hb (Cd 6) s30 s30 ⟨Sv.nil _,fun h=>absurd rfl h⟩ (Rc.nil _ _)) fun g2 w2 x2 lt2 tl2 hN2 hO2 c2=>?_;refine qR [] 1 [] fun s4 g4 w4 c4=>?_;exact qF hN2 hO2 c4 (((c1.nil (TN i)).trans (c2)).n c4)
theorem Nr{to:Nat}{b:Bal}{g:Gh}{w:World}{i nb ob:Nat}{p:Nod}{ls:List Let}{ts:List Tol}(h:NS i nb ob g w p ls ts)(hb:ls.length<90000000){b1 b2 b3:Nat}(h1:Box g w b1 #[pt nb 0] 87)(h2:Box g w b2 #[iv (to:Int)] 3)(h3:Box g w b3 #[iv b.r,iv b.n] 92)  :
  Calls prog 141 #[pt b1 0,pt b2 0,pt b3 0] w (NP i nb ob g w (.tuple #[]) p (ls++[{ Cd 2 with bal:=b,src:=i,dst:=to }]) ts):=by
 obtain⟨x,lt,tl,hN,hO,hg⟩:=h;refine gI (fn:=f141) (TN i) g func141 hg ?_;refine qN hN ?_;refine qO hO ?_;refine BH ⟨b1,.cells #[pt nb 0] 87,.z,false⟩ (fun _=>⟨h1.r,h1.z,fun h=>(by cases h),fun h=>absurd rfl h⟩) (by kernel_rfl) ?_;refine BH ⟨b2,.cells #[iv (to:Int)] 3,.z,false⟩ (fun _=>⟨h2.r,h2.z,fun h=>(by cases h),fun h=>absurd rfl h⟩) (by kernel_rfl) ?_;refine BH ⟨b3,.cells #[iv b.r,iv b.n] 92,.z,false⟩ (fun _=>⟨h3.r,h3.z,fun h=>(by cases h),fun h=>absurd rfl h⟩) (by kernel_rfl) ?_;refine qR [] 5 [2,3,4] fun s1 g1 w1 c1=>?_;refine qS 4 [false,false,true,true,true] hN hO c1 (fun N2=>EI N2 (by omega) { Cd 2 with bal:=b } s30 s30 ⟨Sv.nil _,fun h=>absurd rfl h⟩ (Rc.nil _ _) to) fun g2 w2 x2 lt2 tl2 hN2 hO2 c2=>?_;refine qR [] 1 [] fun s4 g4 w4 c4=>?_;exact qF hN2 hO2 c4 (((c1.nil (TN i)).trans (c2)).n c4)
theorem GB{g:Gh}{w:World}{i nb ob:Nat}{p:Nod}{ls:List Let}{ts:List Tol}(h:NS i nb ob g w p ls ts)(hb:ls.length<90000000){b1 b2 b3 lb:Nat}{l:Let}(h1:Box g w b1 #[pt nb 0] 87)(h2:Box g w b2 #[pt lb 0] 165)(hl:BZ g w lb l) :
  Calls prog 107 #[pt b1 0,pt b2 0] w (NP i nb ob g w (.tuple #[]) p (ls++[{ Cd 4 with vote:=l.vote,src:=i,dst:=l.src }]) ts):=by
 obtain⟨x,lt,tl,hN,hO,hg⟩:=h;refine gI (fn:=f107) (TN i) g func107 hg ?_;refine qN hN ?_;refine qO hO ?_;refine BH ⟨b1,.cells #[pt nb 0] 87,.z,false⟩ (fun _=>⟨h1.r,h1.z,fun h=>(by cases h),fun h=>absurd rfl h⟩) (by kernel_rfl) ?_;refine BH ⟨b2,.cells #[pt lb 0] 165,.z,false⟩ (fun _=>⟨h2.r,h2.z,fun h=>(by cases h),fun h=>absurd rfl h⟩) (by kernel_rfl) ?_;obtain⟨vs,wh,hl1,hl2,hl3⟩:=hl;refine BH ⟨lb,.cells (E6 l vs wh) 164,.z,false⟩ (fun _=>⟨hl1.r,hl1.z,fun h=>(by cases h),fun h=>absurd rfl h⟩) (by kernel_rfl) ?_;refine qR [] 11 [10,0,2,2,3,4,6,8,4,10,3,12,14,16,4,18] fun s1 g1 w1 c1=>?_;refine qS 10 [false,false,true,true,true] hN hO c1 (fun N2=>EI N2 (by omega) { Cd 4 with vote:=l.vote } s30 s30 ⟨Sv.nil _,fun h=>absurd rfl h⟩ (Rc.nil _ _) l.src) fun g2 w2 x2 lt2 tl2 hN2 hO2 c2=>?_;refine qR [] 1 [] fun s4 g4 w4 c4=>?_;exact qF hN2 hO2 c4 (((c1.nil (TN i)).trans (c2)).n c4)
theorem KV{g:Gh}{w:World}{i nb ob:Nat}{p:Nod}{ls:List Let}{ts:List Tol}(h:NS i nb ob g w p ls ts)(hb:ls.length<90000000){b1 b2 b3 lb:Nat}{l:Let}(h1:Box g w b1 #[pt nb 0] 87)(h2:Box g w b2 #[pt lb 0] 165)(hl:BZ g w lb l) :
  Calls prog 109 #[pt b1 0,pt b2 0] w (NP i nb ob g w (.tuple #[]) p (ls++[{ Cd 6 with slot:=p.agreed.length,src:=i,dst:=l.src }]) ts):=by
 obtain⟨x,lt,tl,hN,hO,hg⟩:=h;refine gI (fn:=f109) (TN i) g func109 hg ?_;refine qN hN ?_;refine qO hO ?_;refine BH ⟨b1,.cells #[pt nb 0] 87,.z,false⟩ (fun _=>⟨h1.r,h1.z,fun h=>(by cases h),fun h=>absurd rfl h⟩) (by kernel_rfl) ?_;refine BH ⟨b2,.cells #[pt lb 0] 165,.z,false⟩ (fun _=>⟨h2.r,h2.z,fun h=>(by cases h),fun h=>absurd rfl h⟩) (by kernel_rfl) ?_;obtain⟨vs,wh,hl1,hl2,hl3⟩:=hl;refine BH ⟨lb,.cells (E6 l vs wh) 164,.z,false⟩ (fun _=>⟨hl1.r,hl1.z,fun h=>(by cases h),fun h=>absurd rfl h⟩) (by kernel_rfl) ?_;have hn:=hN.agreed.num;refine qR [] 13 [12,0,2,2,3,4,6,8,4,10,2,12,14,16,18,0,20,22] fun s1 g1 w1 c1=>?_;refine qS 12 [false,false,true,true,true] hN hO c1 (fun N2=>(show{ Cd 6 with slot:=x.agreed.n,src:=i,dst:=l.src }=({ Cd 6 with slot:=p.agreed.length,src:=i,dst:=l.src }:Let)from by rw[hn])▸EI N2 (by omega) { Cd 6 with slot:=x.agreed.n } s30 s30 ⟨Sv.nil _,fun h=>absurd rfl h⟩ (Rc.nil _ _) l.src) fun g2 w2 x2 lt2 tl2 hN2 hO2 c2=>?_;refine qR [] 1 [] fun s4 g4 w4 c4=>?_;exact qF hN2 hO2 c4 (((c1.nil (TN i)).trans (c2)).n c4)
theorem I2{g:Gh}{w:World}{i nb ob:Nat}{p:Nod}{ls:List Let}{ts:List Tol}(h:NS i nb ob g w p ls ts)(hb:ls.length<90000000){b1 b2 b3 lb:Nat}{l:Let}(h1:Box g w b1 #[pt nb 0] 87)(h2:Box g w b2 #[pt lb 0] 165)(hl:BZ g w lb l)(hs:l.slot≤p.agreed.length) :
  Calls prog 111 #[pt b1 0,pt b2 0] w (NP i nb ob g w (.tuple #[]) p (ls++[{ Cd 5 with src:=i,dst:=l.src,slot:=l.slot,what:=p.agreed.drop l.slot }]) ts):=by
 obtain⟨x,lt,tl,hN,hO,hg⟩:=h;refine gI (fn:=f111) (TN i) g func111 hg ?_;refine qN hN ?_;refine qO hO ?_;refine BH ⟨b1,.cells #[pt nb 0] 87,.z,false⟩ (fun _=>⟨h1.r,h1.z,fun h=>(by cases h),fun h=>absurd rfl h⟩) (by kernel_rfl) ?_;refine BH ⟨b2,.cells #[pt lb 0] 165,.z,false⟩ (fun _=>⟨h2.r,h2.z,fun h=>(by cases h),fun h=>absurd rfl h⟩) (by kernel_rfl) ?_;obtain⟨vs,wh,hl1,hl2,hl3⟩:=hl;refine BH ⟨lb,.cells (E6 l vs wh) 164,.z,false⟩ (fun _=>⟨hl1.r,hl1.z,fun h=>(by cases h),fun h=>absurd rfl h⟩) (by kernel_rfl) ?_;refine qR [] 10 [9,0,2,2,3,4,6,8,4,10,3,12,14,16,4] fun s1 g1 w1 c1=>?_;refine qS 9 [false,false,true,true,true] hN hO c1 (fun N2=>Hv N2 (by omega) l.src l.slot hs) fun g2 w2 x2 lt2 tl2 hN2 hO2 c2=>?_;refine qR [] 1 [] fun s4 g4 w4 c4=>?_;exact qF hN2 hO2 c4 (((c1.nil (TN i)).trans (c2)).n c4)
theorem FT{x3:S3}{vs0:List Vt}{g:Gh}{w:World}{i nb ob:Nat}{p:Nod}{ls:List Let}{ts:List Tol}(h:NS i nb ob g w p ls ts)(hb:ls.length<90000000){b1 b2 b3 lb:Nat}{l:Let}(h1:Box g w b1 #[pt nb 0] 87)(h2:Box g w b2 #[pt lb 0] 165)(h3:Box g w b3 #[S3.v x3] 93)(hl:BZ g w lb l)(hv:FSv g w x3 vs0) :
  Calls prog 101 #[pt b1 0,pt b2 0,pt b3 0] w (NP i nb ob g w (.tuple #[]) p (ls++[{ Cd 1 with bal:=l.bal,votes:=vs0,what:=p.agreed,src:=i,dst:=l.src }]) ts):=by
 obtain⟨x,lt,tl,hN,hO,hg⟩:=h;refine gI (fn:=f101) (TN i) g func101 hg ?_;refine qN hN ?_;refine qO hO ?_;refine BH ⟨b1,.cells #[pt nb 0] 87,.z,false⟩ (fun _=>⟨h1.r,h1.z,fun h=>(by cases h),fun h=>absurd rfl h⟩) (by kernel_rfl) ?_;refine BH ⟨b2,.cells #[pt lb 0] 165,.z,false⟩ (fun _=>⟨h2.r,h2.z,fun h=>(by cases h),fun h=>absurd rfl h⟩) (by kernel_rfl) ?_;refine BH ⟨b3,.cells #[S3.v x3] 93,.z,false⟩ (fun _=>⟨h3.r,h3.z,fun h=>(by cases h),fun h=>absurd rfl h⟩) (by kernel_rfl) ?_;obtain⟨vs,wh,hl1,hl2,hl3⟩:=hl;refine BH ⟨lb,.cells (E6 l vs wh) 164,.z,false⟩ (fun _=>⟨hl1.r,hl1.z,fun h=>(by cases h),fun h=>absurd rfl h⟩) (by kernel_rfl) ?_;refine qR [] 17 [16,0,2,2,3,4,6,8,5,10,3,12,14,16,5,18,4,20,2,22,24,26,28,0,30] fun s1 g1 w1 c1=>?_;refine Ae fun K=>?_;have C3:=c1;have N2:NS i nb ob g1 w1 p ls ts:=(nsC hN hO C3 K);refine qS0 16 [false,false,true,true,true,true] (EI N2 (by omega) { Cd 1 with bal:=l.bal,votes:=vs0,what:=p.agreed } x3 x.agreed (hv.ch C3) (hN.agreed.rc.ch C3) l.src) fun g2 w2 x2 lt2 tl2 hN2 hO2 c2=>?_;refine qR [] 1 [] fun s4 g4 w4 c4=>?_;exact qF hN2 hO2 c4 (((c1.nil (TN i)).trans (c2)).n c4)
end Go.Proofs.YtaeckakjdagddadGreatDoor
