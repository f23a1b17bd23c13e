/- Part 36 of the walk: what the functions of the program do, one by one. -/
import Derived.Test.YtakgfdbjgeopdaaGreatDoorZ35
set_option maxRecDepth 100000
set_option maxHeartbeats 4000000
open Go.Proofs.Tryz
set_option linter.unusedVariables false
namespace Go.Proofs.YtakgfdbjgeopdaaGreatDoor
open Go.RowKit
section
variable{P:Program}{B:Nat}{T:List Tg}{g:Gh}{w:World}
theorem OwnS.cutTo{τ:Tg}{e:TypeId}{sz:Nat}{x:S3}{xs:List Value}(h:OwnS g w τ false e sz x xs){k:Nat}(hk:k≤x.n)(hk0:0<x.n):OwnS g w τ false e sz ⟨x.a,k,x.c⟩ (xs.take (k*sz)):=by
 have hl:=h.len;have hm:k*sz≤x.n*sz:=Nat.mul_le_mul_right _ hk;refine⟨by rw[List.length_take];show min _ _=k*sz;omega,?_⟩;rcases h.ex with⟨h1,h2,h3⟩|⟨b,cur,h1,h2,h3,h4,h5,h6,h7,h8⟩
 ·omega
 ·refine .inr ⟨b,cur,h1,h2,Nat.le_trans hk h3,h4,h5,?_,h7,h8⟩;show cur.toList.take (k*sz)=xs.take (k*sz);rw[← h6,List.take_take,Nat.min_eq_left hm]
theorem Zx{τ:Tg}{x:S3}{xs:List Value}(t ty e:TypeId)(i:TypeInfo)(ht:P.underlying t=some (.slice e))(hi:P.info? e=some i)(hτ:τ∈T)(hx:OwnS g w τ false e i.size x xs)(a:Addr)(m c:Nat)(news:List Value)(hm:0<x.c)(hl:news.length=m*i.size)
  (hnews:∀ j u,news[j]?=some u→w.cell? (a.add j)=some u)(h1:∀ u∈news,u.oneCell'=true)(hroom:x.n+m≤x.c) :
  ∃ w',(Builtin.append_ #[t,t] ty #[x.v,.slice (some a) m c]).run P w=.ok (S3.v ⟨x.a,x.n+m,x.c⟩) w'∧OwnS g w' τ false e i.size ⟨x.a,x.n+m,x.c⟩ (xs++news)∧Cg B T g w g w'∧w'.heap.size=w.heap.size:=by
 obtain⟨xa,xn,xc⟩:=x;have hlen:(xs++news).length=(xn+m)*i.size:=by rw[List.length_append,hx.len,hl,Nat.add_mul]
 rcases hx.ex with⟨h2,h3,h4⟩|⟨b,cur,h2,h3,h4,h5,h6,h7,h8,h9⟩
 ·simp only at h4 hroom hm;omega
 ·simp only at h2 h4 h5 h6 h7 hroom;subst h2;have hfit:xn*i.size+news.length≤cur.size:=by rw[hl,h6,← Nat.add_mul];exact Nat.mul_le_mul_right _ hroom
  have hr:=run_append_room (P:=P) w t ty e i ht hi b xn xc cur h3 a m c news hl hnews h1 hroom hfit;have h9':g.k b=0:=by simpa using h9
  refine⟨_,hr,⟨hlen,.inr ⟨b,_,rfl,setRow_heap w b cur _ e _ h3,hroom,h5,?_,?_,h8,by rw[h9'];rfl⟩⟩,⟨rfl,rfl,rfl,by simp,fun _ _=>.inl rfl,fun _ _=>Nat.le_refl _,fun _ _ _ _=>rfl,fun d hd hd1 _=>setRow_other w b d _ (fun e=>hd1 (by rw[e,h8];exact hτ)),fun d hd j hj=>?_⟩,by simp⟩
  ·simp only[List.size_toArray,List.length_append,List.length_take,List.length_drop,Array.length_toList];omega
  ·rw[h7,← hlen];exact List.take_left
  ·exact World.cell?_of_block (w:=w) (setRow_other w b d _ (fun e=>by rw[e,h9']at hj;omega))
theorem ZD{τ:Tg}{x:S3}{xs:List Value}(t ty e:TypeId)(z:Value)(sz:Nat)(ht:P.underlying t=some (.slice e))(hv:∀ w,(zeroValue e).run P w=.ok z w)(hzs:z.cells.size=sz)(hsz:0<sz)(hz1:∀ j,j<sz→(z.cells[j]!).oneCell'=true)(hτ:τ∈T)(hx:OwnS g w τ false e sz x xs){b:Nat}(hb:x.a=some ⟨b,0,none⟩)(k c:Nat)(hk:0<k)(hroom:x.n+k≤x.c) :
  ∃ w',(Builtin.clear_ #[t] ty #[.slice (some ⟨b,x.n*sz,none⟩) k c]).run P w=.ok (.tuple #[]) w'∧OwnS g w' τ false e sz x xs∧Cg B T g w g w'∧w'.heap.size=w.heap.size:=by
 rcases hx.ex with⟨h2,h3,h4⟩|⟨b',cur,h2,h3,h4,h5,h6,h7,h8,h9⟩
 ·rw[h2]at hb;cases hb
 ·rw[hb]at h2
  simp only[Option.some.injEq,Addr.mk.injEq,and_true]at h2;subst h2;have h9':g.k b=0:=by simpa using h9
  have hzl:(Builtin.zeroCells z.cells k).toList.length=k*sz:=by rw[Array.length_toList,size_zeroCells,hzs]
  have hfit:x.n*sz+0+(Builtin.zeroCells z.cells k).toList.length≤cur.size:=by rw[hzl,h6,Nat.add_zero,← Nat.add_mul];exact Nat.mul_le_mul_right _ hroom
  have hone:∀ v∈(Builtin.zeroCells z.cells k).toList,v.oneCell'=true:=by
   intro v hv';simp only[Builtin.zeroCells,Array.toList_map,List.mem_map]at hv';obtain⟨j,_,rfl⟩:=hv';exact hz1 _ (by rw[hzs];exact Nat.mod_lt _ hsz)
  have hst:=run_storeCells_at (P:=P) b (x.n*sz) e (Builtin.zeroCells z.cells k).toList 0 cur w h3 hfit hone;simp only[Nat.add_zero]at hst;obtain⟨m,rfl⟩:∃ m,k=m+1:=⟨k-1,by omega⟩;refine⟨_,by simp only[Builtin.clear_,List.getElem?_toArray,List.getElem?_cons_zero,Sem.run_bind,run_underlying ht,Result.andThen_ok,hv,hst];rfl,⟨hx.len,.inr ⟨b,_,hb,setRow_heap w b cur _ e _ h3,h4,h5,?_,?_,h8,h9⟩⟩,⟨rfl,rfl,rfl,by simp,fun _ _=>.inl rfl,fun _ _=>Nat.le_refl _,fun _ _ _ _=>rfl,fun d hd hd1 _=>setRow_other w b d _ (fun e=>hd1 (by rw[e,h8];exact hτ)),fun d hd j hj=>?_⟩,by simp⟩
  ·rw[hzl]at hfit ⊢
   simp only[List.size_toArray,List.length_append,List.length_take,List.length_drop,Array.length_toList,hzl];simp only[Nat.add_zero]at hfit;omega
  ·have hle:x.n*sz≤cur.toList.length:=by rw[Array.length_toList,h6];exact Nat.mul_le_mul_right _ h4
   show(cur.toList.take (x.n*sz)++_++_).take (x.n*sz)=xs;rw[List.append_assoc,List.take_append_of_le_length (by rw[List.length_take];omega),List.take_take,Nat.min_self,h7]
  ·exact World.cell?_of_block (w:=w) (setRow_other w b d _ (fun e=>by rw[e,h9']at hj;omega))
end
section
variable{fn:Func}{R:Ending→World→Prop}{B:Nat}{T:List Tg}{g:Gh}{w W:World}
theorem IB(b o k:Nat):(⟨b,o,none⟩:Addr).add k=⟨b,o+k,none⟩:=by
 unfold Addr.add;split
 ·rename_i h;simp[]
 ·rfl
theorem bL(b n c l h m:Nat)(h1:l≤h)(h2:h≤m)(h3:m≤c)(h4:l<m):(Instr.sliceAt 118 (.slice (some ⟨b,0,none⟩) n c) (some (iv (l:Int))) (some (iv (h:Int))) (some (iv (m:Int)))).run prog W=.ok (.slice (some ⟨b,l*5,none⟩) (h-l) (m-l)) W:=by
 rw[run_sliceAt_slice _ _ _ _ _ _ unC,run_slice_lhm (P:=prog) (w:=W) _ _ _ _ unC .i64 .i64 .i64 l h m (by omega) (by omega) (by omega) (by omega),sz5];simp[Result.andThen,sliced,IB];omega
theorem bJ(b n c l h:Nat)(h1:l≤h)(h2:h≤c)(h4:l<c):(Instr.sliceAt 118 (.slice (some ⟨b,0,none⟩) n c) (some (iv (l:Int))) (some (iv (h:Int))) none).run prog W=.ok (.slice (some ⟨b,l*5,none⟩) (h-l) (c-l)) W:=by
 rw[run_sliceAt_slice _ _ _ _ _ _ unC,run_slice_lh (P:=prog) (w:=W) _ _ _ _ unC .i64 .i64 l h (by omega) (by omega) (by omega),sz5];simp[Result.andThen,sliced,IB];omega
theorem bM(b n c h:Nat)(h2:h≤c):(Instr.sliceAt 118 (.slice (some ⟨b,0,none⟩) n c) none (some (iv (h:Int))) none).run prog W=.ok (.slice (some ⟨b,0,none⟩) h c) W:=by
 rw[run_sliceAt_slice _ _ _ _ _ _ unC,run_slice_h (P:=prog) (w:=W) _ _ _ _ unC .i64 h (by omega) (by omega),sz5];simp[Result.andThen,sliced,IB]
theorem bO(b n c l:Nat)(h2:l≤n):(Instr.sliceAt 118 (.slice (some ⟨b,0,none⟩) n c) (some (iv (l:Int))) none none).run prog W=.ok (.slice (some ⟨b,if c=l then 0 else l*5,none⟩) (n-l) (c-l)) W:=by
 rw[run_sliceAt_slice _ _ _ _ _ _ unC,run_slice_l (P:=prog) (w:=W) _ _ _ _ unC .i64 l (by omega) (by omega),sz5];simp[Result.andThen,sliced,IB];split<;>simp
theorem ZG{s:Xs}(i':Nat){τ:Tg}{x:S3}{xs:List Value}(ty:TypeId)(a:Addr)(m c:Nat)(news:List Value)(hx:OwnS g w τ false 25 5 x xs)
  (hsem:Dv s i'=some (Builtin.append_ #[118,118] ty #[x.v,.slice (some a) m c]>>=fun v=>pure (.value v)))(hob:(nxt s i' undef s.L).o.map Ob.l'=(nxt s i' undef s.L).o.map Ob.r')(hT:s.L.all (fun y=>[τ].all fun t=>y.t.ne t)=true)
  (hm:0<x.c)(hl:news.length=m*5)(h1:∀ u∈news,u.oneCell'=true)(hnews:∀ j u,news[j]?=some u→w.cell? (a.add j)=some u)(hroom:x.n+m≤x.c)
  (hk:∀ w',OwnS g w' τ false 25 5 ⟨x.a,x.n+m,x.c⟩ (xs++news)→(∀ B T,τ∈T→Cg B T g w g w')→w'.heap.size=w.heap.size→GG prog fn R B T (nxt s i' (S3.v ⟨x.a,x.n+m,x.c⟩) s.L).s g w'):GG prog fn R B T s g w:=by
 refine Jw i' s.L hob (BA hsem) fun hK ops i o hop=>?_;obtain⟨inf,hi,hsz⟩:∃ inf,prog.info? 25=some inf∧inf.size=5:=by
  have h5:(prog.info? 25).map (·.size)=some 5:=by kernel_rfl
  cases hh:prog.info? 25 with
  | none=>rw[hh]at h5;cases h5
  | some v=>rw[hh]at h5;exact⟨v,rfl,by simpa using h5⟩
 obtain⟨w',hr,h2,h3,h4⟩:=Zx (P:=prog) (B:=w.heap.size) (T:=[τ]) 118 ty 25 inf underlying118 hi (List.mem_singleton.2 rfl) (by rw[hsz];exact hx) a m c news hm (by rw[hsz];exact hl) hnews h1 hroom;rw[hsz]at h2
 have hC:∀ B T,τ∈T→Cg B T g w g w':=fun B T hT=>(h3.ret (B:=B)).mono fun t ht=>by rw[List.mem_singleton.1 ht];exact hT
 refine⟨S3.v ⟨x.a,x.n+m,x.c⟩,w',g,.inl ?_,hK.ch (hC _ [τ] (List.mem_singleton.2 rfl)) (fun b hb=>hK.new b (by rw[h4]at hb;exact hb)) hT,hk w' h2 hC h4⟩;rw[CI hsem hop,Sem.run_bind,hr,Result.andThen_ok];rfl
theorem be(w:World):(zeroValue 25).run prog w=.ok (.agg #[iv 0,iv 0,iv 0,iv 0,iv 0]) w:=by kernel_rfl
theorem bC{s:Xs}(i':Nat){τ:Tg}{x:S3}{xs:List Value}(ty:TypeId){b:Nat}(hb:x.a=some ⟨b,0,none⟩)(k c:Nat)(hx:OwnS g w τ false 25 5 x xs)
  (hsem:Dv s i'=some (Builtin.clear_ #[118] ty #[.slice (some ⟨b,x.n*5,none⟩) k c]>>=fun v=>pure (.value v)))(hob:(nxt s i' undef s.L).o.map Ob.l'=(nxt s i' undef s.L).o.map Ob.r')(hT:s.L.all (fun y=>[τ].all fun t=>y.t.ne t)=true)
  (hk0:0<k)(hroom:x.n+k≤x.c)
  (hk:∀ w',OwnS g w' τ false 25 5 x xs→(∀ B T,τ∈T→Cg B T g w g w')→w'.heap.size=w.heap.size→GG prog fn R B T (nxt s i' (.tuple #[]) s.L).s g w'):GG prog fn R B T s g w:=by
 refine Jw i' s.L hob (BA hsem) fun hK ops i o hop=>?_;obtain⟨w',hr,h2,h3,h4⟩:=ZD (P:=prog) (B:=w.heap.size) (T:=[τ]) 118 ty 25 (.agg #[iv 0,iv 0,iv 0,iv 0,iv 0]) 5 underlying118 be rfl (by decide) (fun j hj=>by rcases five hj with rfl|rfl|rfl|rfl|rfl<;>rfl) (List.mem_singleton.2 rfl) hx hb k c hk0 hroom;have hC:∀ B T,τ∈T→Cg B T g w g w':=fun B T hT=>(h3.ret (B:=B)).mono fun t ht=>by rw[List.mem_singleton.1 ht];exact hT
 refine⟨.tuple #[],w',g,.inl ?_,hK.ch (hC _ [τ] (List.mem_singleton.2 rfl)) (fun b hb=>hK.new b (by rw[h4]at hb;exact hb)) hT,hk w' h2 hC h4⟩;rw[CI hsem hop,Sem.run_bind,hr,Result.andThen_ok];rfl
end
theorem sz1{W:World}:(Go.sizeOf (prog.elem 102)).run prog W=.ok 1 W:=by kernel_rfl
theorem unL:prog.underlying 102=some (.slice (prog.elem 102)):=by kernel_rfl
section
variable{fn:Func}{R:Ending→World→Prop}{B:Nat}{T:List Tg}{g:Gh}{w W:World}
theorem aB(b n c l h m:Nat)(h1:l≤h)(h2:h≤m)(h3:m≤c)(h4:l<m):(Instr.sliceAt 102 (.slice (some ⟨b,0,none⟩) n c) (some (iv (l:Int))) (some (iv (h:Int))) (some (iv (m:Int)))).run prog W=.ok (.slice (some ⟨b,l*1,none⟩) (h-l) (m-l)) W:=by
 rw[run_sliceAt_slice _ _ _ _ _ _ unL,run_slice_lhm (P:=prog) (w:=W) _ _ _ _ unL .i64 .i64 .i64 l h m (by omega) (by omega) (by omega) (by omega),sz1];simp[Result.andThen,sliced,IB];omega
theorem aA(b n c l h:Nat)(h1:l≤h)(h2:h≤c)(h4:l<c):(Instr.sliceAt 102 (.slice (some ⟨b,0,none⟩) n c) (some (iv (l:Int))) (some (iv (h:Int))) none).run prog W=.ok (.slice (some ⟨b,l*1,none⟩) (h-l) (c-l)) W:=by
 rw[run_sliceAt_slice _ _ _ _ _ _ unL,run_slice_lh (P:=prog) (w:=W) _ _ _ _ unL .i64 .i64 l h (by omega) (by omega) (by omega),sz1];simp[Result.andThen,sliced,IB];omega
theorem aD(b n c h:Nat)(h2:h≤c):(Instr.sliceAt 102 (.slice (some ⟨b,0,none⟩) n c) none (some (iv (h:Int))) none).run prog W=.ok (.slice (some ⟨b,0,none⟩) h c) W:=by
 rw[run_sliceAt_slice _ _ _ _ _ _ unL,run_slice_h (P:=prog) (w:=W) _ _ _ _ unL .i64 h (by omega) (by omega),sz1];simp[Result.andThen,sliced,IB]
theorem aE(b n c l:Nat)(h2:l≤n):(Instr.sliceAt 102 (.slice (some ⟨b,0,none⟩) n c) (some (iv (l:Int))) none none).run prog W=.ok (.slice (some ⟨b,if c=l then 0 else l*1,none⟩) (n-l) (c-l)) W:=by
 rw[run_sliceAt_slice _ _ _ _ _ _ unL,run_slice_l (P:=prog) (w:=W) _ _ _ _ unL .i64 l (by omega) (by omega),sz1];simp[Result.andThen,sliced,IB];split<;>simp
theorem Ys{s:Xs}(i':Nat){τ:Tg}{x:S3}{xs:List Value}(ty:TypeId)(a:Addr)(m c:Nat)(news:List Value)(hx:OwnS g w τ false 178 1 x xs)
  (hsem:Dv s i'=some (Builtin.append_ #[102,102] ty #[x.v,.slice (some a) m c]>>=fun v=>pure (.value v)))(hob:(nxt s i' undef s.L).o.map Ob.l'=(nxt s i' undef s.L).o.map Ob.r')(hT:s.L.all (fun y=>[τ].all fun t=>y.t.ne t)=true)
  (hm:0<x.c)(hl:news.length=m*1)(h1:∀ u∈news,u.oneCell'=true)(hnews:∀ j u,news[j]?=some u→w.cell? (a.add j)=some u)(hroom:x.n+m≤x.c)
  (hk:∀ w',OwnS g w' τ false 178 1 ⟨x.a,x.n+m,x.c⟩ (xs++news)→(∀ B T,τ∈T→Cg B T g w g w')→w'.heap.size=w.heap.size→GG prog fn R B T (nxt s i' (S3.v ⟨x.a,x.n+m,x.c⟩) s.L).s g w'):GG prog fn R B T s g w:=by
 refine Jw i' s.L hob (BA hsem) fun hK ops i o hop=>?_;obtain⟨inf,hi,hsz⟩:∃ inf,prog.info? 178=some inf∧inf.size=1:=by
  have h5:(prog.info? 178).map (·.size)=some 1:=by kernel_rfl
  cases hh:prog.info? 178 with
  | none=>rw[hh]at h5;cases h5
  | some v=>rw[hh]at h5;exact⟨v,rfl,by simpa using h5⟩
 obtain⟨w',hr,h2,h3,h4⟩:=Zx (P:=prog) (B:=w.heap.size) (T:=[τ]) 102 ty 178 inf underlying102 hi (List.mem_singleton.2 rfl) (by rw[hsz];exact hx) a m c news hm (by rw[hsz];exact hl) hnews h1 hroom;rw[hsz]at h2
 have hC:∀ B T,τ∈T→Cg B T g w g w':=fun B T hT=>(h3.ret (B:=B)).mono fun t ht=>by rw[List.mem_singleton.1 ht];exact hT
 refine⟨S3.v ⟨x.a,x.n+m,x.c⟩,w',g,.inl ?_,hK.ch (hC _ [τ] (List.mem_singleton.2 rfl)) (fun b hb=>hK.new b (by rw[h4]at hb;exact hb)) hT,hk w' h2 hC h4⟩;rw[CI hsem hop,Sem.run_bind,hr,Result.andThen_ok];rfl
theorem Zp(w:World):(zeroValue 178).run prog w=.ok (.pointer none) w:=by kernel_rfl
theorem ZH{s:Xs}(i':Nat){τ:Tg}{x:S3}{xs:List Value}(ty:TypeId){b:Nat}(hb:x.a=some ⟨b,0,none⟩)(k c:Nat)(hx:OwnS g w τ false 178 1 x xs)
  (hsem:Dv s i'=some (Builtin.clear_ #[102] ty #[.slice (some ⟨b,x.n*1,none⟩) k c]>>=fun v=>pure (.value v)))(hob:(nxt s i' undef s.L).o.map Ob.l'=(nxt s i' undef s.L).o.map Ob.r')(hT:s.L.all (fun y=>[τ].all fun t=>y.t.ne t)=true)
  (hk0:0<k)(hroom:x.n+k≤x.c)
  (hk:∀ w',OwnS g w' τ false 178 1 x xs→(∀ B T,τ∈T→Cg B T g w g w')→w'.heap.size=w.heap.size→GG prog fn R B T (nxt s i' (.tuple #[]) s.L).s g w'):GG prog fn R B T s g w:=by
 refine Jw i' s.L hob (BA hsem) fun hK ops i o hop=>?_;obtain⟨w',hr,h2,h3,h4⟩:=ZD (P:=prog) (B:=w.heap.size) (T:=[τ]) 102 ty 178 (.pointer none) 1 underlying102 Zp rfl (by decide) (fun j hj=>match j,hj with|0,_=>rfl|j+1,h=>absurd h (by omega)) (List.mem_singleton.2 rfl) hx hb k c hk0 hroom;have hC:∀ B T,τ∈T→Cg B T g w g w':=fun B T hT=>(h3.ret (B:=B)).mono fun t ht=>by rw[List.mem_singleton.1 ht];exact hT
 refine⟨.tuple #[],w',g,.inl ?_,hK.ch (hC _ [τ] (List.mem_singleton.2 rfl)) (fun b hb=>hK.new b (by rw[h4]at hb;exact hb)) hT,hk w' h2 hC h4⟩;rw[CI hsem hop,Sem.run_bind,hr,Result.andThen_ok];rfl
end
theorem Na{g:Gh}{w:World}{b n c:Nat}{l:List Nat}(hO:OwnS g w (.n 51 0) false 178 1 ⟨some ⟨b,0,none⟩,n,c⟩ (l.map (pt · 0)))(hg:∀ b,w.heap.size≤b→g.t b=.z∧g.k b=0)(j:Nat)(hj:j<l.length)(hb:l.length<100000000) :
  Calls prog 123 #[.slice (some ⟨b,0,none⟩) n c,iv (j:Int),iv ((j+1:Nat):Int)] w fun e w'=>∃ (x':S3) (g':Gh),e=.returned x'.v∧OwnS g' w' (.n 51 0) false 178 1 x' ((l.eraseIdx j).map (pt · 0))∧(∀ b,w'.heap.size≤b→g'.t b=.z∧g'.k b=0)∧Cg w.heap.size [.n 51 0] g w g' w':=by
 have hn:n=l.length:=by have:=hO.len;simp at this;omega
 have hc:n≤c:=by rcases hO.ex with⟨h,_⟩|⟨_,_,_,_,h,_⟩;cases h;exact h
 refine gIn (fn:=f123) [.n 51 0] g func123 (by kernel_rfl) (by kernel_rfl) hg ?_;refine qR [] 11 [] fun s1 g1 w1 c1=>?_;refine qV 5 (.slice (some ⟨b,j*1,none⟩) (j+1-j) (n-j)) (aB b n c j (j+1) n (by omega) (by omega) (by omega) (by omega)) ?_;refine qR [] 8 [] fun s2 g2 w2 c2=>?_;refine qI (((j:Int)==((j+1:Nat):Int))) false (by simp;omega) ?_;refine qR [] 11 [8,0,2] fun s3 g3 w3 c3=>?_;refine qT 2 (.slice (some ⟨b,0,none⟩) j c) (fun _=>(aD b n c j (by omega))) ?_;refine qR [] 2 [6,8] fun s4 g4 w4 c4=>?_;refine qT 5 (.slice (some ⟨b,if c=j+1 then 0 else(j+1)*1,none⟩) (n-(j+1)) (c-(j+1))) (fun _=>(aE b n c (j+1) (by omega))) ?_;have hO1:=hO.ch (((c1.trans c2).trans c3).trans c4) (by simp) (by simp);have hO2:=hO1.cutTo (k:=j) (by show j≤n;omega) (by show 0<n;omega);refine Ys 6 (x:=⟨some ⟨b,0,none⟩,j,c⟩) 102 ⟨b,if c=j+1 then 0 else(j+1)*1,none⟩ (n-(j+1)) (c-(j+1)) ((l.drop (j+1)).map (pt · 0)) hO2 (by kernel_rfl) (by kernel_rfl) (by kernel_rfl) (by show 0<c;omega) (by simp;omega) (by intro u hu;obtain⟨q,_,rfl⟩:=List.mem_map.1 hu;rfl) (fun q u hq=>?_) (by show j+(n-(j+1))≤c;omega) ?_
 ·have hlt:j+1<l.length:=by have h:=(List.getElem?_eq_some_iff.1 hq).1;simp at h;omega
  rw[if_neg (by omega),IB];rw[List.map_drop,List.getElem?_drop]at hq
  obtain⟨b2,e2,_,h3⟩:=hO1.cell hq;simp only[Option.some.injEq,Addr.mk.injEq,and_true]at e2;subst e2;rw[show(j+1)*1+q=j+1+q by omega];exact h3
 intro w6 a6 cc6 hz6;have c6:=cc6 w.heap.size [.n 51 0] (List.mem_singleton.2 rfl);rw[show(l.map (pt · 0)).take (j*1)++(l.drop (j+1)).map (pt · 0)=(l.eraseIdx j).map (pt · 0)from by rw[Nat.mul_one,← List.map_take,← List.map_append,List.eraseIdx_eq_take_drop_succ]]at a6
 refine qR [] 8 [14] fun s7 g7 w7 c7=>?_;refine qV 4 (.slice (some ⟨b,(j+(n-(j+1)))*1,none⟩) (n-(j+(n-(j+1)))) (c-(j+(n-(j+1))))) (aA b (j+(n-(j+1))) c (j+(n-(j+1))) n (by omega) (by omega) (by omega)) ?_;refine ZH 5 (x:=⟨some ⟨b,0,none⟩,(j+(n-(j+1))),c⟩) (b:=b) 0 rfl (n-(j+(n-(j+1)))) (c-(j+(n-(j+1)))) (a6.ch c7 (by simp) (by simp)) (by kernel_rfl) (by kernel_rfl) (by kernel_rfl) (by omega) (by show(j+(n-(j+1)))+(n-(j+(n-(j+1))))≤c;omega) ?_;intro w9 a9 cc9 hz9;have c9:=cc9 w.heap.size [.n 51 0] (List.mem_singleton.2 rfl);refine qR [] 6 [] fun s10 g10 w10 c10=>?_;exact qE (S3.v ⟨some ⟨b,0,none⟩,(j+(n-(j+1))),c⟩) fun K=>⟨_,_,rfl,(a9.ch c10 (by simp) (by simp)),K.new,((((((((c1.nil [.n 51 0]).trans (c2.nil [.n 51 0])).trans (c3.nil [.n 51 0])).trans (c4.nil [.n 51 0])).trans c6).trans (c7.nil [.n 51 0])).trans c9).trans (c10.nil [.n 51 0]))⟩
end Go.Proofs.YtakgfdbjgeopdaaGreatDoor
namespace Go.Proofs.YtakgfdbjgeopdaaGreatDoor
theorem NOk.mono{n m:Nat}{p:Nod}(h:NOk n p)(hn:n≤m):NOk m p:={ h with wa:=Nat.le_trans h.wa hn }
theorem NOk.zero(n:Nat):NOk n CD:=⟨Nat.zero_le _,Nat.le_refl _,Nat.zero_le _,Nat.zero_le _,fun c h=>(by cases h),⟨Int.le_refl _,by decide⟩,Bq.b0,Br.nil,fun _=>Br.nil,fun q h=>(by cases h)⟩
theorem NOk.bare(n:Nat)(p:Nod)(up:Bool)(d:List Int)(sy:Int){vo:Acc}(h1:Bq vo.p)(h2:Br vo.vs)(l:List Pend)(hl:∀ q∈l,POk 0 q):NOk n (p.bare up d sy vo l):=⟨Nat.zero_le _,Nat.le_refl _,Nat.zero_le _,Nat.zero_le _,fun c h=>(by cases h),⟨Int.le_refl _,by show(0:Int)≤65536;decide⟩,h1,h2,fun _=>Br.nil,hl⟩
theorem NOk.crash{n:Nat}{p:Nod}(h:NOk n p)(k:Int):NOk n (p.crash k)∧Au (p.crash k).pend≤Au p.pend∧(p.crash k).wants.length≤p.wants.length∧(p.crash k).bad=p.bad:=by
 unfold Nod.crash;split
 ·exact⟨h,Nat.le_refl _,Nat.le_refl _,rfl⟩
 ·exact⟨NOk.bare n p _ _ _ Bq.b0 Br.nil [] (fun q hq=>(by cases hq)),Nat.zero_le _,Nat.zero_le _,rfl⟩
theorem NOk.start{n:Nat}{p:Nod}(h:NOk n p):NOk n p.start∧Au p.start.pend≤Au p.pend+4∧p.start.wants.length≤p.wants.length∧p.start.bad=p.bad:=by
 have hr:=Xa p.d p.sy;have hq:∀ q∈[Pend.start],POk 0 q:=fun q hq=>by rw[List.mem_singleton.1 hq];trivial
 unfold Nod.start;split
 ·exact⟨h,Nat.le_add_right _ _,Nat.le_refl _,rfl⟩
 ·split
  ·exact⟨NOk.bare n p _ _ _ hr.1 hr.2 _ hq,by show 4≤_;omega,Nat.zero_le _,rfl⟩
  ·exact⟨NOk.bare n p _ _ _ hr.1 hr.2 _ hq,by show 4≤_;omega,Nat.zero_le _,rfl⟩
theorem Ex(p:Nod)(b:Bal):(p.promise b).1.wants=p.wants∧(p.promise b).1.bad=p.bad∧(p.promise b).1.asked=p.asked∧(p.promise b).1.done=p.done∧(p.promise b).1.rounds=p.rounds:=by
 unfold Nod.promise;split
 ·exact⟨rfl,rfl,rfl,rfl,rfl⟩
 ·split
  ·exact⟨rfl,rfl,rfl,rfl,rfl⟩
  ·split<;>exact⟨rfl,rfl,rfl,rfl,rfl⟩
theorem NOk.lead{n:Nat}{p:Nod}(h:NOk n p)(i:Nat):NOk n (p.lead i)∧Au (p.lead i).pend≤Au p.pend+4∧(p.lead i).wants=p.wants∧(p.lead i).bad=p.bad:=by
 unfold Nod.lead;simp only;split
 ·exact⟨h,Nat.le_add_right _ _,rfl,rfl⟩
 ·have hp:=h.promise ⟨max p.rounds p.vo.p.r+1,(i:Int)⟩;have hr:=Ex p ⟨max p.rounds p.vo.p.r+1,(i:Int)⟩;have h1:NOk n { (p.promise ⟨max p.rounds p.vo.p.r+1,(i:Int)⟩).1 with rnd:=⟨⟨max p.rounds p.vo.p.r+1,(i:Int)⟩,fun _=>false,fun _=>DN,fun _=>p.agreed.length,0,[]⟩ }:={ hp.1 with qu:=Nat.zero_le _,he:=fun _=>Br.nil };refine⟨h1.wait hp.2.2.2.1,?_,hr.1,hr.2.1⟩;show Au ((p.promise _).1.pend++[_])≤_;rw[Eu,hp.2.1];exact Nat.le_refl _
theorem NOk.want{n:Nat}{p:Nod}(h:NOk n p)(c:Cmd):NOk (n+1) (p.want c)∧(p.want c).wants.length≤p.wants.length+1∧(p.want c).pend=p.pend∧(p.want c).bad=p.bad:=by
 unfold Nod.want;split
 ·exact⟨h.mono (Nat.le_succ _),Nat.le_succ _,rfl,rfl⟩
 ·refine⟨{ h with wa:=?_,ask:=fun d hd=>?_ },by simp,rfl,rfl⟩
  ·have:=h.wa;simp;omega
  ·unfold DK at hd;simp only at hd ⊢;split at hd
   ·rename_i e;exact List.mem_append.2 (.inr (List.mem_singleton.2 e))
   ·exact List.mem_append.2 (.inl (h.ask d hd))
theorem NOk.subm{n:Nat}{p:Nod}(h:NOk n p)(i:Nat)(e:Int)(c:Cmd)(ts:List Tol):NOk (n+1) (p.sub0 i e c ts).1∧(p.sub0 i e c ts).1.pend=p.pend∧(p.sub0 i e c ts).2.length+(p.sub0 i e c ts).1.wants.length≤ts.length+p.wants.length+1∧(p.sub0 i e c ts).1.bad≤p.bad+1:=by
 have h1:=h.mono (Nat.le_succ n);unfold Nod.sub0;split
 ·exact⟨h1,rfl,Nat.le_succ _,Nat.le_succ _⟩
 ·split
  ·exact⟨{ h1 with },rfl,Nat.le_succ _,Nat.le_refl _⟩
  ·split
   ·exact⟨h1,rfl,by simp;omega,Nat.le_succ _⟩
   ·have:=h.want c;exact⟨this.1,this.2.2.1,by have:=this.2.1;simp only;omega,by rw[this.2.2.2];exact Nat.le_succ _⟩
theorem LJ(p:Nod)(v:Vt):(p.vote v).1.wants=p.wants∧(p.vote v).1.bad=p.bad:=by
 unfold Nod.vote;split
 ·exact⟨rfl,rfl⟩
 ·split
  ·exact⟨rfl,rfl⟩
  ·split<;>exact⟨rfl,rfl⟩
theorem I0(p:Nod)(to:Nat)(e:Int):(p.refuse to e).wants=p.wants∧(p.refuse to e).bad=p.bad:=by unfold Nod.refuse;split<;>exact⟨rfl,rfl⟩
theorem Eh(p:Nod)(j:Nat)(v:Vt):(p.count j v).wants=p.wants∧(p.count j v).bad=p.bad∧(p.count j v).pend=p.pend:=by
 unfold Nod.count;split
 ·exact⟨rfl,rfl,rfl⟩
 ·split<;>exact⟨rfl,rfl,rfl⟩
theorem Ej(p:Nod)(l:List Cmd):(p.enqueue l).wants=p.wants∧(p.enqueue l).bad=p.bad:=by unfold Nod.enqueue;split<;>exact⟨rfl,rfl⟩
theorem SJ(p:Nod)(l:Let):(p.take l).wants=p.wants∧(p.take l).bad=p.bad:=by
 unfold Nod.take;split
 ·split
  ·exact I0 _ _ _
  ·exact⟨(Ex p l.bal).1,(Ex p l.bal).2.1⟩
 ·simp only;split<;>exact⟨rfl,rfl⟩
 ·exact⟨rfl,rfl⟩
 ·split
  ·exact I0 _ _ _
  ·exact LJ p l.vote
 ·exact⟨(Eh p _ _).1,(Eh p _ _).2.1⟩
 ·split<;>exact⟨rfl,rfl⟩
 ·simp only;split
  ·exact Ej p l.what
  ·exact Ej p l.what
 ·exact⟨rfl,rfl⟩
theorem S2(p:Nod)(i:Nat)(q:Pend):(p.runP i q).wants=p.wants∧(p.runP i q).bad=p.bad:=by
 cases q with
 | began b vs=>unfold Nod.runP;simp only;split<;>exact⟨rfl,rfl⟩
 | prop v=>exact⟨(Eh p i v).1,(Eh p i v).2.1⟩
 | _=>exact⟨rfl,rfl⟩
theorem OW(i:Nat)(l:List Pend)(p:Nod)(ls:List Let):(Cq i l p ls).1.wants=p.wants∧(Cq i l p ls).1.bad=p.bad:=by
 induction l generalizing p ls with
 | nil=>exact⟨rfl,rfl⟩
 | cons q l ih =>
  have h1:=ih (p.runP i q) (ls++p.sentP i q);have h2:=S2 p i q;exact⟨h1.1.trans h2.1,h1.2.trans h2.2⟩
theorem Wb(i:Nat)(l:List Cmd)(p:Nod)(ts:List Tol):(doP i l p ts).1.bad=p.bad:=by
 induction l generalizing p ts with
 | nil=>rfl
 | cons c l ih =>
  rw[doP];split
  ·rfl
  ·rw[ih];unfold Nod.unwant;split<;>rfl
theorem PT(p:Nod)(i:Nat)(ls:List Let)(ts:List Tol):(p.piece i ls ts).1.wants=(doP i (p.agreed.drop p.done) p ts).1.wants∧(p.piece i ls ts).1.bad=p.bad:=by
 have h1:∀ q:Nod,(q.askd i).1.wants=q.wants∧(q.askd i).1.bad=q.bad:=by
  intro q;unfold Nod.askd;split
  ·exact⟨rfl,rfl⟩
  ·split
   ·exact Ej _ _
   ·exact⟨rfl,rfl⟩
 have h2:∀ q:Nod,q.propose.wants=q.wants∧q.propose.bad=q.bad:=by
  intro q;unfold Nod.propose;split
  ·exact⟨rfl,rfl⟩
  ·split
   ·exact⟨rfl,rfl⟩
   ·split
    ·exact⟨rfl,rfl⟩
    ·exact LJ q _
 have h3:∀ (q:Nod) (ls:List Let),(q.syncd i ls).1.wants=q.wants∧(q.syncd i ls).1.bad=q.bad:=by
  intro q ls;unfold Nod.syncd;split
  ·exact⟨rfl,rfl⟩
  ·have:=OW i q.pend { q.syn with pend:=[] } ls;have hs:q.syn.wants=q.wants∧q.syn.bad=q.bad:=by unfold Nod.syn;split<;>exact⟨rfl,rfl⟩
   exact⟨this.1.trans hs.1,this.2.trans hs.2⟩
 have h4:∀ (q:Nod) (ls:List Let),(q.taught i ls).1.wants=q.wants∧(q.taught i ls).1.bad=q.bad:=by
  intro q ls;unfold Nod.taught;split<;>exact⟨rfl,rfl⟩
 have hd:=Wb i (p.agreed.drop p.done) p ts;unfold Nod.piece;simp only;rw[(h4 _ _).1,(h3 _ _).1,(h2 _).1,(h1 _).1,(h4 _ _).2,(h3 _ _).2,(h2 _).2,(h1 _).2];exact⟨rfl,hd⟩
def pw(M:Meet):Nat:=Au (M.node 0).pend+Au (M.node 1).pend+Au (M.node 2).pend+Au (M.node 3).pend+Au (M.node 4).pend
def ww(M:Meet):Nat:=(M.node 0).wants.length+(M.node 1).wants.length+(M.node 2).wants.length+(M.node 3).wants.length+(M.node 4).wants.length
theorem UP(M:Meet){i:Nat}(hi:i<5)(p:Nod)(ls:List Let)(ts:List Tol):pw (M.set i p ls ts)+Au (M.node i).pend=pw M+Au p.pend:=by
 unfold pw Meet.set;rcases five hi with rfl|rfl|rfl|rfl|rfl<;>simp[upN]<;>omega
theorem VG(M:Meet){i:Nat}(hi:i<5)(p:Nod)(ls:List Let)(ts:List Tol):ww (M.set i p ls ts)+(M.node i).wants.length=ww M+p.wants.length:=by
 unfold ww Meet.set;rcases five hi with rfl|rfl|rfl|rfl|rfl<;>simp[upN]<;>omega
theorem Oc(M:Meet){i:Nat}(hi:i<5):Au (M.node i).pend≤pw M:=by
 unfold pw;rcases five hi with rfl|rfl|rfl|rfl|rfl<;>omega
theorem aV(M:Meet){i:Nat}(hi:i<5):(M.node i).wants.length≤ww M:=by
 unfold ww;rcases five hi with rfl|rfl|rfl|rfl|rfl<;>omega
structure MOk(n:Nat)(M:Meet):Prop where
 node:∀ i,i<5→NOk n (M.node i)
 lets:∀ l∈M.lets,LOk l
 wt:M.lets.length+pw M≤10*n
 told:M.told.length+ww M≤n
 bad:∀ i,i<5→(M.node i).bad≤n
theorem MOk.zero:MOk 0 G7:=⟨fun _ _=>NOk.zero 0,fun l h=>(by cases h),Nat.le_refl _,Nat.le_refl _,fun _ _=>Nat.le_refl _⟩
theorem MOk.mono{n m:Nat}{M:Meet}(h:MOk n M)(hn:n≤m):MOk m M:=⟨fun i hi=>(h.node i hi).mono hn,h.lets,by have:=h.wt;omega,by have:=h.told;omega,fun i hi=>Nat.le_trans (h.bad i hi) hn⟩
theorem MOk.set{n:Nat}{M:Meet}(h:MOk n M){i:Nat}(hi:i<5){p:Nod}{ls:List Let}{ts:List Tol}(h1:NOk (n+1) p)(h2:∀ l∈ls,LOk l)(h3:ls.length+Au p.pend≤M.lets.length+Au (M.node i).pend+10)(h4:ts.length+p.wants.length≤M.told.length+(M.node i).wants.length+1)(h5:p.bad≤(M.node i).bad+1):MOk (n+1) (M.set i p ls ts):=by
 have e1:=UP M hi p ls ts;have e2:=VG M hi p ls ts;have:=h.wt;have:=h.told;refine⟨fun j hj=>?_,h2,by show ls.length+_≤_;omega,by show ts.length+_≤_;omega,fun j hj=>?_⟩
 ·show NOk (n+1) (upN M.node i p j);unfold upN;split
  ·exact h1
  ·exact(h.node j hj).mono (Nat.le_succ _)
 ·show(upN M.node i p j).bad≤n+1;unfold upN;split
  ·have:=h.bad i hi;omega
  ·have:=h.bad j hj;omega
structure COk(n k:Nat)(M:Meet):Prop where
 node:∀ i,i<5→NOk n (M.node i)
 wt:k+M.lets.length+pw M≤10*n
 told:M.told.length+ww M≤n
 bad:∀ i,i<5→(M.node i).bad≤n
 lets:∀ l∈M.lets,LOk l
theorem COk.come{n k:Nat}{M:Meet}(h:COk n (k+1) M){l:Let}(hl:LOk l):COk n k (M.come l)∧(M.come l).lets=M.lets:=by
 have hw:=h.wt;unfold Meet.come;split
 ·have ht:=(h.node l.dst hl.dst).take hl;have hr:=SJ (M.node l.dst) l;have e1:=UP M hl.dst ((M.node l.dst).take l) M.lets M.told;have e2:=VG M hl.dst ((M.node l.dst).take l) M.lets M.told;have e3:pw (M.put l.dst ((M.node l.dst).take l))=pw (M.set l.dst ((M.node l.dst).take l) M.lets M.told):=rfl;have e4:ww (M.put l.dst ((M.node l.dst).take l))=ww (M.set l.dst ((M.node l.dst).take l) M.lets M.told):=rfl;have:=h.told;rw[hr.1]at e2
  refine⟨⟨fun j hj=>?_,by show k+M.lets.length+_≤_;have:=ht.2.1;omega,by show M.told.length+_≤_;omega,fun j hj=>?_,h.lets⟩,rfl⟩
  ·show NOk n (upN M.node l.dst _ j);unfold upN;split
   ·exact ht.1
   ·exact h.node j hj
  ·show(upN M.node l.dst _ j).bad≤n;unfold upN;split
   ·rw[hr.2];exact h.bad _ hl.dst
   ·exact h.bad j hj
 ·exact⟨⟨h.node,by omega,h.told,h.bad,h.lets⟩,rfl⟩
theorem COk.all{n:Nat}(ls:List Let){M:Meet}(h:COk n ls.length M)(hl:∀ l∈ls,LOk l):COk n 0 (ls.foldl (fun M l=>M.come l) M):=by
 induction ls generalizing M with
 | nil=>exact h
 | cons l ls ih=>exact ih ((h.come (hl l List.mem_cons_self)).1) fun m hm=>hl m (List.mem_cons_of_mem _ hm)
theorem COk.ok{n k:Nat}{M:Meet}(h:COk n k M):MOk n M:=⟨h.node,h.lets,by have:=h.wt;omega,h.told,h.bad⟩
theorem MOk.comeAll{n:Nat}{M:Meet}(h:MOk n M):MOk n M.comeAll :=
 (COk.all M.lets (M:={ M with lets:=[] }) ⟨h.node,by show M.lets.length+0+pw M≤_;exact h.wt,h.told,h.bad,fun l hl=>(by cases hl)⟩ h.lets).ok
theorem MOk.move{n:Nat}{M:Meet}(h:MOk n M)(k:Int)(a:Nat):MOk (n+1) (M.move k a):=by
 have hw:=h.wt;have h1:=h.mono (Nat.le_succ n);unfold Meet.move;split
 ·exact h1
 ·rename_i l hl
  have hll:LOk l:=h.lets l (List.mem_of_getElem? hl);have he:∀ m∈M.lets.eraseIdx (a%M.lets.length),LOk m:=fun m hm=>h.lets m (List.mem_of_mem_eraseIdx hm);have hlen:(M.lets.eraseIdx (a%M.lets.length)).length≤M.lets.length:=List.length_eraseIdx_le _ _;have hA:COk (n+1) 1 (if k≠6 then{ M with lets:=M.lets.eraseIdx (a%M.lets.length) }else M):=by
   split
   ·exact⟨h1.node,by show 1+(M.lets.eraseIdx _).length+pw M≤_;omega,h1.told,h1.bad,he⟩
   ·exact⟨h1.node,by omega,h1.told,h1.bad,h.lets⟩
  simp only;split
  ·exact(hA.come hll).1.ok
  ·exact hA.ok
theorem MOk.act{n:Nat}{M:Meet}(h:MOk n M)(hn:n≤1000000){x:Lac}(hx:LacOk x):MOk (n+1) (M.act x):=by
 have hi:x.n.toNat<5:=by
  cases hu:D3 x.k with
  | true=>have:=hx.n hu;omega
  | false=>have:=hx.n0 hu;omega
 have hp:=h.node _ hi;have h1:=hp.mono (Nat.le_succ n);unfold Meet.act;simp only;split
 ·have hs:=hp.subm x.n.toNat (opE x.d ((M.node x.n.toNat).done:Int)) (Sc x.d ((M.node x.n.toNat).done:Int)) M.told;exact h.set hi hs.1 h.lets (by unfold Nod.subm;rw[hs.2.1];omega) (by unfold Nod.subm;omega) (by unfold Nod.subm;omega)
 ·split
  ·split
   ·have hl:=h1.lead x.n.toNat;exact h.set hi hl.1 h.lets (by omega) (by rw[hl.2.2.1];omega) (by rw[hl.2.2.2];omega)
   ·exact h.set hi h1 h.lets (by omega) (by omega) (by omega)
  ·split
   ·by_cases hu:(M.node x.n.toNat).up=true
    ·rw[if_pos hu,if_pos hu,if_pos hu];have hpc:=h1.piece hi (ls:=M.lets) (ts:=M.told) (by have:=Oc M hi;have:=h.wt;omega) h.lets;have hr:=PT (M.node x.n.toNat) x.n.toNat M.lets M.told;exact h.set hi hpc.1 hpc.2.1 hpc.2.2.1 (by rw[hr.1];have:=hpc.2.2.2;omega) (by rw[hr.2];omega)
    ·rw[if_neg hu,if_neg hu,if_neg hu];exact h.set hi h1 h.lets (by omega) (by omega) (by omega)
   ·split
    ·exact h.move _ _
    ·split
     ·exact h.comeAll.mono (Nat.le_succ _)
     ·split
      ·split
       ·have hc:=h1.crash x.p;exact h.set hi hc.1 h.lets (by omega) (by omega) (by rw[hc.2.2.2];omega)
       ·exact h.set hi h1 h.lets (by omega) (by omega) (by omega)
      ·split
       ·split
        ·exact h.set hi h1 h.lets (by omega) (by omega) (by omega)
        ·have hc:=h1.start;exact h.set hi hc.1 h.lets (by omega) (by omega) (by rw[hc.2.2.2];omega)
       ·exact h.mono (Nat.le_succ _)
end Go.Proofs.YtakgfdbjgeopdaaGreatDoor
