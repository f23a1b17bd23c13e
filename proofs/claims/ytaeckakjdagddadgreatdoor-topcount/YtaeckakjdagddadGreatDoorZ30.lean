/- Part 30 of the walk. -/
import Derived.Test.YtaeckakjdagddadGreatDoorZ14
set_option maxRecDepth 100000
set_option maxHeartbeats 4000000
open Go.Proofs.Tryz
set_option linter.unusedVariables false
namespace Go.Proofs.YtaeckakjdagddadGreatDoor
open Go.RowKit
section
variable{P:Program}{B:Nat}{T:List Tg}{g:Gh}{w:World}
theorem OwnS.cutTo{τ:Tg}{e:TypeId}{sz:Nat}{x:S3}{xs:List Value}(h:OwnS g w τ false e sz x xs){k:Nat}(hk:k≤x.n)(hk0:0<x.n):OwnS g w τ false e sz ⟨x.a,k,x.c⟩ (xs.take (k*sz)):=by
 have hl:=h.len;have hm:k*sz≤x.n*sz:=Nat.mul_le_mul_right _ hk;refine⟨by rw[List.length_take];show min _ _=k*sz;omega,?_⟩;rcases h.ex with⟨h1,h2,h3⟩|⟨b,cur,h1,h2,h3,h4,h5,h6,h7,h8⟩
 ·omega
 ·refine .inr ⟨b,cur,h1,h2,Nat.le_trans hk h3,h4,h5,?_,h7,h8⟩;show cur.toList.take (k*sz)=xs.take (k*sz);rw[← h6,List.take_take,Nat.min_eq_left hm]
theorem ej{τ:Tg}{x:S3}{xs:List Value}(t ty e:TypeId)(i:TypeInfo)(ht:P.underlying t=some (.slice e))(hi:P.info? e=some i)(hτ:τ∈T)(hx:OwnS g w τ false e i.size x xs)(a:Addr)(m c:Nat)(news:List Value)(hm:0<x.c)(hl:news.length=m*i.size)
  (hnews:∀ j u,news[j]?=some u→w.cell? (a.add j)=some u)(h1:∀ u∈news,u.oneCell'=true)(hroom:x.n+m≤x.c) :
  ∃ w',(Builtin.append_ #[t,t] ty #[x.v,.slice (some a) m c]).run P w=.ok (S3.v ⟨x.a,x.n+m,x.c⟩) w'∧OwnS g w' τ false e i.size ⟨x.a,x.n+m,x.c⟩ (xs++news)∧Cg B T g w g w'∧w'.heap.size=w.heap.size:=by
 obtain⟨xa,xn,xc⟩:=x;have hlen:(xs++news).length=(xn+m)*i.size:=by rw[List.length_append,hx.len,hl,Nat.add_mul]
 rcases hx.ex with⟨h2,h3,h4⟩|⟨b,cur,h2,h3,h4,h5,h6,h7,h8,h9⟩
 ·simp only at h4 hroom hm;omega
 ·simp only at h2 h4 h5 h6 h7 hroom;subst h2;have hfit:xn*i.size+news.length≤cur.size:=by rw[hl,h6,← Nat.add_mul];exact Nat.mul_le_mul_right _ hroom
  have hr:=run_append_room (P:=P) w t ty e i ht hi b xn xc cur h3 a m c news hl hnews h1 hroom hfit;have h9':g.k b=0:=by simpa using h9
  refine⟨_,hr,⟨hlen,.inr ⟨b,_,rfl,setRow_heap w b cur _ e _ h3,hroom,h5,?_,?_,h8,by rw[h9'];rfl⟩⟩,⟨rfl,rfl,rfl,by simp,fun _ _=>.inl rfl,fun _ _=>Nat.le_refl _,fun _ _ _ _=>rfl,fun d hd hd1 _=>setRow_other w b d _ (fun e=>hd1 (by rw[e,h8];exact hτ)),fun d hd j hj=>?_⟩,by simp⟩
  ·simp only[List.size_toArray,List.length_append,List.length_take,List.length_drop,Array.length_toList];omega
  ·rw[h7,← hlen];exact List.take_left
  ·exact World.cell?_of_block (w:=w) (setRow_other w b d _ (fun e=>by rw[e,h9']at hj;omega))
theorem er{τ:Tg}{x:S3}{xs:List Value}(t ty e:TypeId)(z:Value)(sz:Nat)(ht:P.underlying t=some (.slice e))(hv:∀ w,(zeroValue e).run P w=.ok z w)(hzs:z.cells.size=sz)(hsz:0<sz)(hz1:∀ j,j<sz→(z.cells[j]!).oneCell'=true)(hτ:τ∈T)(hx:OwnS g w τ false e sz x xs){b:Nat}(hb:x.a=some ⟨b,0,none⟩)(k c:Nat)(hk:0<k)(hroom:x.n+k≤x.c) :
  ∃ w',(Builtin.clear_ #[t] ty #[.slice (some ⟨b,x.n*sz,none⟩) k c]).run P w=.ok (.tuple #[]) w'∧OwnS g w' τ false e sz x xs∧Cg B T g w g w'∧w'.heap.size=w.heap.size:=by
 rcases hx.ex with⟨h2,h3,h4⟩|⟨b',cur,h2,h3,h4,h5,h6,h7,h8,h9⟩
 ·rw[h2]at hb;cases hb
 ·rw[hb]at h2
  simp only[Option.some.injEq,Addr.mk.injEq,and_true]at h2;subst h2;have h9':g.k b=0:=by simpa using h9
  have hzl:(Builtin.zeroCells z.cells k).toList.length=k*sz:=by rw[Array.length_toList,size_zeroCells,hzs]
  have hfit:x.n*sz+0+(Builtin.zeroCells z.cells k).toList.length≤cur.size:=by rw[hzl,h6,Nat.add_zero,← Nat.add_mul];exact Nat.mul_le_mul_right _ hroom
  have hone:∀ v∈(Builtin.zeroCells z.cells k).toList,v.oneCell'=true:=by
   intro v hv';simp only[Builtin.zeroCells,Array.toList_map,List.mem_map]at hv';obtain⟨j,_,rfl⟩:=hv';exact hz1 _ (by rw[hzs];exact Nat.mod_lt _ hsz)
  have hst:=run_storeCells_at (P:=P) b (x.n*sz) e (Builtin.zeroCells z.cells k).toList 0 cur w h3 hfit hone;simp only[Nat.add_zero]at hst;obtain⟨m,rfl⟩:∃ m,k=m+1:=⟨k-1,by omega⟩;refine⟨_,by simp only[Builtin.clear_,List.getElem?_toArray,List.getElem?_cons_zero,Sem.run_bind,run_underlying ht,Result.andThen_ok,hv,hst];rfl,⟨hx.len,.inr ⟨b,_,hb,setRow_heap w b cur _ e _ h3,h4,h5,?_,?_,h8,h9⟩⟩,⟨rfl,rfl,rfl,by simp,fun _ _=>.inl rfl,fun _ _=>Nat.le_refl _,fun _ _ _ _=>rfl,fun d hd hd1 _=>setRow_other w b d _ (fun e=>hd1 (by rw[e,h8];exact hτ)),fun d hd j hj=>?_⟩,by simp⟩
  ·rw[hzl]at hfit ⊢
   simp only[List.size_toArray,List.length_append,List.length_take,List.length_drop,Array.length_toList,hzl];simp only[Nat.add_zero]at hfit;omega
  ·have hle:x.n*sz≤cur.toList.length:=by rw[Array.length_toList,h6];exact Nat.mul_le_mul_right _ h4
   show(cur.toList.take (x.n*sz)++_++_).take (x.n*sz)=xs;rw[List.append_assoc,List.take_append_of_le_length (by rw[List.length_take];omega),List.take_take,Nat.min_self,h7]
  ·exact World.cell?_of_block (w:=w) (setRow_other w b d _ (fun e=>by rw[e,h9']at hj;omega))
end
section
variable{fn:Func}{R:Ending→World→Prop}{B:Nat}{T:List Tg}{g:Gh}{w W:World}
theorem Jj(b o k:Nat):(⟨b,o,none⟩:Addr).add k=⟨b,o+k,none⟩:=by
 unfold Addr.add;split
 ·rename_i h;simp[]
 ·rfl
theorem gn(b n c l h m:Nat)(h1:l≤h)(h2:h≤m)(h3:m≤c)(h4:l<m):(Instr.sliceAt 98 (.slice (some ⟨b,0,none⟩) n c) (some (iv (l:Int))) (some (iv (h:Int))) (some (iv (m:Int)))).run prog W=.ok (.slice (some ⟨b,l*5,none⟩) (h-l) (m-l)) W:=by
 rw[run_sliceAt_slice _ _ _ _ _ _ unC,run_slice_lhm (P:=prog) (w:=W) _ _ _ _ unC .i64 .i64 .i64 l h m (by omega) (by omega) (by omega) (by omega),sz5];simp[Result.andThen,sliced,Jj];omega
theorem gm(b n c l h:Nat)(h1:l≤h)(h2:h≤c)(h4:l<c):(Instr.sliceAt 98 (.slice (some ⟨b,0,none⟩) n c) (some (iv (l:Int))) (some (iv (h:Int))) none).run prog W=.ok (.slice (some ⟨b,l*5,none⟩) (h-l) (c-l)) W:=by
 rw[run_sliceAt_slice _ _ _ _ _ _ unC,run_slice_lh (P:=prog) (w:=W) _ _ _ _ unC .i64 .i64 l h (by omega) (by omega) (by omega),sz5];simp[Result.andThen,sliced,Jj];omega
theorem go(b n c h:Nat)(h2:h≤c):(Instr.sliceAt 98 (.slice (some ⟨b,0,none⟩) n c) none (some (iv (h:Int))) none).run prog W=.ok (.slice (some ⟨b,0,none⟩) h c) W:=by
 rw[run_sliceAt_slice _ _ _ _ _ _ unC,run_slice_h (P:=prog) (w:=W) _ _ _ _ unC .i64 h (by omega) (by omega),sz5];simp[Result.andThen,sliced,Jj]
theorem gp(b n c l:Nat)(h2:l≤n):(Instr.sliceAt 98 (.slice (some ⟨b,0,none⟩) n c) (some (iv (l:Int))) none none).run prog W=.ok (.slice (some ⟨b,if c=l then 0 else l*5,none⟩) (n-l) (c-l)) W:=by
 rw[run_sliceAt_slice _ _ _ _ _ _ unC,run_slice_l (P:=prog) (w:=W) _ _ _ _ unC .i64 l (by omega) (by omega),sz5];simp[Result.andThen,sliced,Jj];split<;>simp
theorem ez{s:Xs}(i':Nat){τ:Tg}{x:S3}{xs:List Value}(ty:TypeId)(a:Addr)(m c:Nat)(news:List Value)(hx:OwnS g w τ false 44 5 x xs)
  (hsem:CP s i'=some (Builtin.append_ #[98,98] ty #[x.v,.slice (some a) m c]>>=fun v=>pure (.value v)))(hob:(nxt s i' undef s.L).o.map Ob.l'=(nxt s i' undef s.L).o.map Ob.r')(hT:s.L.all (fun y=>[τ].all fun t=>y.t.ne t)=true)
  (hm:0<x.c)(hl:news.length=m*5)(h1:∀ u∈news,u.oneCell'=true)(hnews:∀ j u,news[j]?=some u→w.cell? (a.add j)=some u)(hroom:x.n+m≤x.c)
  (hk:∀ w',OwnS g w' τ false 44 5 ⟨x.a,x.n+m,x.c⟩ (xs++news)→(∀ B T,τ∈T→Cg B T g w g w')→w'.heap.size=w.heap.size→GG prog fn R B T (nxt s i' (S3.v ⟨x.a,x.n+m,x.c⟩) s.L).s g w'):GG prog fn R B T s g w:=by
 refine Kk i' s.L hob (BE hsem) fun hK ops i o hop=>?_;obtain⟨inf,hi,hsz⟩:∃ inf,prog.info? 44=some inf∧inf.size=5:=by
  have h5:(prog.info? 44).map (·.size)=some 5:=by kernel_rfl
  cases hh:prog.info? 44 with
  | none=>rw[hh]at h5;cases h5
  | some v=>rw[hh]at h5;exact⟨v,rfl,by simpa using h5⟩
 obtain⟨w',hr,h2,h3,h4⟩:=ej (P:=prog) (B:=w.heap.size) (T:=[τ]) 98 ty 44 inf underlying98 hi (List.mem_singleton.2 rfl) (by rw[hsz];exact hx) a m c news hm (by rw[hsz];exact hl) hnews h1 hroom;rw[hsz]at h2
 have hC:∀ B T,τ∈T→Cg B T g w g w':=fun B T hT=>(h3.ret (B:=B)).mono fun t ht=>by rw[List.mem_singleton.1 ht];exact hT
 refine⟨S3.v ⟨x.a,x.n+m,x.c⟩,w',g,.inl ?_,hK.ch (hC _ [τ] (List.mem_singleton.2 rfl)) (fun b hb=>hK.new b (by rw[h4]at hb;exact hb)) hT,hk w' h2 hC h4⟩;rw[CT hsem hop,Sem.run_bind,hr,Result.andThen_ok];rfl
theorem fU(w:World):(zeroValue 44).run prog w=.ok (.agg #[iv 0,iv 0,iv 0,iv 0,iv 0]) w:=by kernel_rfl
theorem gd{s:Xs}(i':Nat){τ:Tg}{x:S3}{xs:List Value}(ty:TypeId){b:Nat}(hb:x.a=some ⟨b,0,none⟩)(k c:Nat)(hx:OwnS g w τ false 44 5 x xs)
  (hsem:CP s i'=some (Builtin.clear_ #[98] ty #[.slice (some ⟨b,x.n*5,none⟩) k c]>>=fun v=>pure (.value v)))(hob:(nxt s i' undef s.L).o.map Ob.l'=(nxt s i' undef s.L).o.map Ob.r')(hT:s.L.all (fun y=>[τ].all fun t=>y.t.ne t)=true)
  (hk0:0<k)(hroom:x.n+k≤x.c)
  (hk:∀ w',OwnS g w' τ false 44 5 x xs→(∀ B T,τ∈T→Cg B T g w g w')→w'.heap.size=w.heap.size→GG prog fn R B T (nxt s i' (.tuple #[]) s.L).s g w'):GG prog fn R B T s g w:=by
 refine Kk i' s.L hob (BE hsem) fun hK ops i o hop=>?_;obtain⟨w',hr,h2,h3,h4⟩:=er (P:=prog) (B:=w.heap.size) (T:=[τ]) 98 ty 44 (.agg #[iv 0,iv 0,iv 0,iv 0,iv 0]) 5 underlying98 fU rfl (by decide) (fun j hj=>by rcases five hj with rfl|rfl|rfl|rfl|rfl<;>rfl) (List.mem_singleton.2 rfl) hx hb k c hk0 hroom;have hC:∀ B T,τ∈T→Cg B T g w g w':=fun B T hT=>(h3.ret (B:=B)).mono fun t ht=>by rw[List.mem_singleton.1 ht];exact hT
 refine⟨.tuple #[],w',g,.inl ?_,hK.ch (hC _ [τ] (List.mem_singleton.2 rfl)) (fun b hb=>hK.new b (by rw[h4]at hb;exact hb)) hT,hk w' h2 hC h4⟩;rw[CT hsem hop,Sem.run_bind,hr,Result.andThen_ok];rfl
end
theorem sz1{W:World}:(Go.sizeOf (prog.elem 82)).run prog W=.ok 1 W:=by kernel_rfl
theorem unL:prog.underlying 82=some (.slice (prog.elem 82)):=by kernel_rfl
section
variable{fn:Func}{R:Ending→World→Prop}{B:Nat}{T:List Tg}{g:Gh}{w W:World}
theorem fm(b n c l h m:Nat)(h1:l≤h)(h2:h≤m)(h3:m≤c)(h4:l<m):(Instr.sliceAt 82 (.slice (some ⟨b,0,none⟩) n c) (some (iv (l:Int))) (some (iv (h:Int))) (some (iv (m:Int)))).run prog W=.ok (.slice (some ⟨b,l*1,none⟩) (h-l) (m-l)) W:=by
 rw[run_sliceAt_slice _ _ _ _ _ _ unL,run_slice_lhm (P:=prog) (w:=W) _ _ _ _ unL .i64 .i64 .i64 l h m (by omega) (by omega) (by omega) (by omega),sz1];simp[Result.andThen,sliced,Jj];omega
theorem fh(b n c l h:Nat)(h1:l≤h)(h2:h≤c)(h4:l<c):(Instr.sliceAt 82 (.slice (some ⟨b,0,none⟩) n c) (some (iv (l:Int))) (some (iv (h:Int))) none).run prog W=.ok (.slice (some ⟨b,l*1,none⟩) (h-l) (c-l)) W:=by
 rw[run_sliceAt_slice _ _ _ _ _ _ unL,run_slice_lh (P:=prog) (w:=W) _ _ _ _ unL .i64 .i64 l h (by omega) (by omega) (by omega),sz1];simp[Result.andThen,sliced,Jj];omega
theorem fp(b n c h:Nat)(h2:h≤c):(Instr.sliceAt 82 (.slice (some ⟨b,0,none⟩) n c) none (some (iv (h:Int))) none).run prog W=.ok (.slice (some ⟨b,0,none⟩) h c) W:=by
 rw[run_sliceAt_slice _ _ _ _ _ _ unL,run_slice_h (P:=prog) (w:=W) _ _ _ _ unL .i64 h (by omega) (by omega),sz1];simp[Result.andThen,sliced,Jj]
theorem fs(b n c l:Nat)(h2:l≤n):(Instr.sliceAt 82 (.slice (some ⟨b,0,none⟩) n c) (some (iv (l:Int))) none none).run prog W=.ok (.slice (some ⟨b,if c=l then 0 else l*1,none⟩) (n-l) (c-l)) W:=by
 rw[run_sliceAt_slice _ _ _ _ _ _ unL,run_slice_l (P:=prog) (w:=W) _ _ _ _ unL .i64 l (by omega) (by omega),sz1];simp[Result.andThen,sliced,Jj];split<;>simp
theorem cB{s:Xs}(i':Nat){τ:Tg}{x:S3}{xs:List Value}(ty:TypeId)(a:Addr)(m c:Nat)(news:List Value)(hx:OwnS g w τ false 165 1 x xs)
  (hsem:CP s i'=some (Builtin.append_ #[82,82] ty #[x.v,.slice (some a) m c]>>=fun v=>pure (.value v)))(hob:(nxt s i' undef s.L).o.map Ob.l'=(nxt s i' undef s.L).o.map Ob.r')(hT:s.L.all (fun y=>[τ].all fun t=>y.t.ne t)=true)
  (hm:0<x.c)(hl:news.length=m*1)(h1:∀ u∈news,u.oneCell'=true)(hnews:∀ j u,news[j]?=some u→w.cell? (a.add j)=some u)(hroom:x.n+m≤x.c)
  (hk:∀ w',OwnS g w' τ false 165 1 ⟨x.a,x.n+m,x.c⟩ (xs++news)→(∀ B T,τ∈T→Cg B T g w g w')→w'.heap.size=w.heap.size→GG prog fn R B T (nxt s i' (S3.v ⟨x.a,x.n+m,x.c⟩) s.L).s g w'):GG prog fn R B T s g w:=by
 refine Kk i' s.L hob (BE hsem) fun hK ops i o hop=>?_;obtain⟨inf,hi,hsz⟩:∃ inf,prog.info? 165=some inf∧inf.size=1:=by
  have h5:(prog.info? 165).map (·.size)=some 1:=by kernel_rfl
  cases hh:prog.info? 165 with
  | none=>rw[hh]at h5;cases h5
  | some v=>rw[hh]at h5;exact⟨v,rfl,by simpa using h5⟩
 obtain⟨w',hr,h2,h3,h4⟩:=ej (P:=prog) (B:=w.heap.size) (T:=[τ]) 82 ty 165 inf underlying82 hi (List.mem_singleton.2 rfl) (by rw[hsz];exact hx) a m c news hm (by rw[hsz];exact hl) hnews h1 hroom;rw[hsz]at h2
 have hC:∀ B T,τ∈T→Cg B T g w g w':=fun B T hT=>(h3.ret (B:=B)).mono fun t ht=>by rw[List.mem_singleton.1 ht];exact hT
 refine⟨S3.v ⟨x.a,x.n+m,x.c⟩,w',g,.inl ?_,hK.ch (hC _ [τ] (List.mem_singleton.2 rfl)) (fun b hb=>hK.new b (by rw[h4]at hb;exact hb)) hT,hk w' h2 hC h4⟩;rw[CT hsem hop,Sem.run_bind,hr,Result.andThen_ok];rfl
theorem dZ(w:World):(zeroValue 165).run prog w=.ok (.pointer none) w:=by kernel_rfl
theorem eA{s:Xs}(i':Nat){τ:Tg}{x:S3}{xs:List Value}(ty:TypeId){b:Nat}(hb:x.a=some ⟨b,0,none⟩)(k c:Nat)(hx:OwnS g w τ false 165 1 x xs)
  (hsem:CP s i'=some (Builtin.clear_ #[82] ty #[.slice (some ⟨b,x.n*1,none⟩) k c]>>=fun v=>pure (.value v)))(hob:(nxt s i' undef s.L).o.map Ob.l'=(nxt s i' undef s.L).o.map Ob.r')(hT:s.L.all (fun y=>[τ].all fun t=>y.t.ne t)=true)
  (hk0:0<k)(hroom:x.n+k≤x.c)
  (hk:∀ w',OwnS g w' τ false 165 1 x xs→(∀ B T,τ∈T→Cg B T g w g w')→w'.heap.size=w.heap.size→GG prog fn R B T (nxt s i' (.tuple #[]) s.L).s g w'):GG prog fn R B T s g w:=by
 refine Kk i' s.L hob (BE hsem) fun hK ops i o hop=>?_;obtain⟨w',hr,h2,h3,h4⟩:=er (P:=prog) (B:=w.heap.size) (T:=[τ]) 82 ty 165 (.pointer none) 1 underlying82 dZ rfl (by decide) (fun j hj=>match j,hj with|0,_=>rfl|j+1,h=>absurd h (by omega)) (List.mem_singleton.2 rfl) hx hb k c hk0 hroom;have hC:∀ B T,τ∈T→Cg B T g w g w':=fun B T hT=>(h3.ret (B:=B)).mono fun t ht=>by rw[List.mem_singleton.1 ht];exact hT
 refine⟨.tuple #[],w',g,.inl ?_,hK.ch (hC _ [τ] (List.mem_singleton.2 rfl)) (fun b hb=>hK.new b (by rw[h4]at hb;exact hb)) hT,hk w' h2 hC h4⟩;rw[CT hsem hop,Sem.run_bind,hr,Result.andThen_ok];rfl
end
theorem Ow{g:Gh}{w:World}{b n c:Nat}{l:List Nat}(hO:OwnS g w (.n 51 0) false 165 1 ⟨some ⟨b,0,none⟩,n,c⟩ (l.map (pt · 0)))(hg:∀ b,w.heap.size≤b→g.t b=.z∧g.k b=0)(j:Nat)(hj:j<l.length)(hb:l.length<100000000) :
  Calls prog 83 #[.slice (some ⟨b,0,none⟩) n c,iv (j:Int),iv ((j+1:Nat):Int)] w fun e w'=>∃ (x':S3) (g':Gh),e=.returned x'.v∧OwnS g' w' (.n 51 0) false 165 1 x' ((l.eraseIdx j).map (pt · 0))∧(∀ b,w'.heap.size≤b→g'.t b=.z∧g'.k b=0)∧Cg w.heap.size [.n 51 0] g w g' w':=by
 have hn:n=l.length:=by have:=hO.len;simp at this;omega
 have hc:n≤c:=by rcases hO.ex with⟨h,_⟩|⟨_,_,_,_,h,_⟩;cases h;exact h
 refine gI (fn:=f83) [.n 51 0] g func83 hg ?_;refine qR [] 11 [] fun s1 g1 w1 c1=>?_;refine qV 5 (.slice (some ⟨b,j*1,none⟩) (j+1-j) (n-j)) (fm b n c j (j+1) n (by omega) (by omega) (by omega) (by omega)) ?_;refine qR [] 8 [] fun s2 g2 w2 c2=>?_;refine qI (((j:Int)==((j+1:Nat):Int))) false (by simp;omega) ?_;refine qR [] 11 [8,0,2] fun s3 g3 w3 c3=>?_;refine qT 2 (.slice (some ⟨b,0,none⟩) j c) (fun _=>(fp b n c j (by omega))) ?_;refine qR [] 2 [6,8] fun s4 g4 w4 c4=>?_;refine qT 5 (.slice (some ⟨b,if c=j+1 then 0 else(j+1)*1,none⟩) (n-(j+1)) (c-(j+1))) (fun _=>(fs b n c (j+1) (by omega))) ?_;have hO1:=hO.ch (((c1.trans c2).trans c3).trans c4) (by simp) (by simp);have hO2:=hO1.cutTo (k:=j) (by show j≤n;omega) (by show 0<n;omega);refine cB 6 (x:=⟨some ⟨b,0,none⟩,j,c⟩) 82 ⟨b,if c=j+1 then 0 else(j+1)*1,none⟩ (n-(j+1)) (c-(j+1)) ((l.drop (j+1)).map (pt · 0)) hO2 (by kernel_rfl) (by kernel_rfl) (by kernel_rfl) (by show 0<c;omega) (by simp;omega) (by intro u hu;obtain⟨q,_,rfl⟩:=List.mem_map.1 hu;rfl) (fun q u hq=>?_) (by show j+(n-(j+1))≤c;omega) ?_
 ·have hlt:j+1<l.length:=by have h:=(List.getElem?_eq_some_iff.1 hq).1;simp at h;omega
  rw[if_neg (by omega),Jj];rw[List.map_drop,List.getElem?_drop]at hq
  obtain⟨b2,e2,_,h3⟩:=hO1.cell hq;simp only[Option.some.injEq,Addr.mk.injEq,and_true]at e2;subst e2;rw[show(j+1)*1+q=j+1+q by omega];exact h3
 intro w6 a6 cc6 hz6;have c6:=cc6 w.heap.size [.n 51 0] (List.mem_singleton.2 rfl);rw[show(l.map (pt · 0)).take (j*1)++(l.drop (j+1)).map (pt · 0)=(l.eraseIdx j).map (pt · 0)from by rw[Nat.mul_one,← List.map_take,← List.map_append,List.eraseIdx_eq_take_drop_succ]]at a6
 refine qR [] 8 [14] fun s7 g7 w7 c7=>?_;refine qV 4 (.slice (some ⟨b,(j+(n-(j+1)))*1,none⟩) (n-(j+(n-(j+1)))) (c-(j+(n-(j+1))))) (fh b (j+(n-(j+1))) c (j+(n-(j+1))) n (by omega) (by omega) (by omega)) ?_;refine eA 5 (x:=⟨some ⟨b,0,none⟩,(j+(n-(j+1))),c⟩) (b:=b) 0 rfl (n-(j+(n-(j+1)))) (c-(j+(n-(j+1)))) (a6.ch c7) (by kernel_rfl) (by kernel_rfl) (by kernel_rfl) (by omega) (by show(j+(n-(j+1)))+(n-(j+(n-(j+1))))≤c;omega) ?_;intro w9 a9 cc9 hz9;have c9:=cc9 w.heap.size [.n 51 0] (List.mem_singleton.2 rfl);refine qR [] 6 [] fun s10 g10 w10 c10=>?_;exact qE (S3.v ⟨some ⟨b,0,none⟩,(j+(n-(j+1))),c⟩) fun K=>⟨_,_,rfl,(a9.ch c10),K.new,((((((((c1.nil [.n 51 0]).n c2).n c3).n c4).trans c6).n c7).trans c9).n c10)⟩
end Go.Proofs.YtaeckakjdagddadGreatDoor
