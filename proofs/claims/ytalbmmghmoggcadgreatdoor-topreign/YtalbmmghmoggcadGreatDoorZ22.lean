/- Part 22 of the walk. -/
import Derived.Test.YtalbmmghmoggcadGreatDoorZ21
set_option maxRecDepth 100000
set_option maxHeartbeats 4000000
open Go.Proofs.Tryz
set_option linter.unusedVariables false
namespace Go.Proofs.YtalbmmghmoggcadGreatDoor
section
open Go.RowKit
section
variable{P:Program}{B:Nat}{T:List Tg}{g:Gh}{w:World}
section
variable{x:S3}{xs:List Value}{τ:Tg}
theorem OwnS.cutTo{e:TypeId}{sz:Nat}(h:OwnS g w τ false e sz x xs){k:Nat}(hk:k<=x.n)(hk0:0<x.n):OwnS g w τ false e sz ⟨x.a,k,x.c⟩ (xs.take (k*sz)):=by
 have hl:=h.len;have hm:k*sz<=x.n*sz:=kn _ hk;refine⟨by rw[iO];show min _ _=k*sz;omega,?_⟩;rcases h.ex with⟨h1,h2,h3⟩|⟨b,cur,h1,h2,h3,h4,h5,h6,h7,h8⟩
 .omega
 .refine .inr ⟨b,cur,h1,h2,iP hk h3,h4,h5,?_,h7,h8⟩;show cur.toList.take (k*sz)=xs.take (k*sz);rw[<- h6,kl,jR hm]
theorem fE(t ty e:TypeId)(i:TypeInfo)(ht:P.underlying t=some (.slice e))(hi:P.info? e=some i)(hτ:τ∈T)(hx:OwnS g w τ false e i.size x xs)(a:Addr)(m c:Nat)(news:List Value)(hm:0<x.c)(hl:news.length=m*i.size)(hnews:∀ j u,news[j]?=some u->w.cell? (a.add j)=some u)(h1:∀ u∈news,u.oneCell'=true)(hroom:x.n+m<=x.c) :
  ∃ w',(Builtin.append_ #[t,t] ty #[x.v,.slice (some a) m c]).run P w=.ok (S3.v ⟨x.a,x.n+m,x.c⟩) w'/\OwnS g w' τ false e i.size ⟨x.a,x.n+m,x.c⟩ (xs++news)/\Cg B T g w g w'/\w'.heap.size=w.heap.size:=by
 obtain⟨xa,xn,xc⟩:=x;have hlen:(xs++news).length=(xn+m)*i.size:=by rw[G',hx.len,hl,lH]
 rcases hx.ex with⟨h2,h3,h4⟩|⟨b,cur,h2,h3,h4,h5,h6,h7,h8,h9⟩
 .simp only at h4 hroom hm;omega
 .simp only at h2 h4 h5 h6 h7 hroom;subst h2;have hfit:xn*i.size+news.length<=cur.size:=by rw[hl,h6,<- lH];exact kn _ hroom
  have hr:=run_append_room (P:=P) w t ty e i ht hi b xn xc cur h3 a m c news hl hnews h1 hroom hfit;have h9':g.k b=0:=by simpa using h9
  refine⟨_,hr,⟨hlen,.inr ⟨b,_,rfl,setRow_heap w b cur _ e _ h3,hroom,h5,?_,?_,h8,by rw[h9'];rfl⟩⟩,⟨rfl,rfl,rfl,by simp,λ_ _=>.inl rfl,λ_ _=>A' _,λ_ _ _ _=>rfl,λd hd hd1 _=>setRow_other w b d _ (λe=>hd1 (by rw[e,h8];exact hτ)),λd hd j hj=>?_⟩,by simp⟩
  .simp only[ko,G',iO,iQ,jW];omega
  .rw[h7,<- hlen];exact l9
  .exact World.cell?_of_block (w:=w) (setRow_other w b d _ (λe=>by rw[e,h9']at hj;omega))
theorem fK(t ty e:TypeId)(z:Value)(sz:Nat)(ht:P.underlying t=some (.slice e))(hv:∀ w,(zeroValue e).run P w=.ok z w)(hzs:z.cells.size=sz)(hsz:0<sz)(hz1:∀ j,j<sz->(z.cells[j]!).oneCell'=true)(hτ:τ∈T)(hx:OwnS g w τ false e sz x xs){b:Nat}(hb:x.a=some ⟨b,0,none⟩)(k c:Nat)(hk:0<k)(hroom:x.n+k<=x.c) :
  ∃ w',(Builtin.clear_ #[t] ty #[.slice (some ⟨b,x.n*sz,none⟩) k c]).run P w=.ok (.tuple #[]) w'/\OwnS g w' τ false e sz x xs/\Cg B T g w g w'/\w'.heap.size=w.heap.size:=by
 rcases hx.ex with⟨h2,h3,h4⟩|⟨b',cur,h2,h3,h4,h5,h6,h7,h8,h9⟩
 .rw[h2]at hb;cases hb
 .rw[hb]at h2
  simp only[X',Addr.mk.injEq,and_true]at h2;subst h2;have h9':g.k b=0:=by simpa using h9
  have hzl:(Builtin.zeroCells z.cells k).toList.length=k*sz:=by rw[jW,size_zeroCells,hzs]
  have hfit:x.n*sz+0+(Builtin.zeroCells z.cells k).toList.length<=cur.size:=by rw[hzl,h6,kf,<- lH];exact kn _ hroom
  have hone:∀ v∈(Builtin.zeroCells z.cells k).toList,v.oneCell'=true:=by
   intro v hv';simp only[Builtin.zeroCells,Array.toList_map,ju]at hv';obtain⟨j,_,rfl⟩:=hv';exact hz1 _ (by rw[hzs];exact Nat.mod_lt _ hsz)
  have hst:=run_storeCells_at (P:=P) b (x.n*sz) e (Builtin.zeroCells z.cells k).toList 0 cur w h3 hfit hone;simp only[kf]at hst;obtain⟨m,rfl⟩:∃ m,k=m+1:=⟨k-1,by omega⟩;refine⟨_,by simp only[Builtin.clear_,jF,jT,Sem.run_bind,run_underlying ht,Result.andThen_ok,hv,hst];rfl,⟨hx.len,.inr ⟨b,_,hb,setRow_heap w b cur _ e _ h3,h4,h5,?_,?_,h8,h9⟩⟩,⟨rfl,rfl,rfl,by simp,λ_ _=>.inl rfl,λ_ _=>A' _,λ_ _ _ _=>rfl,λd hd hd1 _=>setRow_other w b d _ (λe=>hd1 (by rw[e,h8];exact hτ)),λd hd j hj=>?_⟩,by simp⟩
  .rw[hzl]at hfit ⊢
   simp only[ko,G',iO,iQ,jW,hzl];simp only[kf]at hfit;omega
  .have hle:x.n*sz<=cur.toList.length:=by rw[jW,h6];exact kn _ h4
   show(cur.toList.take (x.n*sz)++_++_).take (x.n*sz)=xs;rw[iR,jk (by rw[iO];omega),kl,Nat.min_self,h7]
  .exact World.cell?_of_block (w:=w) (setRow_other w b d _ (λe=>by rw[e,h9']at hj;omega))
end
end
section
variable{fn:Func}{R:Ending->World->Prop}{B:Nat}{T:List Tg}{g:Gh}{w W:World}
section
theorem JD(b o k:Nat):(⟨b,o,none⟩:Addr).add k=⟨b,o+k,none⟩:=by
 unfold Addr.add;split
 .rename_i h;simp[]
 .rfl
theorem i9(b n c l h m:Nat)(h1:l<=h)(h2:h<=m)(h3:m<=c)(h4:l<m):(Instr.sliceAt 37 (.slice (some ⟨b,0,none⟩) n c) (some (iv (l:Int))) (some (iv (h:Int))) (some (iv (m:Int)))).run prog W=.ok (.slice (some ⟨b,l*5,none⟩) (h-l) (m-l)) W:=by
 rw[run_sliceAt_slice _ _ _ _ _ _ unC,run_slice_lhm (P:=prog) (w:=W) _ _ _ _ unC .i64 .i64 .i64 l h m (by omega) (by omega) (by omega) (by omega),sz5];simp[Result.andThen,sliced,JD];omega
theorem i8(b n c l h:Nat)(h1:l<=h)(h2:h<=c)(h4:l<c):(Instr.sliceAt 37 (.slice (some ⟨b,0,none⟩) n c) (some (iv (l:Int))) (some (iv (h:Int))) none).run prog W=.ok (.slice (some ⟨b,l*5,none⟩) (h-l) (c-l)) W:=by
 rw[run_sliceAt_slice _ _ _ _ _ _ unC,run_slice_lh (P:=prog) (w:=W) _ _ _ _ unC .i64 .i64 l h (by omega) (by omega) (by omega),sz5];simp[Result.andThen,sliced,JD];omega
theorem iA(b n c h:Nat)(h2:h<=c):(Instr.sliceAt 37 (.slice (some ⟨b,0,none⟩) n c) none (some (iv (h:Int))) none).run prog W=.ok (.slice (some ⟨b,0,none⟩) h c) W:=by
 rw[run_sliceAt_slice _ _ _ _ _ _ unC,run_slice_h (P:=prog) (w:=W) _ _ _ _ unC .i64 h (by omega) (by omega),sz5];simp[Result.andThen,sliced,JD]
theorem iB(b n c l:Nat)(h2:l<=n):(Instr.sliceAt 37 (.slice (some ⟨b,0,none⟩) n c) (some (iv (l:Int))) none none).run prog W=.ok (.slice (some ⟨b,if c=l then 0 else l*5,none⟩) (n-l) (c-l)) W:=by
 rw[run_sliceAt_slice _ _ _ _ _ _ unC,run_slice_l (P:=prog) (w:=W) _ _ _ _ unC .i64 l (by omega) (by omega),sz5];simp[Result.andThen,sliced,JD];split<;>simp
variable{s:Xs}{x:S3}{xs:List Value}{τ:Tg}
theorem fP(i':Nat)(ty:TypeId)(a:Addr)(m c:Nat)(news:List Value)(hx:OwnS g w τ false 25 5 x xs)(hsem:De s i'=some (Builtin.append_ #[37,37] ty #[x.v,.slice (some a) m c]>>=λv=>pure (.value v)))(hob:(nxt s i' undef s.L).o.map Ob.l'=(nxt s i' undef s.L).o.map Ob.r')(hT:s.L.all (λy=>[τ].all λt=>y.t.ne t)=true)(hm:0<x.c)(hl:news.length=m*5)(h1:∀ u∈news,u.oneCell'=true)(hnews:∀ j u,news[j]?=some u->w.cell? (a.add j)=some u)(hroom:x.n+m<=x.c)(hk:∀ w',OwnS g w' τ false 25 5 ⟨x.a,x.n+m,x.c⟩ (xs++news)->(∀ B T,τ∈T->Cg B T g w g w')->w'.heap.size=w.heap.size->GG prog fn R B T (nxt s i' (S3.v ⟨x.a,x.n+m,x.c⟩) s.L).s g w'):GG prog fn R B T s g w:=by
 refine KO i' s.L hob (BT hsem) λhK ops i o hop=>?_;obtain⟨inf,hi,hsz⟩:∃ inf,prog.info? 25=some inf/\inf.size=5:=by
  have h5:(prog.info? 25).map (·.size)=some 5:=by kernel_rfl
  cases hh:prog.info? 25 with
  | none=>rw[hh]at h5;cases h5
  | some v=>rw[hh]at h5;exact⟨v,rfl,by simpa using h5⟩
 obtain⟨w',hr,h2,h3,h4⟩:=fE (P:=prog) (B:=w.heap.size) (T:=[τ]) 37 ty 25 inf underlying37 hi (O'.2 rfl) (by rw[hsz];exact hx) a m c news hm (by rw[hsz];exact hl) hnews h1 hroom;rw[hsz]at h2
 have hC:∀ B T,τ∈T->Cg B T g w g w':=λB T hT=>(h3.ret (B:=B)).mono λt ht=>by rw[O'.1 ht];exact hT
 refine⟨S3.v ⟨x.a,x.n+m,x.c⟩,w',g,.inl ?_,hK.ch (hC _ [τ] (O'.2 rfl)) (λb hb=>hK.new b (by rw[h4]at hb;exact hb)) hT,hk w' h2 hC h4⟩;rw[Di hsem hop,Sem.run_bind,hr,Result.andThen_ok];rfl
theorem il(w:World):(zeroValue 25).run prog w=.ok (.agg #[iv 0,iv 0,iv 0,iv 0,iv 0]) w:=by kernel_rfl
theorem iw(i':Nat)(ty:TypeId){b:Nat}(hb:x.a=some ⟨b,0,none⟩)(k c:Nat)(hx:OwnS g w τ false 25 5 x xs)(hsem:De s i'=some (Builtin.clear_ #[37] ty #[.slice (some ⟨b,x.n*5,none⟩) k c]>>=λv=>pure (.value v)))(hob:(nxt s i' undef s.L).o.map Ob.l'=(nxt s i' undef s.L).o.map Ob.r')(hT:s.L.all (λy=>[τ].all λt=>y.t.ne t)=true)(hk0:0<k)(hroom:x.n+k<=x.c)(hk:∀ w',OwnS g w' τ false 25 5 x xs->(∀ B T,τ∈T->Cg B T g w g w')->w'.heap.size=w.heap.size->GG prog fn R B T (nxt s i' (.tuple #[]) s.L).s g w'):GG prog fn R B T s g w:=by
 refine KO i' s.L hob (BT hsem) λhK ops i o hop=>?_;obtain⟨w',hr,h2,h3,h4⟩:=fK (P:=prog) (B:=w.heap.size) (T:=[τ]) 37 ty 25 (.agg #[iv 0,iv 0,iv 0,iv 0,iv 0]) 5 underlying37 il rfl (by decide) (λj hj=>by rcases five hj with rfl|rfl|rfl|rfl|rfl<;>rfl) (O'.2 rfl) hx hb k c hk0 hroom;have hC:∀ B T,τ∈T->Cg B T g w g w':=λB T hT=>(h3.ret (B:=B)).mono λt ht=>by rw[O'.1 ht];exact hT
 refine⟨.tuple #[],w',g,.inl ?_,hK.ch (hC _ [τ] (O'.2 rfl)) (λb hb=>hK.new b (by rw[h4]at hb;exact hb)) hT,hk w' h2 hC h4⟩;rw[Di hsem hop,Sem.run_bind,hr,Result.andThen_ok];rfl
end
end
theorem sz1{W:World}:(Go.sizeOf (prog.elem 92)).run prog W=.ok 1 W:=by kernel_rfl
theorem unL:prog.underlying 92=some (.slice (prog.elem 92)):=by kernel_rfl
section
variable{fn:Func}{R:Ending->World->Prop}{B:Nat}{T:List Tg}{g:Gh}{w W:World}
section
theorem gy(b n c l h m:Nat)(h1:l<=h)(h2:h<=m)(h3:m<=c)(h4:l<m):(Instr.sliceAt 92 (.slice (some ⟨b,0,none⟩) n c) (some (iv (l:Int))) (some (iv (h:Int))) (some (iv (m:Int)))).run prog W=.ok (.slice (some ⟨b,l*1,none⟩) (h-l) (m-l)) W:=by
 rw[run_sliceAt_slice _ _ _ _ _ _ unL,run_slice_lhm (P:=prog) (w:=W) _ _ _ _ unL .i64 .i64 .i64 l h m (by omega) (by omega) (by omega) (by omega),sz1];simp[Result.andThen,sliced,JD];omega
theorem gx(b n c l h:Nat)(h1:l<=h)(h2:h<=c)(h4:l<c):(Instr.sliceAt 92 (.slice (some ⟨b,0,none⟩) n c) (some (iv (l:Int))) (some (iv (h:Int))) none).run prog W=.ok (.slice (some ⟨b,l*1,none⟩) (h-l) (c-l)) W:=by
 rw[run_sliceAt_slice _ _ _ _ _ _ unL,run_slice_lh (P:=prog) (w:=W) _ _ _ _ unL .i64 .i64 l h (by omega) (by omega) (by omega),sz1];simp[Result.andThen,sliced,JD];omega
theorem gB(b n c h:Nat)(h2:h<=c):(Instr.sliceAt 92 (.slice (some ⟨b,0,none⟩) n c) none (some (iv (h:Int))) none).run prog W=.ok (.slice (some ⟨b,0,none⟩) h c) W:=by
 rw[run_sliceAt_slice _ _ _ _ _ _ unL,run_slice_h (P:=prog) (w:=W) _ _ _ _ unL .i64 h (by omega) (by omega),sz1];simp[Result.andThen,sliced,JD]
theorem gD(b n c l:Nat)(h2:l<=n):(Instr.sliceAt 92 (.slice (some ⟨b,0,none⟩) n c) (some (iv (l:Int))) none none).run prog W=.ok (.slice (some ⟨b,if c=l then 0 else l*1,none⟩) (n-l) (c-l)) W:=by
 rw[run_sliceAt_slice _ _ _ _ _ _ unL,run_slice_l (P:=prog) (w:=W) _ _ _ _ unL .i64 l (by omega) (by omega),sz1];simp[Result.andThen,sliced,JD];split<;>simp
variable{s:Xs}{x:S3}{xs:List Value}{τ:Tg}
theorem dL(i':Nat)(ty:TypeId)(a:Addr)(m c:Nat)(news:List Value)(hx:OwnS g w τ false 169 1 x xs)(hsem:De s i'=some (Builtin.append_ #[92,92] ty #[x.v,.slice (some a) m c]>>=λv=>pure (.value v)))(hob:(nxt s i' undef s.L).o.map Ob.l'=(nxt s i' undef s.L).o.map Ob.r')(hT:s.L.all (λy=>[τ].all λt=>y.t.ne t)=true)(hm:0<x.c)(hl:news.length=m*1)(h1:∀ u∈news,u.oneCell'=true)(hnews:∀ j u,news[j]?=some u->w.cell? (a.add j)=some u)(hroom:x.n+m<=x.c)(hk:∀ w',OwnS g w' τ false 169 1 ⟨x.a,x.n+m,x.c⟩ (xs++news)->(∀ B T,τ∈T->Cg B T g w g w')->w'.heap.size=w.heap.size->GG prog fn R B T (nxt s i' (S3.v ⟨x.a,x.n+m,x.c⟩) s.L).s g w'):GG prog fn R B T s g w:=by
 refine KO i' s.L hob (BT hsem) λhK ops i o hop=>?_;obtain⟨inf,hi,hsz⟩:∃ inf,prog.info? 169=some inf/\inf.size=1:=by
  have h5:(prog.info? 169).map (·.size)=some 1:=by kernel_rfl
  cases hh:prog.info? 169 with
  | none=>rw[hh]at h5;cases h5
  | some v=>rw[hh]at h5;exact⟨v,rfl,by simpa using h5⟩
 obtain⟨w',hr,h2,h3,h4⟩:=fE (P:=prog) (B:=w.heap.size) (T:=[τ]) 92 ty 169 inf underlying92 hi (O'.2 rfl) (by rw[hsz];exact hx) a m c news hm (by rw[hsz];exact hl) hnews h1 hroom;rw[hsz]at h2
 have hC:∀ B T,τ∈T->Cg B T g w g w':=λB T hT=>(h3.ret (B:=B)).mono λt ht=>by rw[O'.1 ht];exact hT
 refine⟨S3.v ⟨x.a,x.n+m,x.c⟩,w',g,.inl ?_,hK.ch (hC _ [τ] (O'.2 rfl)) (λb hb=>hK.new b (by rw[h4]at hb;exact hb)) hT,hk w' h2 hC h4⟩;rw[Di hsem hop,Sem.run_bind,hr,Result.andThen_ok];rfl
theorem fs(w:World):(zeroValue 169).run prog w=.ok (.pointer none) w:=by kernel_rfl
theorem fQ(i':Nat)(ty:TypeId){b:Nat}(hb:x.a=some ⟨b,0,none⟩)(k c:Nat)(hx:OwnS g w τ false 169 1 x xs)(hsem:De s i'=some (Builtin.clear_ #[92] ty #[.slice (some ⟨b,x.n*1,none⟩) k c]>>=λv=>pure (.value v)))(hob:(nxt s i' undef s.L).o.map Ob.l'=(nxt s i' undef s.L).o.map Ob.r')(hT:s.L.all (λy=>[τ].all λt=>y.t.ne t)=true)(hk0:0<k)(hroom:x.n+k<=x.c)(hk:∀ w',OwnS g w' τ false 169 1 x xs->(∀ B T,τ∈T->Cg B T g w g w')->w'.heap.size=w.heap.size->GG prog fn R B T (nxt s i' (.tuple #[]) s.L).s g w'):GG prog fn R B T s g w:=by
 refine KO i' s.L hob (BT hsem) λhK ops i o hop=>?_;obtain⟨w',hr,h2,h3,h4⟩:=fK (P:=prog) (B:=w.heap.size) (T:=[τ]) 92 ty 169 (.pointer none) 1 underlying92 fs rfl (by decide) (λj hj=>match j,hj with|0,_=>rfl|j+1,h=>absurd h (by omega)) (O'.2 rfl) hx hb k c hk0 hroom;have hC:∀ B T,τ∈T->Cg B T g w g w':=λB T hT=>(h3.ret (B:=B)).mono λt ht=>by rw[O'.1 ht];exact hT
 refine⟨.tuple #[],w',g,.inl ?_,hK.ch (hC _ [τ] (O'.2 rfl)) (λb hb=>hK.new b (by rw[h4]at hb;exact hb)) hT,hk w' h2 hC h4⟩;rw[Di hsem hop,Sem.run_bind,hr,Result.andThen_ok];rfl
end
end
theorem Pd{g:Gh}{w:World}{b n c:Nat}{l:List Nat}(hO:OwnS g w (.n 51 0) false 169 1 ⟨some ⟨b,0,none⟩,n,c⟩ (l.map (pt · 0)))(hg:∀ b,w.heap.size<=b->g.t b=.z/\g.k b=0)(j:Nat)(hj:j<l.length)(hb:l.length<100000000) :
  Calls prog 92 #[.slice (some ⟨b,0,none⟩) n c,iv (j:Int),iv ((j+1:Nat):Int)] w λe w'=>∃ (x':S3) (g':Gh),e=.returned x'.v/\OwnS g' w' (.n 51 0) false 169 1 x' ((l.eraseIdx j).map (pt · 0))/\(∀ b,w'.heap.size<=b->g'.t b=.z/\g'.k b=0)/\Cg w.heap.size [.n 51 0] g w g' w':=by
 have hn:n=l.length:=by have:=hO.len;simp at this;omega
 have hc:n<=c:=by rcases hO.ex with⟨h,_⟩|⟨_,_,_,_,h,_⟩;cases h;exact h
 refine gI (fn:=f92) [.n 51 0] g func92 hg ?_;refine qR [] 11 [] λs1 g1 w1 c1=>?_;refine qV 5 (.slice (some ⟨b,j*1,none⟩) (j+1-j) (n-j)) (gy b n c j (j+1) n (by omega) (by omega) (by omega) (by omega)) ?_;refine qR [] 8 [] λs2 g2 w2 c2=>?_;refine qI (((j:Int)==((j+1:Nat):Int))) false (by simp;omega) ?_;refine qR [] 11 [8,0,2] λs3 g3 w3 c3=>?_;refine qT 2 (.slice (some ⟨b,0,none⟩) j c) (λ_=>(gB b n c j (by omega))) ?_;refine qR [] 2 [6,8] λs4 g4 w4 c4=>?_;refine qT 5 (.slice (some ⟨b,if c=j+1 then 0 else(j+1)*1,none⟩) (n-(j+1)) (c-(j+1))) (λ_=>(gD b n c (j+1) (by omega))) ?_;have hO1:=hO.ch (((c1.trans c2).trans c3).trans c4) (by simp) (by simp);have hO2:=hO1.cutTo (k:=j) (by show j<=n;omega) (by show 0<n;omega);refine dL 6 (x:=⟨some ⟨b,0,none⟩,j,c⟩) 92 ⟨b,if c=j+1 then 0 else(j+1)*1,none⟩ (n-(j+1)) (c-(j+1)) ((l.drop (j+1)).map (pt · 0)) hO2 (by kernel_rfl) (by kernel_rfl) (by kernel_rfl) (by show 0<c;omega) (by simp;omega) (by intro u hu;obtain⟨q,_,rfl⟩:=ju.1 hu;rfl) (λq u hq=>?_) (by show j+(n-(j+1))<=c;omega) ?_
 .have hlt:j+1<l.length:=by have h:=(Q'.1 hq).1;simp at h;omega
  rw[if_neg (by omega),JD];rw[List.map_drop,jB]at hq
  obtain⟨b2,e2,_,h3⟩:=hO1.cell hq;simp only[X',Addr.mk.injEq,and_true]at e2;subst e2;rw[show(j+1)*1+q=j+1+q by omega];exact h3
 intro w6 a6 cc6 hz6;have c6:=cc6 w.heap.size [.n 51 0] (O'.2 rfl);rw[show(l.map (pt · 0)).take (j*1)++(l.drop (j+1)).map (pt · 0)=(l.eraseIdx j).map (pt · 0)from by rw[mG,<- lV,<- iS,lJ]]at a6
 refine qR [] 8 [14] λs7 g7 w7 c7=>?_;refine qV 4 (.slice (some ⟨b,(j+(n-(j+1)))*1,none⟩) (n-(j+(n-(j+1)))) (c-(j+(n-(j+1))))) (gx b (j+(n-(j+1))) c (j+(n-(j+1))) n (by omega) (by omega) (by omega)) ?_;refine fQ 5 (x:=⟨some ⟨b,0,none⟩,(j+(n-(j+1))),c⟩) (b:=b) 0 rfl (n-(j+(n-(j+1)))) (c-(j+(n-(j+1)))) (a6.ch c7) (by kernel_rfl) (by kernel_rfl) (by kernel_rfl) (by omega) (by show(j+(n-(j+1)))+(n-(j+(n-(j+1))))<=c;omega) ?_;intro w9 a9 cc9 hz9;have c9:=cc9 w.heap.size [.n 51 0] (O'.2 rfl);refine qR [] 6 [] λs10 g10 w10 c10=>?_;exact qE (S3.v ⟨some ⟨b,0,none⟩,(j+(n-(j+1))),c⟩) λK=>⟨_,_,rfl,(a9.ch c10),K.new,((((((((c1.nil [.n 51 0]).n c2).n c3).n c4).trans c6).n c7).trans c9).n c10)⟩
end
section
section
variable{M:Meet}{i k m n:Nat}{p:Nod}
theorem NOk.mono(h:NOk n p)(hn:n<=m):NOk m p:={ h with wa:=iP h.wa hn }
theorem NOk.zero(n:Nat):NOk n CV:=⟨jf _,A' _,jf _,jf _,λc h=>(by cases h),⟨jH _,by decide⟩,Aw.b0,BB.nil,λ_=>BB.nil,λq h=>(by cases h)⟩
theorem NOk.bare(n:Nat)(p:Nod)(up:Bool)(d:List Int)(sy:Int){vo:Acc}(h1:Aw vo.p)(h2:BB vo.vs)(l:List Pend)(hl:∀ q∈l,POk 0 q):NOk n (p.bare up d sy vo l):=⟨jf _,A' _,jf _,jf _,λc h=>(by cases h),⟨jH _,by show(0:Int)<=65536;decide⟩,h1,h2,λ_=>BB.nil,hl⟩
theorem NOk.crash(h:NOk n p)(k:Int):NOk n (p.crash k)/\Au (p.crash k).pend<=Au p.pend/\(p.crash k).wants.length<=p.wants.length/\(p.crash k).bad=p.bad:=by
 unfold Nod.crash;split
 .exact⟨h,A' _,A' _,rfl⟩
 .exact⟨NOk.bare n p _ _ _ Aw.b0 BB.nil [] (λq hq=>(by cases hq)),jf _,jf _,rfl⟩
theorem NOk.start(h:NOk n p):NOk n p.start/\Au p.start.pend<=Au p.pend+4/\p.start.wants.length<=p.wants.length/\p.start.bad=p.bad:=by
 have hr:=aU p.d p.sy;have hq:∀ q∈[Pend.start],POk 0 q:=λq hq=>by rw[O'.1 hq];trivial
 unfold Nod.start;split
 .exact⟨h,mq _ _,A' _,rfl⟩
 .split
  .exact⟨NOk.bare n p _ _ _ hr.1 hr.2 _ hq,by show 4<=_;omega,jf _,rfl⟩
  .exact⟨NOk.bare n p _ _ _ hr.1 hr.2 _ hq,by show 4<=_;omega,jf _,rfl⟩
theorem Fc(p:Nod)(b:Bal):(p.promise b).1.wants=p.wants/\(p.promise b).1.bad=p.bad/\(p.promise b).1.asked=p.asked/\(p.promise b).1.done=p.done/\(p.promise b).1.rounds=p.rounds:=by
 unfold Nod.promise;split
 .exact⟨rfl,rfl,rfl,rfl,rfl⟩
 .split
  .exact⟨rfl,rfl,rfl,rfl,rfl⟩
  .split<;>exact⟨rfl,rfl,rfl,rfl,rfl⟩
theorem NOk.lead(h:NOk n p)(i:Nat):NOk n (p.lead i)/\Au (p.lead i).pend<=Au p.pend+4/\(p.lead i).wants=p.wants/\(p.lead i).bad=p.bad:=by
 unfold Nod.lead;simp only;split
 .exact⟨h,mq _ _,rfl,rfl⟩
 .have hp:=h.promise ⟨max p.rounds p.vo.p.r+1,(i:Int)⟩;have hr:=Fc p ⟨max p.rounds p.vo.p.r+1,(i:Int)⟩;have h1:NOk n { (p.promise ⟨max p.rounds p.vo.p.r+1,(i:Int)⟩).1 with rnd:=⟨⟨max p.rounds p.vo.p.r+1,(i:Int)⟩,λ_=>false,λ_=>Ej,λ_=>p.agreed.length,0,[]⟩ }:={ hp.1 with qu:=jf _,he:=λ_=>BB.nil };refine⟨h1.wait hp.2.2.2.1,?_,hr.1,hr.2.1⟩;show Au ((p.promise _).1.pend++[_])<=_;rw[Fb,hp.2.1];exact A' _
theorem NOk.want(h:NOk n p)(c:Cmd):NOk (n+1) (p.want c)/\(p.want c).wants.length<=p.wants.length+1/\(p.want c).pend=p.pend/\(p.want c).bad=p.bad:=by
 unfold Nod.want;split
 .exact⟨h.mono (jP _),jP _,rfl,rfl⟩
 .refine⟨{ h with wa:=?_,ask:=λd hd=>?_ },by simp,rfl,rfl⟩
  .have:=h.wa;simp;omega
  .unfold Ex at hd;simp only at hd ⊢;split at hd
   .rename_i e;exact V'.2 (.inr (O'.2 e))
   .exact V'.2 (.inl (h.ask d hd))
theorem NOk.subm(h:NOk n p)(i:Nat)(e:Int)(c:Cmd)(ts:List Tol):NOk (n+1) (p.sub0 i e c ts).1/\(p.sub0 i e c ts).1.pend=p.pend/\(p.sub0 i e c ts).2.length+(p.sub0 i e c ts).1.wants.length<=ts.length+p.wants.length+1/\(p.sub0 i e c ts).1.bad<=p.bad+1:=by
 have h1:=h.mono (jP n);unfold Nod.sub0;split
 .exact⟨h1,rfl,jP _,jP _⟩
 .split
  .exact⟨{ h1 with },rfl,jP _,A' _⟩
  .split
   .exact⟨h1,rfl,by simp;omega,jP _⟩
   .have:=h.want c;exact⟨this.1,this.2.2.1,by have:=this.2.1;simp only;omega,by rw[this.2.2.2];exact jP _⟩
theorem NC(p:Nod)(v:Vt):(p.vote v).1.wants=p.wants/\(p.vote v).1.bad=p.bad:=by
 unfold Nod.vote;split
 .exact⟨rfl,rfl⟩
 .split
  .exact⟨rfl,rfl⟩
  .split<;>exact⟨rfl,rfl⟩
theorem Jz(p:Nod)(to:Nat)(e:Int):(p.refuse to e).wants=p.wants/\(p.refuse to e).bad=p.bad:=by unfold Nod.refuse;split<;>exact⟨rfl,rfl⟩
theorem EM(p:Nod)(j:Nat)(v:Vt):(p.count j v).wants=p.wants/\(p.count j v).bad=p.bad/\(p.count j v).pend=p.pend:=by
 unfold Nod.count;split
 .exact⟨rfl,rfl,rfl⟩
 .split<;>exact⟨rfl,rfl,rfl⟩
theorem EP(p:Nod)(l:List Cmd):(p.enqueue l).wants=p.wants/\(p.enqueue l).bad=p.bad:=by unfold Nod.enqueue;split<;>exact⟨rfl,rfl⟩
theorem Vv(p:Nod)(l:Let):(p.take l).wants=p.wants/\(p.take l).bad=p.bad:=by
 unfold Nod.take;split
 .split
  .exact Jz _ _ _
  .exact⟨(Fc p l.bal).1,(Fc p l.bal).2.1⟩
 .simp only;split<;>exact⟨rfl,rfl⟩
 .exact⟨rfl,rfl⟩
 .split
  .exact Jz _ _ _
  .exact NC p l.vote
 .exact⟨(EM p _ _).1,(EM p _ _).2.1⟩
 .split<;>exact⟨rfl,rfl⟩
 .simp only;split
  .exact EP p l.what
  .exact EP p l.what
 .exact⟨rfl,rfl⟩
theorem Vf(p:Nod)(i:Nat)(q:Pend):(p.runP i q).wants=p.wants/\(p.runP i q).bad=p.bad:=by
 cases q with
 | began b vs=>unfold Nod.runP;simp only;split<;>exact⟨rfl,rfl⟩
 | prop v=>exact⟨(EM p i v).1,(EM p i v).2.1⟩
 | _=>exact⟨rfl,rfl⟩
theorem QY(i:Nat)(l:List Pend)(p:Nod)(ls:List Let):(doneP i l p ls).1.wants=p.wants/\(doneP i l p ls).1.bad=p.bad:=by
 induction l generalizing p ls with
 | nil=>exact⟨rfl,rfl⟩
 | cons q l ih =>
  have h1:=ih (p.runP i q) (ls++p.sentP i q);have h2:=Vf p i q;exact⟨h1.1.trans h2.1,h1.2.trans h2.2⟩
theorem Zv(i:Nat)(l:List Cmd)(p:Nod)(ts:List Tol):(doP i l p ts).1.bad=p.bad:=by
 induction l generalizing p ts with
 | nil=>rfl
 | cons c l ih =>
  rw[doP];split
  .rfl
  .rw[ih];unfold Nod.unwant;split<;>rfl
theorem RX(p:Nod)(i:Nat)(ls:List Let)(ts:List Tol):(p.piece i ls ts).1.wants=(doP i (p.agreed.drop p.done) p ts).1.wants/\(p.piece i ls ts).1.bad=p.bad:=by
 have h1:∀ q:Nod,(q.askd i).1.wants=q.wants/\(q.askd i).1.bad=q.bad:=by
  intro q;unfold Nod.askd;split
  .exact⟨rfl,rfl⟩
  .split
   .exact EP _ _
   .exact⟨rfl,rfl⟩
 have h2:∀ q:Nod,q.propose.wants=q.wants/\q.propose.bad=q.bad:=by
  intro q;unfold Nod.propose;split
  .exact⟨rfl,rfl⟩
  .split
   .exact⟨rfl,rfl⟩
   .split
    .exact⟨rfl,rfl⟩
    .exact NC q _
 have h3:∀ (q:Nod) (ls:List Let),(q.syncd i ls).1.wants=q.wants/\(q.syncd i ls).1.bad=q.bad:=by
  intro q ls;unfold Nod.syncd;split
  .exact⟨rfl,rfl⟩
  .have:=QY i q.pend { q.syn with pend:=[] } ls;have hs:q.syn.wants=q.wants/\q.syn.bad=q.bad:=by unfold Nod.syn;split<;>exact⟨rfl,rfl⟩
   exact⟨this.1.trans hs.1,this.2.trans hs.2⟩
 have h4:∀ (q:Nod) (ls:List Let),(q.taught i ls).1.wants=q.wants/\(q.taught i ls).1.bad=q.bad:=by
  intro q ls;unfold Nod.taught;split<;>exact⟨rfl,rfl⟩
 have hd:=Zv i (p.agreed.drop p.done) p ts;unfold Nod.piece;simp only;rw[(h4 _ _).1,(h3 _ _).1,(h2 _).1,(h1 _).1,(h4 _ _).2,(h3 _ _).2,(h2 _).2,(h1 _).2];exact⟨rfl,hd⟩
def pw(M:Meet):Nat:=Au (M.node 0).pend+Au (M.node 1).pend+Au (M.node 2).pend+Au (M.node 3).pend+Au (M.node 4).pend
def ww(M:Meet):Nat:=(M.node 0).wants.length+(M.node 1).wants.length+(M.node 2).wants.length+(M.node 3).wants.length+(M.node 4).wants.length
theorem XV(M:Meet)(hi:i<5)(p:Nod)(ls:List Let)(ts:List Tol):pw (M.set i p ls ts)+Au (M.node i).pend=pw M+Au p.pend:=by
 unfold pw Meet.set;rcases five hi with rfl|rfl|rfl|rfl|rfl<;>simp[upN]<;>omega
theorem YS(M:Meet)(hi:i<5)(p:Nod)(ls:List Let)(ts:List Tol):ww (M.set i p ls ts)+(M.node i).wants.length=ww M+p.wants.length:=by
 unfold ww Meet.set;rcases five hi with rfl|rfl|rfl|rfl|rfl<;>simp[upN]<;>omega
theorem PW(M:Meet)(hi:i<5):Au (M.node i).pend<=pw M:=by
 unfold pw;rcases five hi with rfl|rfl|rfl|rfl|rfl<;>omega
theorem gZ(M:Meet)(hi:i<5):(M.node i).wants.length<=ww M:=by
 unfold ww;rcases five hi with rfl|rfl|rfl|rfl|rfl<;>omega
structure MOk(n:Nat)(M:Meet):Prop where
 node:∀ i,i<5->NOk n (M.node i)
 lets:∀ l∈M.lets,LOk l
 wt:M.lets.length+pw M<=10*n
 told:M.told.length+ww M<=n
 bad:∀ i,i<5->(M.node i).bad<=n
theorem MOk.zero:MOk 0 AK:=⟨λ_ _=>NOk.zero 0,λl h=>(by cases h),A' _,A' _,λ_ _=>A' _⟩
theorem MOk.mono(h:MOk n M)(hn:n<=m):MOk m M:=⟨λi hi=>(h.node i hi).mono hn,h.lets,by have:=h.wt;omega,by have:=h.told;omega,λi hi=>iP (h.bad i hi) hn⟩
theorem MOk.set(h:MOk n M)(hi:i<5){ls:List Let}{ts:List Tol}(h1:NOk (n+1) p)(h2:∀ l∈ls,LOk l)(h3:ls.length+Au p.pend<=M.lets.length+Au (M.node i).pend+10)(h4:ts.length+p.wants.length<=M.told.length+(M.node i).wants.length+1)(h5:p.bad<=(M.node i).bad+1):MOk (n+1) (M.set i p ls ts):=by
 have e1:=XV M hi p ls ts;have e2:=YS M hi p ls ts;have:=h.wt;have:=h.told;refine⟨λj hj=>?_,h2,by show ls.length+_<=_;omega,by show ts.length+_<=_;omega,λj hj=>?_⟩
 .show NOk (n+1) (upN M.node i p j);unfold upN;split
  .exact h1
  .exact(h.node j hj).mono (jP _)
 .show(upN M.node i p j).bad<=n+1;unfold upN;split
  .have:=h.bad i hi;omega
  .have:=h.bad j hj;omega
structure COk(n k:Nat)(M:Meet):Prop where
 node:∀ i,i<5->NOk n (M.node i)
 wt:k+M.lets.length+pw M<=10*n
 told:M.told.length+ww M<=n
 bad:∀ i,i<5->(M.node i).bad<=n
 lets:∀ l∈M.lets,LOk l
theorem COk.come(h:COk n (k+1) M){l:Let}(hl:LOk l):COk n k (M.come l)/\(M.come l).lets=M.lets:=by
 have hw:=h.wt;unfold Meet.come;split
 .have ht:=(h.node l.dst hl.dst).take hl;have hr:=Vv (M.node l.dst) l;have e1:=XV M hl.dst ((M.node l.dst).take l) M.lets M.told;have e2:=YS M hl.dst ((M.node l.dst).take l) M.lets M.told;have e3:pw (M.put l.dst ((M.node l.dst).take l))=pw (M.set l.dst ((M.node l.dst).take l) M.lets M.told):=rfl;have e4:ww (M.put l.dst ((M.node l.dst).take l))=ww (M.set l.dst ((M.node l.dst).take l) M.lets M.told):=rfl;have:=h.told;rw[hr.1]at e2
  refine⟨⟨λj hj=>?_,by show k+M.lets.length+_<=_;have:=ht.2.1;omega,by show M.told.length+_<=_;omega,λj hj=>?_,h.lets⟩,rfl⟩
  .show NOk n (upN M.node l.dst _ j);unfold upN;split
   .exact ht.1
   .exact h.node j hj
  .show(upN M.node l.dst _ j).bad<=n;unfold upN;split
   .rw[hr.2];exact h.bad _ hl.dst
   .exact h.bad j hj
 .exact⟨⟨h.node,by omega,h.told,h.bad,h.lets⟩,rfl⟩
theorem COk.all(ls:List Let)(h:COk n ls.length M)(hl:∀ l∈ls,LOk l):COk n 0 (ls.foldl (λM l=>M.come l) M):=by
 induction ls generalizing M with
 | nil=>exact h
 | cons l ls ih=>exact ih ((h.come (hl l U')).1) λm hm=>hl m (P' _ hm)
theorem COk.ok(h:COk n k M):MOk n M:=⟨h.node,h.lets,by have:=h.wt;omega,h.told,h.bad⟩
theorem MOk.comeAll(h:MOk n M):MOk n M.comeAll :=
 (COk.all M.lets (M:={ M with lets:=[] }) ⟨h.node,by show M.lets.length+0+pw M<=_;exact h.wt,h.told,h.bad,λl hl=>(by cases hl)⟩ h.lets).ok
theorem MOk.move(h:MOk n M)(k:Int)(a:Nat):MOk (n+1) (M.move k a):=by
 have hw:=h.wt;have h1:=h.mono (jP n);unfold Meet.move;split
 .exact h1
 .rename_i l hl
  have hll:LOk l:=h.lets l (jg hl);have he:∀ m∈M.lets.eraseIdx (a%M.lets.length),LOk m:=λm hm=>h.lets m (k9 hm);have hlen:(M.lets.eraseIdx (a%M.lets.length)).length<=M.lets.length:=List.length_eraseIdx_le _ _;have hA:COk (n+1) 1 (if k≠6 then{ M with lets:=M.lets.eraseIdx (a%M.lets.length) }else M):=by
   split
   .exact⟨h1.node,by show 1+(M.lets.eraseIdx _).length+pw M<=_;omega,h1.told,h1.bad,he⟩
   .exact⟨h1.node,by omega,h1.told,h1.bad,h.lets⟩
  simp only;split
  .exact(hA.come hll).1.ok
  .exact hA.ok
theorem MOk.act(h:MOk n M)(hn:n<=1000000){x:Lac}(hx:LacOk x):MOk (n+1) (M.act x):=by
 have hi:x.n.toNat<5:=by
  cases hu:Fi x.k with
  | true=>have:=hx.n hu;omega
  | false=>have:=hx.n0 hu;omega
 have hp:=h.node _ hi;have h1:=hp.mono (jP n);unfold Meet.act;simp only;split
 .have hs:=hp.subm x.n.toNat (opE x.d ((M.node x.n.toNat).done:Int)) (Li x.d ((M.node x.n.toNat).done:Int)) M.told;exact h.set hi hs.1 h.lets (by unfold Nod.subm;rw[hs.2.1];omega) (by unfold Nod.subm;omega) (by unfold Nod.subm;omega)
 .split
  .split
   .have hl:=h1.lead x.n.toNat;exact h.set hi hl.1 h.lets (by omega) (by rw[hl.2.2.1];omega) (by rw[hl.2.2.2];omega)
   .exact h.set hi h1 h.lets (by omega) (by omega) (by omega)
  .split
   .by_cases hu:(M.node x.n.toNat).up=true
    .rw[if_pos hu,if_pos hu,if_pos hu];have hpc:=h1.piece hi (ls:=M.lets) (ts:=M.told) (by have:=PW M hi;have:=h.wt;omega) h.lets;have hr:=RX (M.node x.n.toNat) x.n.toNat M.lets M.told;exact h.set hi hpc.1 hpc.2.1 hpc.2.2.1 (by rw[hr.1];have:=hpc.2.2.2;omega) (by rw[hr.2];omega)
    .rw[if_neg hu,if_neg hu,if_neg hu];exact h.set hi h1 h.lets (by omega) (by omega) (by omega)
   .split
    .exact h.move _ _
    .split
     .exact h.comeAll.mono (jP _)
     .split
      .split
       .have hc:=h1.crash x.p;exact h.set hi hc.1 h.lets (by omega) (by omega) (by rw[hc.2.2.2];omega)
       .exact h.set hi h1 h.lets (by omega) (by omega) (by omega)
      .split
       .split
        .exact h.set hi h1 h.lets (by omega) (by omega) (by omega)
        .have hc:=h1.start;exact h.set hi hc.1 h.lets (by omega) (by omega) (by rw[hc.2.2.2];omega)
       .exact h.mono (jP _)
end
end
section
open Go.RowKit
section
variable{M:Meet}{W w w0:World}{b j mb n ob tb:Nat}{g:Gh}{l:List Let}{nb:Nat->Nat}{x:S3}
theorem gw{P:Program}{x y:Operand}(a b:Nat)(hk:P.underlying 3=some (.int .i64))(ha:a<9223372036854775808)(hb:0<b)(hb2:b<9223372036854775808):(do Go.eqGuard .rem 3 x y (iv (a:Int)) (iv (b:Int));Go.binOp .rem 3 (iv (a:Int)) (iv (b:Int)):Sem Value).run P W=.ok (iv ((a%b:Nat):Int)) W:=by
 have h1:Int.tmod (a:Int) (b:Int)=((a%b:Nat):Int):=rfl;have h0:¬ b=0:=by omega
 simp only[Go.eqGuard,go_sem,Op.intDiv];simp[h0,h1]
theorem cP{c:Nat}(j:Nat)(hj:j<n):(Instr.indexAt 92 (.slice (some ⟨b,0,none⟩) n c) (iv (j:Int))).run prog W=.ok (pt b j) W :=
 PZ (P:=prog) (e:=169) (z:=1) underlying92 (by kernel_rfl) (by kernel_rfl) hj _ (by omega)
theorem ew(hx:x.a=some ⟨b,0,none⟩)(j:Nat)(hj:j<x.n):(Instr.indexAt 92 x.v (iv (j:Int))).run prog W=.ok (pt b j) W:=by
 unfold S3.v;rw[hx];exact cP j hj
theorem FzL.cell{vs:List Value}(h:FzL g w x vs)(hb:x.a=some ⟨b,0,none⟩){u:Value}(hj:vs[j]?=some u):w.cell? ⟨b,j,none⟩=some u:=by
 obtain⟨c,h1,_,_,h4⟩:=h.at_ j u hj;rw[hb]at h1
 simp only[X',Addr.mk.injEq,and_true]at h1;subst h1;exact h4
theorem MS.outs{g':Gh}{w':World}{B:Nat}(h:MS mb tb ob nb g w M)(c:Cg B [.n 50 0,.n 51 0] g w g' w'){lt tl:S3}{ls:List Let}(ho:OutAt g' w' ob lt tl ls M.told)(hn:Iy g' w'):MS mb tb ob nb g' w' { M with lets:=ls } :=
 ⟨h.box.ch c,h.tk.ch c,λi hi=>let ⟨x,hx⟩:=h.node i hi;⟨x,hx.ch c (by simp) (λr hr=>by simp;omega)⟩,⟨lt,tl,ho⟩,hn⟩
theorem Lets.erase{bs:List Nat}(h:Lets g w bs l)(j:Nat):Lets g w (bs.eraseIdx j) (l.eraseIdx j):=by
 refine⟨by rw[List.length_eraseIdx,List.length_eraseIdx,h.len],λk b m h1 h2=>?_⟩;rw[List.getElem?_eraseIdx]at h1 h2
 split at h1
 .rename_i hk;rw[if_pos hk]at h2;exact h.at_ _ _ _ h1 h2
 .rename_i hk;rw[if_neg hk]at h2;exact h.at_ _ _ _ h1 h2
theorem Wx{c:Let}(h:l[j]?=some c):l.drop j=c::l.drop (j+1):=by
 obtain⟨h1,h2⟩:=Q'.1 h;rw[<- h2];exact js h1
theorem X4(k:Int)(a:Nat)(h:M.lets.length=0):M.move k a=M:=by
 unfold Meet.move;rw[iN h];rfl
theorem aq{k:Int}{a:Nat}{l:Let}(h:M.lets[a%M.lets.length]?=some l):M.move k a=(if k≠5 then(if k≠6 then{ M with lets:=M.lets.eraseIdx (a%M.lets.length) }else M).come l else if k≠6 then{ M with lets:=M.lets.eraseIdx (a%M.lets.length) }else M):=by
 unfold Meet.move;rw[h]
theorem Lc(h:MS mb tb ob nb g w M)(hB:Base w0 g w)(hT:Tabs w0)(k:Int)(a:Nat)(ha:a<=1048576)(hm:MOk n M)(hn:n<=1000000) :
  Calls prog 51 #[pt mb 0,iv k,iv (a:Int)] w (MP mb tb ob nb g w (.tuple #[]) (M.move k a)):=by
 obtain⟨lt,tl,hO⟩:=h.out;obtain⟨bs,hL,hLs⟩:=hO.lets;have hln:lt.n=M.lets.length:=by have:=hL.len;have:=hLs.len;simp at *;omega
 have hwt:=hm.wt;refine gI (fn:=f51) TM g func51 h.new ?_;refine BW ⟨mb,_,.z,false⟩ (λ_=>⟨h.box.r,h.box.z,λh=>(by cases h),λh=>absurd rfl h⟩) (by kernel_rfl) ?_;refine qO hO ?_;refine qR [] 18 [0,1] λs1 g1 w1 c1=>?_;by_cases h1:lt.n=0
 .refine qI (((lt.n:Int)==0)) true (by simp;omega) ?_;refine qE (.tuple #[]) λK=>?_;rw[X4 k a (by omega)];exact⟨_,rfl,(h.ch0 c1 K.new),(c1.nil TM)⟩
 .refine qI (((lt.n:Int)==0)) false (by simp;omega) ?_;obtain⟨j,hj⟩:∃ j,j=a%M.lets.length:=⟨_,rfl⟩;have hjl:j<M.lets.length:=by rw[hj];exact Nat.mod_lt _ (by omega)
  obtain⟨l,hl⟩:∃ l,M.lets[j]?=some l:=⟨_,E' hjl⟩;obtain⟨lb,hlb⟩:∃ lb,bs[j]?=some lb:=⟨_,E' (by rw[hLs.len];exact hjl)⟩;have hlo:=hm.lets l (jg hl);have hLA:=hLs.at_ j lb l hlb hl;obtain⟨b,hb,hbs,hbc⟩:=hL.cell (j:=j) (u:=pt lb 0) (by rw[jh,hlb];rfl);rw[aq (hj▸hl)];rw[<- hj];obtain⟨la,lq,lc⟩:=lt;simp only at hb hln;subst hb;refine qR [] 5 [] λs3 g3 w3 c3=>?_;have hjr {x y:Operand}:∀ {W:World},(do Go.eqGuard .rem 3 x y (iv (a:Int)) (iv (lq:Int));Go.binOp .rem 3 (iv (a:Int)) (iv (lq:Int)):Sem Value).run prog W=.ok (iv (j:Int)) W:=λ{W}=>by rw[hj,<- hln];exact gw a lq underlying3 (by omega) (by omega) (by omega)
  refine qV 2 (iv (j:Int)) (hjr (x:=(.tmp 19)) (y:=(.tmp 20))) ?_;refine qR [] 12 [0,1] λs4 g4 w4 c4=>?_;refine qV 8 (pt b j) (cP (b:=b) (n:=lq) (c:=lc) j (by omega)) ?_;refine qV 9 (pt lb 0) (BD underlying169 rfl ((Below.cell (Cg.below ((c1.trans c3).trans c4) (λ_ _=>M')) (p:=⟨b,j,none⟩) hbs).trans hbc)) ?_;refine qR [] 8 [] λs6 g6 w6 c6=>?_;by_cases h2:k≠6
  .refine qI ((k != 6)) true (by simpa using h2) ?_;have h20:k≠6:=by simpa using h2
   rw[if_pos h20];refine qR [] 14 [17,0,2,4,6,0,8,10,12,14,0,16,18,20,1,22,24] λs7 g7 w7 c7=>?_;refine qT 13 (iv ((j+1:Nat):Int)) (λ_=>(AD (x:=(.tmp 46)) (y:=(.const (iv 1))) (j:Int) 1 underlying3 (by omega))) ?_;refine Ag λK=>?_;refine qG 14 [.n 51 0] [true,true] (Pd (hL.ch ((((c1.trans c3).trans c4).trans c6).trans c7) (by simp) (by simp)) K.new j (by rw[hLs.len];exact hjl) (by rw[hLs.len];omega)) ?_;rintro e' w9 ⟨y9,g9,rfl,a9,n9,c9⟩;refine⟨_,g9,rfl,c9,n9,?_⟩;replace c9:=c9.ret (B:=w.heap.size);refine qR [.n 50 0] 9 [30,32,35,1,1] λs10 g10 w10 c10=>?_;refine Ag λK=>?_;have C9:Cg w.heap.size [.n 50 0,.n 51 0] g w g10 w10:=(((((((c1.nil [.n 50 0,.n 51 0]).n c3).n c4).n c6).n c7).trans (c9.mono (by simp))).trans (c10.mono (by simp)));obtain⟨o1,o2,o3⟩:=K.isN 1 ob (.cells #[S3.v y9,S3.v tl] 94) 50 0 (by kernel_rfl);have MS9:MS mb tb ob nb g10 w10 { M with lets:=M.lets.eraseIdx j }:=h.outs C9 ⟨o1,o2,o3,⟨bs.eraseIdx j,(a9.ch c10),(hLs.erase j).ch C9⟩,hO.told.ch C9⟩ K.new;by_cases h3:k≠5
   .refine qI ((k != 5)) true (by simpa using h3) ?_;rw[if_pos (show k≠5 from by simpa using h3)];refine qR [] 3 [] λs11 g11 w11 c11=>?_;refine Ag λK=>?_;have N12:MS mb tb ob nb g11 w11 ({ M with lets:=M.lets.eraseIdx j }):=(MS9.ch0 c11 K.new);refine qG 2 TM [true,false] (K8 N12 (hB.ch ((((((((c1.nil TM).n c3).n c4).n c6).n c7).trans (c9.mono (by simp[TM,TN]))).trans (c10.mono (by simp[TM,TN]))).n c11) EF) hT lb l (hLA.ch ((((((((c1.nil TM).n c3).n c4).n c6).n c7).trans (c9.mono (by simp[TM,TN]))).trans (c10.mono (by simp[TM,TN]))).n c11) EF) hlo (hm.node l.dst hlo.dst) (by have:=D6 (M.node l.dst).pend;have:=PW M hlo.dst;show(M.node l.dst).pend.length<_;omega)) ?_;rintro e' w12 ⟨g12,rfl,M12,c12⟩;refine⟨_,g12,rfl,c12,M12.new,?_⟩;replace c12:=c12.ret (B:=w.heap.size);refine qR [] 1 [] λs13 g13 w13 c13=>?_;refine qE (.tuple #[]) λK=>?_;exact⟨_,rfl,(M12.ch0 c13 K.new),((((((((((c1.nil TM).n c3).n c4).n c6).n c7).trans (c9.mono (by simp[TM,TN]))).trans (c10.mono (by simp[TM,TN]))).n c11).trans (c12)).n c13)⟩
   .refine qI ((k != 5)) false (by simpa using h3) ?_;refine qR [] 1 [] λs14 g14 w14 c14=>?_;rw[if_neg (show ¬ k≠5 from by simpa using h3)];refine qE (.tuple #[]) λK=>?_;exact⟨_,rfl,(MS9.ch0 c14 K.new),((((((((c1.nil TM).n c3).n c4).n c6).n c7).trans (c9.mono (by simp[TM,TN]))).trans (c10.mono (by simp[TM,TN]))).n c14)⟩
  .refine qI ((k != 6)) false (by simpa using h2) ?_;have h20:¬ k≠6:=by simpa using h2
   rw[if_neg h20];refine qR [] 6 [] λs15 g15 w15 c15=>?_;by_cases h3:k≠5
   .refine qI ((k != 5)) true (by simpa using h3) ?_;rw[if_pos (show k≠5 from by simpa using h3)];refine qR [] 3 [] λs16 g16 w16 c16=>?_;refine Ag λK=>?_;have N17:MS mb tb ob nb g16 w16 M:=(h.ch0 (((((c1.trans c3).trans c4).trans c6).trans c15).trans c16) K.new);refine qG 2 TM [true,false] (K8 N17 (hB.ch ((((((c1.nil TM).n c3).n c4).n c6).n c15).n c16) EF) hT lb l (hLA.ch ((((((c1.nil TM).n c3).n c4).n c6).n c15).n c16) EF) hlo (hm.node l.dst hlo.dst) (by have:=D6 (M.node l.dst).pend;have:=PW M hlo.dst;show(M.node l.dst).pend.length<_;omega)) ?_;rintro e' w17 ⟨g17,rfl,M17,c17⟩;refine⟨_,g17,rfl,c17,M17.new,?_⟩;replace c17:=c17.ret (B:=w.heap.size);refine qR [] 1 [] λs18 g18 w18 c18=>?_;refine qE (.tuple #[]) λK=>?_;exact⟨_,rfl,(M17.ch0 c18 K.new),((((((((c1.nil TM).n c3).n c4).n c6).n c15).n c16).trans (c17)).n c18)⟩
   .refine qI ((k != 5)) false (by simpa using h3) ?_;refine qR [] 1 [] λs19 g19 w19 c19=>?_;rw[if_neg (show ¬ k≠5 from by simpa using h3)];refine qE (.tuple #[]) λK=>?_;exact⟨_,rfl,(h.ch0 (((((c1.trans c3).trans c4).trans c6).trans c15).trans c19) K.new),((((((c1.nil TM).n c3).n c4).n c6).n c15).n c19)⟩
theorem OY(h:MS mb tb ob nb g w M)(hB:Base w0 g w)(hT:Tabs w0)(hm:MOk n M)(hn:n<=1000000) :
  Calls prog 52 #[pt mb 0] w (MP mb tb ob nb g w (.tuple #[]) M.comeAll):=by
 obtain⟨lt,tl,hO⟩:=h.out;obtain⟨bs,hL,hLs⟩:=hO.lets;have hln:lt.n=M.lets.length:=by have:=hL.len;have:=hLs.len;simp at *;omega
 have hwt:=hm.wt;refine gI (fn:=f52) TM g func52 h.new ?_;refine BW ⟨mb,_,.z,false⟩ (λ_=>⟨h.box.r,h.box.z,λh=>(by cases h),λh=>absurd rfl h⟩) (by kernel_rfl) ?_;refine qO hO ?_;refine ix hL (by kernel_rfl) λgF cF hF=>?_;refine qR [.n 50 0] 28 [0,1,0,1,1] λs1 g1 w1 c1=>?_;refine Ag λK0=>?_;refine BI 28 [(0,pt mb 0),(18,S3.v lt),(19,iv (lt.n:Int)),(20,iv 0)] [true,false] [⟨mb,.cells (mtA nb ob tb) 100,.z,false⟩] (λk g' w' e L=>∃ (j:Nat) (A:Meet),k=M.lets.length-j/\j<=M.lets.length/\e=[(0,pt mb 0),(18,S3.v lt),(19,iv (lt.n:Int)),(20,iv (j:Int))]/\L=[⟨mb,.cells (mtA nb ob tb) 100,.z,false⟩]/\MS mb tb ob nb g' w' A/\(M.lets.drop j).foldl (λM l=>M.come l) A=M.comeAll/\COk n (M.lets.length-j) A/\FzL g' w' lt (bs.map (pt · 0))/\Lets g' w' bs M.lets/\Cg w.heap.size TM g w g' w') (by kernel_rfl) (by kernel_rfl) (by kernel_rfl) (by kernel_rfl) M.lets.length (λK=>?_) ?_
 .have C9:Cg w.heap.size [.n 50 0,.n 51 0] g w g1 w1:=((cF.mono (by simp)).trans (c1.mono (by simp)));obtain⟨o1,o2,o3⟩:=K0.isN 1 ob (.cells #[S3.v s30,S3.v tl] 94) 50 0 (by kernel_rfl);exact⟨0,{ M with lets:=[] },rfl,jf _,rfl,rfl,h.outs C9 ⟨o1,o2,o3,⟨[],OwnS.nil _ _ _ _ _ _,⟨rfl,λk b m h=>(by cases h)⟩⟩,hO.told.ch C9⟩ K.new,rfl,⟨hm.node,by show M.lets.length+0+pw M<=_;exact hwt,hm.told,hm.bad,λl hl=>(by cases hl)⟩,(hF.fz.ch c1),hLs.ch C9,C9.mono (by simp[TM,TN])⟩
 .rintro k gr wr _ zr _ ⟨j,A,rfl,hj,rfl,rfl,hM,hI,hA,hFz,hLt,hC⟩ J hJ;have hfn:=hFz.n;refine qR [] 5 [] λs2 g2 w2 c2=>?_;by_cases h0:j<M.lets.length
  .refine qI ((decide ((j:Int)<(lt.n:Int)))) true (I' (by omega)) ?_;obtain⟨l,hl⟩:∃ l,M.lets[j]?=some l:=⟨_,E' h0⟩;obtain⟨lb,hlb⟩:∃ lb,bs[j]?=some lb:=⟨_,E' (by rw[hLs.len];exact h0)⟩;have hlo:=hm.lets l (jg hl);have hLA:=hLt.at_ j lb l hlb hl;have hvj:(bs.map (pt · 0))[j]?=some (pt lb 0):=by rw[jh,hlb];rfl
   obtain⟨b,hb,_⟩:=hFz.at_ j (pt lb 0) hvj;obtain⟨kk,hkk⟩:∃ kk,M.lets.length-j=kk+1:=⟨M.lets.length-j-1,by omega⟩;rw[hkk]at hA
   have hcm:=hA.come hlo;rw[Wx hl,mD]at hI
   refine qR [] 5 [] λs3 g3 w3 c3=>?_;refine qV 0 (pt b j) (ew hb j (by omega)) ?_;refine qV 1 (pt lb 0) (BD underlying169 rfl (((hFz.ch c2).ch c3).cell hb hvj)) ?_;refine qR [] 5 [] λs5 g5 w5 c5=>?_;refine Ag λK=>?_;have N6:MS mb tb ob nb g5 w5 A:=(hM.ch0 ((c2.trans c3).trans c5) K.new);refine qG 2 TM [true] (K8 N6 (hB.ch ((((hC.n c2).n c3).n c5)) EF) hT lb l (hLA.ch (((c2.nil TM).n c3).n c5) EF) hlo (hA.node l.dst hlo.dst) (by have:=hA.wt;have:=D6 (A.node l.dst).pend;have:=PW A hlo.dst;omega)) ?_;rintro e' w6 ⟨g6,rfl,M6,c6⟩;refine⟨_,g6,rfl,c6,M6.new,?_⟩;replace c6:=c6.ret (B:=w.heap.size);refine qR [] 3 [] λs7 g7 w7 c7=>?_;refine qV 0 (iv ((j:Int)+1)) (AD (x:=(.tmp 20)) (y:=(.const (iv 1))) (j:Int) 1 underlying3 (by omega)) ?_;refine qR [] 2 [] λs8 g8 w8 c8=>?_;exact qB [true] λz K0 K=>hJ (M.lets.length-(j+1)) _ _ _ z _ (by omega) ⟨j+1,A.come l,rfl,by omega,rfl,rfl,(M6.ch0 (c7.trans c8) K0.new),hI,(by rw[show M.lets.length-(j+1)=kk by omega];exact hcm.1),((((((hFz.ch c2).ch c3).ch c5).ch c6).ch c7).ch c8),hLt.ch ((((((c2.nil TM).n c3).n c5).trans (c6)).n c7).n c8) EF,((((((hC.n c2).n c3).n c5).trans c6).n c7).n c8)⟩ K
  .refine qI ((decide ((j:Int)<(lt.n:Int)))) false (D' (by omega)) ?_;refine qR [] 1 [] λs9 g9 w9 c9=>?_;obtain rfl:j=M.lets.length:=by omega
   rw[j7]at hI
   rw[<- hI];refine qE (.tuple #[]) λK=>?_;exact⟨_,rfl,(hM.ch0 (c2.trans c9) K.new),((hC.n c2).n c9)⟩
end
end
end Go.Proofs.YtalbmmghmoggcadGreatDoor
