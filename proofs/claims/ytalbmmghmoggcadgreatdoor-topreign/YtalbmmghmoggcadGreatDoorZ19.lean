/- Part 19 of the walk. -/
import Derived.LoopN
import Derived.Test.YtalbmmghmoggcadGreatDoorZ16
set_option maxRecDepth 100000
set_option maxHeartbeats 4000000
open Go.Proofs.Tryz
set_option linter.unusedVariables false
namespace Go.Proofs.YtalbmmghmoggcadGreatDoor
open Go.RowKit
section
def cmG(c:Cmd):Value:=.agg #[iv c.k,iv c.c,iv c.s,iv c.n,iv c.v]
theorem Ti(x:Cmd × Bal × Nat):(mkA x).key=cmG x.1:=rfl
theorem W9(u v:Cmd)(w:World):(Op.equal 25 (cmG u) (cmG v)).run prog w=.ok (decide (u=v)) w:=by
 have h1:=SP u.k u.c u.s u.n u.v v.k v.c v.s v.n v.v w;rw[NR]at h1
 rw[run_eql_struct]at h1
 show(Op.equalIn 10000 _ _ _).run _ _=_;simp only[cmG];cases hr:(Op.equalIn 10000 25 (.agg #[iv u.k,iv u.c,iv u.s,iv u.n,iv u.v]) (.agg #[iv v.k,iv v.c,iv v.s,iv v.n,iv v.v])).run prog w with
 | ok b w'=>simp only[hr]at h1;simp[Result.andThen]at h1;rw[h1.1,h1.2]
 | _=>simp only[hr]at h1;simp[Result.andThen]at h1
abbrev Ask:=Cmd × Bal × Nat
def KJ(v:Cmd):List Ask->Nat->Option (Nat × Value)
 | [],_=>none
 | x::c,i=>if v=x.1 then some (i,(mkA x).val)else KJ v c (i+1)
theorem MD(v:Cmd)(w:World):∀ (c:List Ask) (i:Nat),(Instr.findAsking 25 (cmG v) (c.map mkA) i).run prog w=.ok (KJ v c i) w
 | [],i=>by simp[Instr.findAsking,KJ]
 | x::c,i=>by
  have h:=W9 v x.1 w;rw[ji,Instr.findAsking,Sem.run_bind];rw[Ti,h,Result.andThen_ok,KJ];by_cases e:v=x.1
  .rw[I' e,if_pos e];rfl
  .rw[D' e,if_neg e];simpa using MD v w c (i+1)
theorem Ge(v:Cmd)(w:World)(c:List Ask):(Instr.findKey 25 (cmG v) (c.map mkA)).run prog w=.ok (KJ v c 0) w:=by
 rw[Instr.findKey,Sem.run_bind,run_underlying underlying25 w,Result.andThen_ok];cases c with
 | nil=>simp[Instr.findNow,KJ]
 | cons x c =>
  show Sem.run _ (match(none:Option (Option (Nat × Value)))with|some r=>pure r|none=>Instr.findAsking 25 (cmG v) ((x::c).map mkA)) w=_;exact MD v w (x::c) 0
theorem E2(em:Bool)(v:Cmd)(w:World):(Instr.checkKey em 10000 25 (cmG v)).run prog w=.ok () w:=by
 obtain⟨k,c,q,m,x⟩:=v;kernel_rfl
theorem bj(v:Cmd)(n:Nat):Instr.sameBits (n+1) (cmG v) (cmG v)=true:=by simp[Instr.sameBits,cmG]
theorem Yv(v:Cmd)(w:World):(Instr.keyThatStays (cmG v) (cmG v)).run prog w=.ok (cmG v) w:=by
 rw[Instr.keyThatStays,if_pos (bj v 9999)];rfl
def Ft(c:List Ask)(v:Cmd):Option Bal:=(c.find? λx=>decide (v=x.1)).map (·.2.1)
theorem Kf(v:Cmd):∀ (c:List Ask) (i:Nat),(KJ v c i=none/\Ft c v=none/\∀ x∈c,v≠x.1)\/∃ a x b,c=a++x::b/\x.1=v/\(∀ y∈a,v≠y.1)/\KJ v c i=some (i+a.length,(mkA x).val)/\Ft c v=some x.2.1
 | [],i=>.inl ⟨rfl,rfl,λx hx=>by cases hx⟩
 | x::c,i=>by
  by_cases e:v=x.1
  .refine .inr ⟨[],x,c,rfl,e.symm,λy hy=>(M' hy).elim,?_,?_⟩
   .rw[KJ,if_pos e];rfl
   .simp[Ft,e]
  .rcases Kf v c (i+1)with⟨h1,h2,h3⟩|⟨a,y,b,rfl,hy,h3,h4,h5⟩
   .refine .inl ⟨by rw[KJ,if_neg e,h1],?_,λy hy=>?_⟩
    .rw[<- h2];simp[Ft,e]
    .rcases iX.1 hy with rfl|hy
     .exact e
     .exact h3 y hy
   .refine .inr ⟨x::a,y,b,rfl,hy,λz hz=>?_,?_,?_⟩
    .rcases iX.1 hz with rfl|hz
     .exact e
     .exact h3 z hz
    .rw[KJ,if_neg e,h4];simp;omega
    .rw[<- h5];simp[Ft,e]
def JE(b:Bal):Value:=.agg #[iv b.r,iv b.n]
variable{b:Nat}{f:Cmd->Option Bal}{g:Gh}{w:World}{τ:Tg}
theorem cR(h:AskAt g w τ b f)(v:Cmd)(ok:Bool):(Instr.lookup 116 (.map (some b)) (cmG v) ok).run prog w=.ok (if ok then .tuple #[JE ((f v).getD Cc),.bool (f v).isSome]else JE ((f v).getD Cc)) w:=by
 obtain⟨_,_,c,k,hb,_,_,_,hf⟩:=h;have hf2:f v=Ft c v:=hf v;have hg:(getObj b).run prog w=.ok (.map (c.map mkA).toArray k) w:=by simp[getObj,Sem.run,hb]
 rcases Kf v c 0 with⟨h1,h2,_⟩|⟨a,x,d,_,_,_,h1,h2⟩
 .rw[h2]at hf2
  cases ok<;>simp[Instr.lookup,run_underlying underlying116,hg,E2,Ge,h1,hf2,JE,Cc]
 .rw[h2]at hf2
  cases ok<;>simp[Instr.lookup,run_underlying underlying116,hg,E2,Ge,h1,hf2,mkA,JE]
theorem Cg.block{B:Nat}{T:List Tg}{es:Array MapEntry}{k:Nat}(hb:w.heap[b]?=some (.map es k))(ht:g.t b=τ)(hk:g.k b=0)(hτ:τ∈T)(o:Obj):Cg B T g w g (ChangeMaps.setBlock w b o) :=
 have hne:∀ b',g.t b'∉T->b'≠b:=λb' h e=>h (by rw[e,ht];exact hτ)
 ⟨rfl,rfl,rfl,by simp[ChangeMaps.setBlock],λ_ _=>.inl rfl,λ_ _=>A' _,λ_ _ _ _=>rfl,λb' _ h _=>ChangeMaps.heap_setBlock_other hb o (hne b' h),
  λb' _ j hj=>World.cell?_of_block (w:=w) (ChangeMaps.heap_setBlock_other hb o (λe=>by have e':b'=b:=e;rw[e',hk]at hj;omega))⟩
theorem Uk(c:List Ask)(v u:Cmd)(x:Bal)(k:Nat)(h:∀ y∈c,v≠y.1):Ft (c++[(v,x,k)]) u=if u=v then some x else Ft c u:=by
 unfold Ft;rw[j2];by_cases e:u=v
 .subst e;have hn:c.find? (λy=>decide (u=y.1))=none:=by
   rw[j6];intro y hy;simp[h y hy]
  simp[hn]
 .rw[if_neg e];simp[e]
theorem WD(a d:List Ask)(v u:Cmd)(x y:Bal)(k:Nat)(h:∀ y∈a,v≠y.1):Ft (a++(v,y,k)::d) u=if u=v then some y else Ft (a++(v,x,k)::d) u:=by
 unfold Ft;rw[j2,j2,kN,kN];by_cases e:u=v
 .subst e;have hn:a.find? (λy=>decide (u=y.1))=none:=by
   rw[j6];intro y hy;simp[h y hy]
  simp[hn]
 .rw[if_neg e];simp[e]
theorem WE(a d:List Ask)(v u:Cmd)(x:Bal)(k:Nat)(h:∀ y∈a,v≠y.1)(h2:∀ y∈d,v≠y.1):Ft (a++d) u=if u=v then none else Ft (a++(v,x,k)::d) u:=by
 unfold Ft;rw[j2,j2,kN];by_cases e:u=v
 .subst e;have hn:a.find? (λy=>decide (u=y.1))=none:=by
   rw[j6];intro y hy;simp[h y hy]
  have hn2:d.find? (λy=>decide (u=y.1))=none:=by
   rw[j6];intro y hy;simp[h2 y hy]
  simp[hn,hn2]
 .rw[if_neg e];simp[e]
theorem Zg(h:AskAt g w τ b f)(v:Cmd)(x:Bal):∃ w',(Instr.mapUpdate 116 (.map (some b)) (cmG v) (JE x)).run prog w=.ok () w'/\AskAt g w' τ b (Ex f v (some x))/\(∀ B T,τ∈T->Cg B T g w g w')/\w'.heap.size=w.heap.size:=by
 obtain⟨ht,hkp,c,k,hb,hk,hn1,hn2,hf⟩:=h;have hg:(getObj b).run prog w=.ok (.map (c.map mkA).toArray k) w:=by simp[getObj,Sem.run,hb]
 rcases Kf v c 0 with⟨h1,h2,h3⟩|⟨a,y,d,rfl,hy,h3,h1,h2⟩
 .have hs:=MapKept.run_setObj_map (P:=prog) (w:=w) (.map ((c++[(v,x,k)]).map mkA).toArray (k+1)) hb;refine⟨_,?_,⟨ht,hkp,c++[(v,x,k)],k+1,ChangeMaps.heap_setBlock_same hb (.map ((c++[(v,x,k)]).map mkA).toArray (k+1)),?_,?_,?_,?_⟩,λB T hT=>Cg.block hb ht hkp hT _,by simp[ChangeMaps.setBlock]⟩
  .have he:((c.map mkA).toArray.push { key:=cmG v,val:=JE x,born:=k })=((c++[(v,x,k)]).map mkA).toArray:=by simp[mkA,cmG,JE,cmV]
   rw[Instr.mapUpdate];simp only[Sem.run_bind,run_underlying underlying116,Result.andThen_ok,hg,E2,Ge,h1,he,hs];rfl
  .intro y hy;rcases V'.1 hy with hy|hy
   .have:=hk y hy;omega
   .obtain rfl:y=(v,x,k):=by simpa using hy
    show k<k+1;omega
  .rw[iS,mc];refine⟨hn1,by simp,?_⟩;intro p hp q hq;obtain⟨y,hy,rfl⟩:=ju.1 hp;obtain rfl:q=k:=by simpa using hq
   have:=hk y hy;omega
  .rw[iS,mc];refine⟨hn2,by simp,?_⟩;intro p hp q hq;obtain⟨y,hy,rfl⟩:=ju.1 hp;obtain rfl:q=v:=by simpa using hq
   exact λe=>h3 y hy e.symm
  .intro u;rw[show(List.find? (λx=>decide (u=x.1)) (c++[(v,x,k)])).map (·.2.1)=Ft (c++[(v,x,k)]) u from rfl,Uk c v u x k h3];unfold Ex;split
   .rfl
   .exact hf u
 .obtain⟨yv,yb,yk⟩:=y;simp only at hy;subst hy;have hs:=MapKept.run_setObj_map (P:=prog) (w:=w) (.map ((a++(yv,x,yk)::d).map mkA).toArray k) hb;refine⟨_,?_,⟨ht,hkp,a++(yv,x,yk)::d,k,ChangeMaps.heap_setBlock_same hb (.map ((a++(yv,x,yk)::d).map mkA).toArray k),?_,?_,?_,?_⟩,λB T hT=>Cg.block hb ht hkp hT _,by simp[ChangeMaps.setBlock]⟩
  .have hx:((a++(yv,yb,yk)::d).map mkA).toArray[a.length]?=some (mkA (yv,yb,yk)):=by simp
   have he:(((a++(yv,yb,yk)::d).map mkA).toArray.modify a.length λe=>{ e with key:=cmG yv,val:=JE x })=((a++(yv,x,yk)::d).map mkA).toArray:=by
    apply kD;intro i;rw[lR];split
    .rename_i hi
     subst hi;simp[mkA,cmG,JE,cmV]
    .rename_i hi
     simp only[jF,iS,ji];rcases jt i a.length with g|g
     .rw[iT (by simpa using g),iT (by simpa using g)]
     .rw[iV (by simpa using g),iV (by simpa using g)];obtain⟨q,hq⟩:∃ q,i-(a.map mkA).length=q+1:=⟨i-a.length-1,by simp;omega⟩;rw[hq];rfl
   have hst:=Yv yv w;rw[Instr.mapUpdate];simp only[Sem.run_bind,run_underlying underlying116,Result.andThen_ok,hg,E2,Ge,h1,jm,hx,jC,mj];rw[Ti,hst,Result.andThen_ok,he,hs];rfl
  .intro y hy;rcases V'.1 hy with hy|hy
   .exact hk y (jl _ hy)
   .rcases iX.1 hy with rfl|hy
    .exact hk (yv,yb,yk) (by simp)
    .exact hk y (jx _ (P' _ hy))
  .simpa using hn1
  .simpa using hn2
  .intro u;rw[show(List.find? (λx=>decide (u=x.1)) (a++(yv,x,yk)::d)).map (·.2.1)=Ft (a++(yv,x,yk)::d) u from rfl,WD a d yv u yb x yk h3];unfold Ex;split
   .rfl
   .exact hf u
theorem Zf(h:AskAt g w τ b f)(v:Cmd)(ty:TypeId):∃ w',(Builtin.delete_ #[116,25] ty #[.map (some b),cmG v]).run prog w=.ok (.tuple #[]) w'/\AskAt g w' τ b (Ex f v none)/\(∀ B T,τ∈T->Cg B T g w g w')/\w'.heap.size=w.heap.size:=by
 obtain⟨ht,hkp,c,k,hb,hk,hn1,hn2,hf⟩:=h;have hg:(getObj b).run prog w=.ok (.map (c.map mkA).toArray k) w:=by simp[getObj,Sem.run,hb]
 rcases Kf v c 0 with⟨h1,h2,h3⟩|⟨a,y,d,rfl,hy,h3,h1,h2⟩
 .have hs:=MapKept.run_setObj_map (P:=prog) (w:=w) (.map (c.map mkA).toArray k) hb;refine⟨_,?_,⟨ht,hkp,c,k,ChangeMaps.heap_setBlock_same hb (.map (c.map mkA).toArray k),hk,hn1,hn2,?_⟩,λB T hT=>Cg.block hb ht hkp hT _,by simp[ChangeMaps.setBlock]⟩
  .simp[Builtin.delete_,run_underlying underlying116,hg,E2,Ge,h1,hs];rfl
  .intro u;unfold Ex;split
   .rename_i e;rw[e];exact h2.symm
   .exact hf u
 .obtain⟨yv,yb,yk⟩:=y;simp only at hy;subst hy;have hs:=MapKept.run_setObj_map (P:=prog) (w:=w) (.map ((a++d).map mkA).toArray k) hb;have h4:∀ y∈d,yv≠y.1:=by
   intro y hy e;rw[iS,ji,mc]at hn2
   exact(List.nodup_cons.1 hn2.2.1).1 (ju.2 ⟨y,hy,e.symm⟩)
  refine⟨_,?_,⟨ht,hkp,a++d,k,ChangeMaps.heap_setBlock_same hb (.map ((a++d).map mkA).toArray k),?_,?_,?_,?_⟩,λB T hT=>Cg.block hb ht hkp hT _,by simp[ChangeMaps.setBlock]⟩
  .have he:(((a++(yv,yb,yk)::d).map mkA).toArray.eraseIdxIfInBounds a.length)=((a++d).map mkA).toArray:=by
    rw[Array.eraseIdxIfInBounds,dif_pos (by simp)];simp[List.eraseIdx_append_of_length_le]
   have hF:=Ge yv w (a++(yv,yb,yk)::d);rw[h1,jm]at hF
   simp only[Builtin.delete_,jF,jT,lz,Sem.run_bind,run_underlying underlying116,Result.andThen_ok,hg,E2,hF,he,hs];rfl
  .intro y hy;rcases V'.1 hy with hy|hy
   .exact hk y (jl _ hy)
   .exact hk y (jx _ (P' _ hy))
  .rw[iS,ji]at hn1
   rw[iS];exact hn1.sublist (List.Sublist.append_left (List.sublist_cons_self _ _) _)
  .rw[iS,ji]at hn2
   rw[iS];exact hn2.sublist (List.Sublist.append_left (List.sublist_cons_self _ _) _)
  .intro u;rw[show(List.find? (λx=>decide (u=x.1)) (a++d)).map (·.2.1)=Ft (a++d) u from rfl,WE a d yv u yb yk h3 h4];unfold Ex;split
   .rfl
   .exact hf u
end
section
variable{fn:Func}{R:Ending->World->Prop}{B:Nat}{T:List Tg}{g:Gh}{w:World}
section
variable{b:Nat}{f:Cmd->Option Bal}{g:Gh}{s:Xs}{w:World}{τ:Tg}
theorem XX(h:AskAt g w τ b f)(v:Cmd):(Instr.lookup 116 (.map (some b)) (cmG v) true).run prog w=.ok (.tuple #[JE ((f v).getD Cc),.bool (f v).isSome]) w:=cR h v true
theorem ey(h:AskAt g w τ b f)(v:Cmd):(Instr.lookup 116 (.map (some b)) (cmG v) false).run prog w=.ok (JE ((f v).getD Cc)) w:=cR h v false
theorem ST(i':Nat)(v:Cmd)(x:Bal)(h:AskAt g w τ b f)(hsem:De s i'=some (Instr.mapUpdate 116 (.map (some b)) (cmG v) (JE x)>>=λ_=>pure .skip))(hob:(nxt s i' undef s.L).o.map Ob.l'=(nxt s i' undef s.L).o.map Ob.r')(hT:s.L.all (λy=>[τ].all λt=>y.t.ne t)=true)(hk:∀ w',AskAt g w' τ b (Ex f v (some x))->(∀ B T,τ∈T->Cg B T g w g w')->GG prog fn R B T (nxt s i' undef s.L).s g w'):GG prog fn R B T s g w:=by
 refine KO i' s.L hob (BT hsem) λhK ops i o hop=>?_;obtain⟨w',hr,h2,h3,h4⟩:=Zg h v x;refine⟨undef,w',g,.inr ⟨?_,rfl⟩,hK.ch (h3 _ [τ] (O'.2 rfl)) (λb hb=>hK.new b (by rw[h4]at hb;exact hb)) hT,hk w' h2 h3⟩;rw[Di hsem hop,Sem.run_bind,hr,Result.andThen_ok];rfl
theorem ZI(i':Nat)(v:Cmd)(ty:TypeId)(h:AskAt g w τ b f)(hsem:De s i'=some (Builtin.delete_ #[116,25] ty #[.map (some b),cmG v]>>=λv=>pure (.value v)))(hob:(nxt s i' undef s.L).o.map Ob.l'=(nxt s i' undef s.L).o.map Ob.r')(hT:s.L.all (λy=>[τ].all λt=>y.t.ne t)=true)(hk:∀ w',AskAt g w' τ b (Ex f v none)->(∀ B T,τ∈T->Cg B T g w g w')->GG prog fn R B T (nxt s i' (.tuple #[]) s.L).s g w'):GG prog fn R B T s g w:=by
 refine KO i' s.L hob (BT hsem) λhK ops i o hop=>?_;obtain⟨w',hr,h2,h3,h4⟩:=Zf h v ty;refine⟨.tuple #[],w',g,.inl ?_,hK.ch (h3 _ [τ] (O'.2 rfl)) (λb hb=>hK.new b (by rw[h4]at hb;exact hb)) hT,hk w' h2 h3⟩;rw[Di hsem hop,Sem.run_bind,hr,Result.andThen_ok];rfl
end
end
section
def tkG:Nat->FuncId
 | 0=>70
 | 1=>71
 | 2=>72
 | 3=>73
 | 4=>74
 | 5=>75
 | _=>76
def tkV(k:Nat):Value:=.func (.func (tkG k)) #[] #[]
def tkL(j:Nat):List MapEntry:=(List.range j).map λ(k:Nat)=>{ key:=iv (k:Int),val:=tkV k,born:=k }
structure TkAt(g:Gh)(w:World)(b j:Nat):Prop where
 t:g.t b=.n 70 0
 k:g.k b=0
 row:w.heap[b]?=some (.map (tkL j).toArray j)
variable{b j k:Nat}{g:Gh}{w:World}
theorem TkAt.ch{B:Nat}{T:List Tg}{g':Gh}{w':World}(h:TkAt g w b j)(c:Cg B T g w g' w')(hn:Tg.n 70 0∉T:=by simp):TkAt g' w' b j :=
 have h1:=c.rc h.row h.t hn
 ⟨h1.2.1,h1.2.2.trans h.k,h1.1⟩
theorem Ys(h:k<7):k=0\/k=1\/k=2\/k=3\/k=4\/k=5\/k=6:=by omega
theorem Qw(em:Bool)(k:Nat)(w:World):(Instr.checkKey em 10000 150 (iv (k:Int))).run prog w=.ok () w:=by kernel_rfl
theorem bM(h:j<7)(w:World):(Instr.findKey 150 (iv (j:Int)) (tkL j)).run prog w=.ok none w:=by
 rcases Ys h with rfl|rfl|rfl|rfl|rfl|rfl|rfl<;>kernel_rfl
theorem bL(h:j<7)(w:World):(Instr.findKey 150 (iv (j:Int)) (tkL 7)).run prog w=.ok (some (j,tkV j)) w:=by
 rcases Ys h with rfl|rfl|rfl|rfl|rfl|rfl|rfl<;>kernel_rfl
theorem fb(h:TkAt g w b j)(hj:j<7):∃ w',(Instr.mapUpdate 95 (.map (some b)) (iv (j:Int)) (tkV j)).run prog w=.ok () w'/\TkAt g w' b (j+1)/\(∀ B T,Tg.n 70 0∈T->Cg B T g w g w')/\w'.heap.size=w.heap.size:=by
 have hg:(getObj b).run prog w=.ok (.map (tkL j).toArray j) w:=by simp[getObj,Sem.run,h.row]
 have hs:=MapKept.run_setObj_map (P:=prog) (w:=w) (.map (tkL (j+1)).toArray (j+1)) h.row;have he:((tkL j).toArray.push { key:=iv (j:Int),val:=tkV j,born:=j })=(tkL (j+1)).toArray:=by simp[tkL,List.range_succ]
 refine⟨_,?_,⟨h.t,h.k,ChangeMaps.heap_setBlock_same h.row (.map (tkL (j+1)).toArray (j+1))⟩,λB T hT=>Cg.block h.row h.t h.k hT _,by simp[ChangeMaps.setBlock]⟩;rw[Instr.mapUpdate];simp only[Sem.run_bind,run_underlying underlying95,Result.andThen_ok,hg,Qw,bM hj,he,hs];rfl
theorem rTk(hb:w.heap[b]?=some (.map (tkL 7).toArray 7))(hk:k<7):(Instr.lookup 95 (.map (some b)) (iv (k:Int)) false).run prog w=.ok (tkV k) w:=by
 have hg:(getObj b).run prog w=.ok (.map (tkL 7).toArray 7) w:=by simp[getObj,Sem.run,hb]
 simp[Instr.lookup,run_underlying underlying95,hg,Qw,bL hk]
end
section
variable{fn:Func}{R:Ending->World->Prop}{B:Nat}{T:List Tg}{g:Gh}{w:World}
theorem fW{s:Xs}(i':Nat)(hsem:De s i'=some (Instr.makeMap 95 none>>=λv=>pure (.value v)))
  (hob:(nxt s i' undef s.L).o.map Ob.l'=(nxt s i' undef s.L).o.map Ob.r')
  (hk:∀ b g' w',w.heap.size<=b->TkAt g' w' b 0->(∀ B T,Cg B T g w g' w')->(∀ b,w'.heap.size<=b->g'.t b=.z/\g'.k b=0)->GG prog fn R B T (nxt s i' (.map (some b)) s.L).s g' w'):GG prog fn R B T s g w:=by
 refine KO i' s.L hob (BT hsem) λhK ops j o hop=>?_;have hr:(Instr.makeMap 95 none).run prog w=.ok (.map (some w.heap.size)) (w.alloc (.map #[] 0)):=by
  simp[Instr.makeMap,go_sem]
 have hC:∀ B T,Cg B T g w (NW g w (.n 70 0) 0) (w.alloc (.map #[] 0)):=λB T =>
  ⟨rfl,rfl,rfl,by simp,λb hb=>.inl (if_neg (by omega)),λb hb=>by show _<=(if b=w.heap.size then _ else g.k b);rw[if_neg (by omega)];exact A' _,λb hb _ _=>if_neg (by omega),λb hb _ _=>heap_alloc_old w _ hb,λb hb j hj=>World.cell?_of_block (w:=w) (heap_alloc_old w _ hb)⟩
 have hG:∀ b,(w.alloc (.map #[] 0)).heap.size<=b->(NW g w (.n 70 0) 0).t b=.z/\(NW g w (.n 70 0) 0).k b=0:=λb hb=>by
  have hb':w.heap.size+1<=b:=by simpa using hb
  show(if b=w.heap.size then _ else g.t b)=.z/\(if b=w.heap.size then _ else g.k b)=0;rw[if_neg (by omega),if_neg (by omega)];exact hK.new b (by omega)
 refine⟨.map (some w.heap.size),_,NW g w (.n 70 0) 0,.inl ?_,hK.ch (hC _ []) hG (by simp),hk _ _ _ (A' _) ⟨if_pos rfl,if_pos rfl,heap_alloc_new _ _⟩ hC hG⟩;rw[Di hsem hop,Sem.run_bind,hr,Result.andThen_ok];rfl
theorem GJ{s:Xs}(i':Nat){b j:Nat}(h:TkAt g w b j)(hj:j<7)(hsem:De s i'=some (Instr.mapUpdate 95 (.map (some b)) (iv (j:Int)) (tkV j)>>=λ_=>pure .skip))
  (hob:(nxt s i' undef s.L).o.map Ob.l'=(nxt s i' undef s.L).o.map Ob.r')(hT:s.L.all (λy=>[Tg.n 70 0].all λt=>y.t.ne t)=true)
  (hk:∀ w',TkAt g w' b (j+1)->(∀ B T,Tg.n 70 0∈T->Cg B T g w g w')->GG prog fn R B T (nxt s i' undef s.L).s g w'):GG prog fn R B T s g w:=by
 refine KO i' s.L hob (BT hsem) λhK ops i o hop=>?_;obtain⟨w',hr,h2,h3,h4⟩:=fb h hj;refine⟨undef,w',g,.inr ⟨?_,rfl⟩,hK.ch (h3 _ [Tg.n 70 0] (O'.2 rfl)) (λb hb=>hK.new b (by rw[h4]at hb;exact hb)) hT,hk w' h2 h3⟩;rw[Di hsem hop,Sem.run_bind,hr,Result.andThen_ok];rfl
end
def TM:List Tg:=[0,1,2,3,4].flatMap TN
theorem EF:Tg.z∉TM:=by simp[TM,TN]
theorem fw{i:Nat}(hi:i<5):∀ t∈TN i,t∈TM:=λt ht=>kW.2 ⟨i,by rcases five hi with rfl|rfl|rfl|rfl|rfl<;>simp,ht⟩
theorem fx{i j r:Nat}(h:j≠i)(hr:r<6):Tg.n r j∉TN i:=by simp[TN];omega
def mtA(nb:Nat->Nat)(ob tb:Nat):Array Value:=#[pt (nb 0) 0,pt (nb 1) 0,pt (nb 2) 0,pt (nb 3) 0,pt (nb 4) 0,pt ob 0,.map (some tb)]
structure MS(mb tb ob:Nat)(nb:Nat->Nat)(g:Gh)(w:World)(M:Meet):Prop where
 box:Box g w mb (mtA nb ob tb) 100
 tk:TkAt g w tb 7
 node:∀ i,i<5->∃ x,NodeAt g w i (nb i) ob x (M.node i)
 out:∃ lt tl,OutAt g w ob lt tl M.lets M.told
 new:Iy g w
def MP(mb tb ob:Nat)(nb:Nat->Nat)(g:Gh)(w:World)(v:Value)(M:Meet):Ending->World->Prop:=λe w'=>∃ g',e=.returned v/\MS mb tb ob nb g' w' M/\Cg w.heap.size TM g w g' w'
section
variable{mb tb ob i:Nat}{nb:Nat->Nat}{g g':Gh}{w w':World}{M:Meet}
section
theorem MS.ns(h:MS mb tb ob nb g w M)(hi:i<5):NS i (nb i) ob g w (M.node i) M.lets M.told :=
 let ⟨x,hx⟩:=h.node i hi
 let ⟨lt,tl,ho⟩:=h.out
 ⟨x,lt,tl,hx,ho,h.new⟩
variable{B:Nat}{ls:List Let}{p:Nod}{ts:List Tol}
theorem MS.ch0(h:MS mb tb ob nb g w M)(c:Cg B [] g w g' w')(hn:Iy g' w'):MS mb tb ob nb g' w' M :=
 ⟨h.box.ch c,h.tk.ch c,λi hi=>let ⟨x,hx⟩:=h.node i hi;⟨x,hx.ch c⟩,let ⟨lt,tl,ho⟩:=h.out;⟨lt,tl,ho.ch c⟩,hn⟩
theorem MS.of(h:MS mb tb ob nb g w M)(hi:i<5)(hn:NS i (nb i) ob g' w' p ls ts)(c:Cg B (TN i) g w g' w'):MS mb tb ob nb g' w' ⟨upN M.node i p,ls,ts⟩:=by
 obtain⟨x,lt,tl,h1,h2,h3⟩:=hn;refine⟨h.box.ch c (Bi i),h.tk.ch c (by simp[TN]),λj hj=>?_,⟨lt,tl,h2⟩,h3⟩;by_cases e:j=i
 .subst e;exact⟨x,by show NodeAt g' w' j (nb j) ob x (upN M.node j p j);rw[Ew];exact h1⟩
 .obtain⟨y,hy⟩:=h.node j hj;exact⟨y,by show NodeAt g' w' j (nb j) ob y (upN M.node i p j);rw[FT _ _ e];exact hy.ch c (Bi i) λr hr=>fx e hr⟩
theorem MS.call(h:MS mb tb ob nb g w M)(hi:i<5){f:FuncId}{av:Array Value}{v:Value}(hc:Calls prog f av w (NP i (nb i) ob g w v p ls ts)):Calls prog f av w (MP mb tb ob nb g w v ⟨upN M.node i p,ls,ts⟩) :=
 hc.mono λe w' ⟨g',he,hn,c⟩=>⟨g',he,h.of hi hn c,c.mono (fw hi)⟩
theorem Tj{W:World}(hr:W.heap[mb]?=some (.cells (mtA nb ob tb) 100)){j:Nat}(hj:j<5):W.cell? ⟨mb,j,none⟩=some (pt (nb j) 0):=by
 rcases five hj with rfl|rfl|rfl|rfl|rfl<;>(rw[cell_of_row _ _ _ _ _ _ hr];rfl)
end
end
section
variable{P:Program}{fn:Func}{R:Ending->World->Prop}{B:Nat}{T:List Tg}{g:Gh}{w:World}
theorem cG{s:Xs}(k n:Nat)(e0:List (Nat × Value))(m:List Bool)(L0:List Sh)(hl:Ry s.K=true)(hn:s.f.n=n)(he:e0.map (λp=>lk s.f.z s.f.e p.1)=e0.map (·.2))(hL:B0 (AF m s.L)=L0)
  (h:∀ J:Nat->Act->World->Prop,(∀ (m:Nat) (e:List (Nat × Value)) (z:Nat->Value) (L:List Sh) (g:Gh) (w:World),GG P fn R B T (be s n (J m) e z L) g w->Kn B g w L->J (m+1) (⟨n,e,z⟩:Fm).act w)->∀ z,GG P fn R B T (be s n (J k) e0 z L0) g w):GG P fn R B T s g w:=by
 refine gFm e0 he λz=>?_;obtain⟨K,f,L⟩:=s;simp only at hn;subst hn;have hL':B0 (AF m L)=L0:=hL;have hc:GG P fn R B T ⟨K,⟨f.n,e0,z⟩,B0 (AF m L)⟩ g w->GG P fn R B T ⟨K,⟨f.n,e0,z⟩,L⟩ g w:=λh=>⟨λhK=>h.ex (hK.sub (Db m L)).clr⟩;refine hc ?_;rw[hL'];cases K with
 | nil=>cases hl
 | cons t K =>
  cases t with
  | c x =>
   cases x with
   | loop b =>
    refine⟨λhK=>?_⟩;exact wp_loop_rounds (k+1) ((h (Code.rounds P b (Kq P (bodyPost P fn R) K)) (λm e z L g w hG hK=>hG.ex hK) z).ex hK)
   | _=>cases hl
  | _=>cases hl
end
section
variable{fn:Func}{R:Ending->World->Prop}{B:Nat}{T:List Tg}{g:Gh}{w:World}
theorem dN{s:Xs}(i':Nat)(r i:Nat)(hsem:De s i'=some (Instr.makeMap 116 none>>=λv=>pure (.value v)))
  (hob:(nxt s i' undef s.L).o.map Ob.l'=(nxt s i' undef s.L).o.map Ob.r')
  (hk:∀ b g' w',w.heap.size<=b->AskAt g' w' (.n r i) b (λ_=>none)->(∀ B T,Cg B T g w g' w')->(∀ b,w'.heap.size<=b->g'.t b=.z/\g'.k b=0)->GG prog fn R B T (nxt s i' (.map (some b)) s.L).s g' w'):GG prog fn R B T s g w:=by
 refine KO i' s.L hob (BT hsem) λhK ops j o hop=>?_;have hr:(Instr.makeMap 116 none).run prog w=.ok (.map (some w.heap.size)) (w.alloc (.map #[] 0)):=by
  simp[Instr.makeMap,go_sem]
 have hC:∀ B T,Cg B T g w (NW g w (.n r i) 0) (w.alloc (.map #[] 0)):=λB T =>
  ⟨rfl,rfl,rfl,by simp,λb hb=>.inl (if_neg (by omega)),λb hb=>by show _<=(if b=w.heap.size then _ else g.k b);rw[if_neg (by omega)];exact A' _,λb hb _ _=>if_neg (by omega),λb hb _ _=>heap_alloc_old w _ hb,λb hb j hj=>World.cell?_of_block (w:=w) (heap_alloc_old w _ hb)⟩
 have hG:∀ b,(w.alloc (.map #[] 0)).heap.size<=b->(NW g w (.n r i) 0).t b=.z/\(NW g w (.n r i) 0).k b=0:=λb hb=>by
  have hb':w.heap.size+1<=b:=by simpa using hb
  show(if b=w.heap.size then _ else g.t b)=.z/\(if b=w.heap.size then _ else g.k b)=0;rw[if_neg (by omega),if_neg (by omega)];exact hK.new b (by omega)
 refine⟨.map (some w.heap.size),_,NW g w (.n r i) 0,.inl ?_,hK.ch (hC _ []) hG (by simp),hk _ _ _ (A' _) ⟨if_pos rfl,if_pos rfl,[],0,heap_alloc_new _ _,λx hx=>absurd hx M',List.nodup_nil,List.nodup_nil,λ_=>rfl⟩ hC hG⟩;rw[Di hsem hop,Sem.run_bind,hr,Result.andThen_ok];rfl
end
def gc(a:Acc)(y:S3)(b:Nat):Array Value:=((AB 0 0 (CV.bare true [] 0 a []) (NX.mk s30 y s30 s30 s30 s30 (λ_=>s30) (some b))).toList.drop 6).toArray
theorem AW{g:Gh}{w:World}(i:Nat)(hg:∀ b,w.heap.size<=b->g.t b=.z/\g.k b=0)(a:Acc)(y:S3) :
  Calls prog 47 #[.agg #[iv a.p.r,iv a.p.n,S3.v y]] w λe w'=>∃ (b:Nat) (g':Gh),e=.returned (.agg (gc a y b))/\AskAt g' w' (.n 5 i) b (λ_=>none)/\(∀ b,w'.heap.size<=b->g'.t b=.z/\g'.k b=0)/\Cg w.heap.size [] g w g' w':=by
 refine gI (fn:=f47) [] g func47 hg ?_;refine qR [] 8 [0,0,1,0,0] λs1 g1 w1 c1=>?_;refine dN 1 5 i (by kernel_rfl) (by kernel_rfl) ?_;intro mb g2 w2 hmb A2 cc2 n2;have c2:=cc2 w.heap.size [];refine qR [] 3 [1,0] λs3 g3 w3 c3=>?_;exact qE1 2 118 1 (s1 1) (gc a y mb) λK=>⟨mb,_,rfl,(A2.ch c3),K.new,((c1.trans c2).trans c3)⟩
end Go.Proofs.YtalbmmghmoggcadGreatDoor
