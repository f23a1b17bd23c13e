/- Part 8 of the walk. -/
import Derived.Test.YtdjfdfpkkenjbabGreatDoorZ6
set_option maxRecDepth 100000
set_option maxHeartbeats 4000000
open Go.Proofs.Tryz
set_option linter.unusedVariables false
namespace Go.Proofs.YtdjfdfpkkenjbabGreatDoor
open Go.RowKit
section
def cmG(c:Cmd):Value:=.agg #[iv c.k,iv c.c,iv c.s,iv c.n,iv c.v]
theorem UF(x:Cmd × Bal × Nat):(mkA x).key=cmG x.1:=rfl
theorem Ym(u v:Cmd)(w:World):(Op.equal 64 (cmG u) (cmG v)).run prog w=.ok (decide (u=v)) w:=by
 have a:=Uu u.k u.c u.s u.n u.v v.k v.c v.s v.n v.v w;rw[OB]at a
 rw[run_eql_struct]at a
 show(Op.equalIn 10000 _ _ _).run _ _=_;simp only[cmG];cases hr:(Op.equalIn 10000 64 (.agg #[iv u.k,iv u.c,iv u.s,iv u.n,iv u.v]) (.agg #[iv v.k,iv v.c,iv v.s,iv v.n,iv v.v])).run prog w with
 | ok b w'=>simp only[hr]at a;simp[Result.andThen]at a;rw[a.1,a.2]
 | _=>simp only[hr]at a;simp[Result.andThen]at a
abbrev Ask:=Cmd × Bal × Nat
def Lv(v:Cmd):List Ask->Nat->Option (Nat × Value)
 | [],_=>none
 | x::c,i=>if v=x.1 then some (i,(mkA x).val)else Lv v c (i+1)
theorem Nk(v:Cmd)(w:World):∀ (c:List Ask) (i:Nat),(Instr.findAsking 64 (cmG v) (c.map mkA) i).run prog w=.ok (Lv v c i) w
 | [],i=>by simp[Instr.findAsking,Lv]
 | x::c,i=>by
  have h:=Ym v x.1 w;rw[mT,Instr.findAsking,Sem.run_bind];rw[UF,h,Result.andThen_ok,Lv];by_cases e:v=x.1
  .rw[N' e,if_pos e];rfl
  .rw[G' e,if_neg e];simpa using Nk v w c (i+1)
theorem Gw(v:Cmd)(w:World)(c:List Ask):(Instr.findKey 64 (cmG v) (c.map mkA)).run prog w=.ok (Lv v c 0) w:=by
 rw[Instr.findKey,Sem.run_bind,run_underlying underlying64 w,Result.andThen_ok];cases c with
 | nil=>simp[Instr.findNow,Lv]
 | cons x c =>
  show Sem.run _ (match(none:Option (Option (Nat × Value)))with|some r=>pure r|none=>Instr.findAsking 64 (cmG v) ((x::c).map mkA)) w=_;exact Nk v w (x::c) 0
theorem EB(a:Bool)(v:Cmd)(w:World):(Instr.checkKey a 10000 64 (cmG v)).run prog w=.ok () w:=by
 obtain⟨k,c,q,m,x⟩:=v;kernel_rfl
theorem eG(v:Cmd)(n:Nat):Instr.sameBits (n+1) (cmG v) (cmG v)=true:=by simp[Instr.sameBits,cmG]
theorem aJ(v:Cmd)(w:World):(Instr.keyThatStays (cmG v) (cmG v)).run prog w=.ok (cmG v) w:=by
 rw[Instr.keyThatStays,if_pos (eG v 9999)];rfl
def FA(c:List Ask)(v:Cmd):Option Bal:=(c.find? λx=>decide (v=x.1)).map (·.2.1)
theorem KM(v:Cmd):∀ (c:List Ask) (i:Nat),(Lv v c i=none/\FA c v=none/\∀ x∈c,v≠x.1)\/∃ a x b,c=a++x::b/\x.1=v/\(∀ y∈a,v≠y.1)/\Lv v c i=some (i+a.length,(mkA x).val)/\FA c v=some x.2.1
 | [],i=>.inl ⟨rfl,rfl,λx hx=>by cases hx⟩
 | x::c,i=>by
  by_cases e:v=x.1
  .refine .inr ⟨[],x,c,rfl,e.symm,λy hy=>(O' hy).elim,?_,?_⟩
   .rw[Lv,if_pos e];rfl
   .simp[FA,e]
  .rcases KM v c (i+1)with⟨h1,h2,h3⟩|⟨a,y,b,rfl,hy,h3,h4,h5⟩
   .refine .inl ⟨by rw[Lv,if_neg e,h1],?_,λy hy=>?_⟩
    .rw[<- h2];simp[FA,e]
    .rcases mK.1 hy with rfl|hy
     .exact e
     .exact h3 y hy
   .refine .inr ⟨x::a,y,b,rfl,hy,λz hz=>?_,?_,?_⟩
    .rcases mK.1 hz with rfl|hz
     .exact e
     .exact h3 z hz
    .rw[Lv,if_neg e,h4];simp;omega
    .rw[<- h5];simp[FA,e]
def Ks(b:Bal):Value:=.agg #[iv b.r,iv b.n]
variable{b:Nat}{f:Cmd->Option Bal}{g:Gh}{w:World}{τ:Tg}
theorem gi(h:AskAt g w τ b f)(v:Cmd)(ok:Bool):(Instr.lookup 138 (.map (some b)) (cmG v) ok).run prog w=.ok (if ok then .tuple #[Ks ((f v).getD Bv),.bool (f v).isSome]else Ks ((f v).getD Bv)) w:=by
 obtain⟨_,_,c,k,j,_,_,_,l⟩:=h;have e:f v=FA c v:=l v;have i:(getObj b).run prog w=.ok (.map (c.map mkA).toArray k) w:=by simp[getObj,Sem.run,j]
 rcases KM v c 0 with⟨h1,h2,_⟩|⟨a,x,d,_,_,_,h1,h2⟩
 .rw[h2]at e
  cases ok<;>simp[Instr.lookup,run_underlying underlying138,i,EB,Gw,h1,e,Ks,Bv]
 .rw[h2]at e
  cases ok<;>simp[Instr.lookup,run_underlying underlying138,i,EB,Gw,h1,e,mkA,Ks]
theorem Cg.block{B:Nat}{T:List Tg}{m:Array MapEntry}{k:Nat}(f:w.heap[b]?=some (.map m k))(r:g.t b=τ)(q:g.k b=0)(d:τ∈T)(o:Obj):Cg B T g w g (ChangeMaps.setBlock w b o) :=
 have c:∀ a,g.t a∉T->a≠b:=λa h e=>h (by rw[e,r];exact d)
 ⟨rfl,rfl,rfl,by simp[ChangeMaps.setBlock],λ_ _=>.inl rfl,λ_ _=>A' _,λ_ _ _ _=>rfl,λa _ h _=>ChangeMaps.heap_setBlock_other f o (c a h),
  λa _ j p=>World.cell?_of_block (w:=w) (ChangeMaps.heap_setBlock_other f o (λe=>by have i:a=b:=e;rw[i,q]at p;omega))⟩
theorem VE(c:List Ask)(v u:Cmd)(x:Bal)(k:Nat)(h:∀ y∈c,v≠y.1):FA (c++[(v,x,k)]) u=if u=v then some x else FA c u:=by
 unfold FA;rw[oA];by_cases e:u=v
 .subst e;have a:c.find? (λy=>decide (u=y.1))=none:=by
   rw[oG];intro y b;simp[h y b]
  simp[a]
 .rw[if_neg e];simp[e]
theorem Yp(a d:List Ask)(v u:Cmd)(x y:Bal)(k:Nat)(h:∀ y∈a,v≠y.1):FA (a++(v,y,k)::d) u=if u=v then some y else FA (a++(v,x,k)::d) u:=by
 unfold FA;rw[oA,oA,pi,pi];by_cases e:u=v
 .subst e;have b:a.find? (λy=>decide (u=y.1))=none:=by
   rw[oG];intro y c;simp[h y c]
  simp[b]
 .rw[if_neg e];simp[e]
theorem Yq(a d:List Ask)(v u:Cmd)(x:Bal)(k:Nat)(h:∀ y∈a,v≠y.1)(f:∀ y∈d,v≠y.1):FA (a++d) u=if u=v then none else FA (a++(v,x,k)::d) u:=by
 unfold FA;rw[oA,oA,pi];by_cases e:u=v
 .subst e;have g:a.find? (λy=>decide (u=y.1))=none:=by
   rw[oG];intro y c;simp[h y c]
  have b:d.find? (λy=>decide (u=y.1))=none:=by
   rw[oG];intro y c;simp[f y c]
  simp[g,b]
 .rw[if_neg e];simp[e]
theorem bZ(h:AskAt g w τ b f)(v:Cmd)(x:Bal):∃ w',(Instr.mapUpdate 138 (.map (some b)) (cmG v) (Ks x)).run prog w=.ok () w'/\AskAt g w' τ b (E6 f v (some x))/\(∀ B T,τ∈T->Cg B T g w g w')/\w'.heap.size=w.heap.size:=by
 obtain⟨s,j,c,k,l,m,n,o,E⟩:=h;have F:(getObj b).run prog w=.ok (.map (c.map mkA).toArray k) w:=by simp[getObj,Sem.run,l]
 rcases KM v c 0 with⟨h1,h2,h3⟩|⟨a,y,d,rfl,hy,h3,h1,h2⟩
 .have C:=MapKept.run_setObj_map (P:=prog) (w:=w) (.map ((c++[(v,x,k)]).map mkA).toArray (k+1)) l;refine⟨_,?_,⟨s,j,c++[(v,x,k)],k+1,ChangeMaps.heap_setBlock_same l (.map ((c++[(v,x,k)]).map mkA).toArray (k+1)),?_,?_,?_,?_⟩,λB T t=>Cg.block l s j t _,by simp[ChangeMaps.setBlock]⟩
  .have z:((c.map mkA).toArray.push { key:=cmG v,val:=Ks x,born:=k })=((c++[(v,x,k)]).map mkA).toArray:=by simp[mkA,cmG,Ks,cmV]
   rw[Instr.mapUpdate];simp only[Sem.run_bind,run_underlying underlying138,Result.andThen_ok,F,EB,Gw,h1,z,C];rfl
  .intro y hy;rcases Z'.1 hy with hy|hy
   .have:=m y hy;omega
   .obtain rfl:y=(v,x,k):=by simpa using hy
    show k<k+1;omega
  .rw[mS,qy];refine⟨n,by simp,?_⟩;intro p A q r;obtain⟨y,hy,rfl⟩:=nG.1 A;obtain rfl:q=k:=by simpa using r
   have:=m y hy;omega
  .rw[mS,qy];refine⟨o,by simp,?_⟩;intro p A q r;obtain⟨y,hy,rfl⟩:=nG.1 A;obtain rfl:q=v:=by simpa using r
   exact λe=>h3 y hy e.symm
  .intro u;rw[show(List.find? (λx=>decide (u=x.1)) (c++[(v,x,k)])).map (·.2.1)=FA (c++[(v,x,k)]) u from rfl,VE c v u x k h3];unfold E6;split
   .rfl
   .exact E u
 .obtain⟨yv,yb,yk⟩:=y;simp only at hy;subst hy;have C:=MapKept.run_setObj_map (P:=prog) (w:=w) (.map ((a++(yv,x,yk)::d).map mkA).toArray k) l;refine⟨_,?_,⟨s,j,a++(yv,x,yk)::d,k,ChangeMaps.heap_setBlock_same l (.map ((a++(yv,x,yk)::d).map mkA).toArray k),?_,?_,?_,?_⟩,λB T t=>Cg.block l s j t _,by simp[ChangeMaps.setBlock]⟩
  .have hx:((a++(yv,yb,yk)::d).map mkA).toArray[a.length]?=some (mkA (yv,yb,yk)):=by simp
   have z:(((a++(yv,yb,yk)::d).map mkA).toArray.modify a.length λe=>{ e with key:=cmG yv,val:=Ks x })=((a++(yv,x,yk)::d).map mkA).toArray:=by
    apply pa;intro i;rw[pZ];split
    .rename_i hi
     subst hi;simp[mkA,cmG,Ks,cmV]
    .rename_i hi
     simp only[nD,mS,mT];rcases nO i a.length with g|g
     .rw[mP (by simpa using g),mP (by simpa using g)]
     .rw[mQ (by simpa using g),mQ (by simpa using g)];obtain⟨q,r⟩:∃ q,i-(a.map mkA).length=q+1:=⟨i-a.length-1,by simp;omega⟩;rw[r];rfl
   have D:=aJ yv w;rw[Instr.mapUpdate];simp only[Sem.run_bind,run_underlying underlying138,Result.andThen_ok,F,EB,Gw,h1,nn,hx,nA,qb];rw[UF,D,Result.andThen_ok,z,C];rfl
  .intro y hy;rcases Z'.1 hy with hy|hy
   .exact m y (nZ _ hy)
   .rcases mK.1 hy with rfl|hy
    .exact m (yv,yb,yk) (by simp)
    .exact m y (nR _ (V' _ hy))
  .simpa using n
  .simpa using o
  .intro u;rw[show(List.find? (λx=>decide (u=x.1)) (a++(yv,x,yk)::d)).map (·.2.1)=FA (a++(yv,x,yk)::d) u from rfl,Yp a d yv u yb x yk h3];unfold E6;split
   .rfl
   .exact E u
theorem bY(h:AskAt g w τ b f)(v:Cmd)(A:TypeId):∃ w',(Builtin.delete_ #[138,64] A #[.map (some b),cmG v]).run prog w=.ok (.tuple #[]) w'/\AskAt g w' τ b (E6 f v none)/\(∀ B T,τ∈T->Cg B T g w g w')/\w'.heap.size=w.heap.size:=by
 obtain⟨n,j,c,k,l,p,m,i,s⟩:=h;have t:(getObj b).run prog w=.ok (.map (c.map mkA).toArray k) w:=by simp[getObj,Sem.run,l]
 rcases KM v c 0 with⟨h1,h2,h3⟩|⟨a,y,d,rfl,hy,h3,h1,h2⟩
 .have q:=MapKept.run_setObj_map (P:=prog) (w:=w) (.map (c.map mkA).toArray k) l;refine⟨_,?_,⟨n,j,c,k,ChangeMaps.heap_setBlock_same l (.map (c.map mkA).toArray k),p,m,i,?_⟩,λB T o=>Cg.block l n j o _,by simp[ChangeMaps.setBlock]⟩
  .simp[Builtin.delete_,run_underlying underlying138,t,EB,Gw,h1,q];rfl
  .intro u;unfold E6;split
   .rename_i e;rw[e];exact h2.symm
   .exact s u
 .obtain⟨yv,yb,yk⟩:=y;simp only at hy;subst hy;have q:=MapKept.run_setObj_map (P:=prog) (w:=w) (.map ((a++d).map mkA).toArray k) l;have z:∀ y∈d,yv≠y.1:=by
   intro y hy e;rw[mS,mT,qy]at i
   exact(List.nodup_cons.1 i.2.1).1 (nG.2 ⟨y,hy,e.symm⟩)
  refine⟨_,?_,⟨n,j,a++d,k,ChangeMaps.heap_setBlock_same l (.map ((a++d).map mkA).toArray k),?_,?_,?_,?_⟩,λB T o=>Cg.block l n j o _,by simp[ChangeMaps.setBlock]⟩
  .have he:(((a++(yv,yb,yk)::d).map mkA).toArray.eraseIdxIfInBounds a.length)=((a++d).map mkA).toArray:=by
    rw[Array.eraseIdxIfInBounds,dif_pos (by simp)];simp[List.eraseIdx_append_of_length_le]
   have r:=Gw yv w (a++(yv,yb,yk)::d);rw[h1,nn]at r
   simp only[Builtin.delete_,nD,nY,pH,Sem.run_bind,run_underlying underlying138,Result.andThen_ok,t,EB,r,he,q];rfl
  .intro y hy;rcases Z'.1 hy with hy|hy
   .exact p y (nZ _ hy)
   .exact p y (nR _ (V' _ hy))
  .rw[mS,mT]at m
   rw[mS];exact m.sublist (List.Sublist.append_left (List.sublist_cons_self _ _) _)
  .rw[mS,mT]at i
   rw[mS];exact i.sublist (List.Sublist.append_left (List.sublist_cons_self _ _) _)
  .intro u;rw[show(List.find? (λx=>decide (u=x.1)) (a++d)).map (·.2.1)=FA (a++d) u from rfl,Yq a d yv u yb yk h3 z];unfold E6;split
   .rfl
   .exact s u
end
section
variable{fn:Func}{R:Ending->World->Prop}{B:Nat}{T:List Tg}{g:Gh}{w:World}
section
variable{b:Nat}{f:Cmd->Option Bal}{g:Gh}{s:Xs}{w:World}{τ:Tg}
theorem ZI(h:AskAt g w τ b f)(v:Cmd):(Instr.lookup 138 (.map (some b)) (cmG v) true).run prog w=.ok (.tuple #[Ks ((f v).getD Bv),.bool (f v).isSome]) w:=gi h v true
theorem iX(h:AskAt g w τ b f)(v:Cmd):(Instr.lookup 138 (.map (some b)) (cmG v) false).run prog w=.ok (Ks ((f v).getD Bv)) w:=gi h v false
theorem Uy(c:Nat){τ:Tg}{b:Nat}{f:Cmd->Option Bal}(v:Cmd)(x:Bal)(h:AskAt g w τ b f)(a:Dw s c=some (Instr.mapUpdate 138 (.map (some b)) (cmG v) (Ks x)>>=λ_=>pure .skip))(d:(nxt s c undef s.L).o.map Ob.l'=(nxt s c undef s.L).o.map Ob.r')(r:s.L.all (λy=>[τ].all λt=>y.t.ne t)=true)(u:∀ w',AskAt g w' τ b (E6 f v (some x))->(∀ B T,τ∈T->Cg B T g w g w')->GG prog fn R B T (nxt s c undef s.L).s g w'):GG prog fn R B T s g w:=by
 refine L5 c s.L d (BO a) λk C i o e=>?_;obtain⟨w',A,p,j,q⟩:=bZ h v x;refine⟨undef,w',g,.inr ⟨?_,rfl⟩,k.ch (j _ [τ] (U'.2 rfl)) (λb m=>k.new b (by rw[q]at m;exact m)) r,u w' p j⟩;rw[Dn a e,Sem.run_bind,A,Result.andThen_ok];rfl
theorem cX(c:Nat){τ:Tg}{b:Nat}{f:Cmd->Option Bal}(v:Cmd)(p:TypeId)(h:AskAt g w τ b f)(a:Dw s c=some (Builtin.delete_ #[138,64] p #[.map (some b),cmG v]>>=λv=>pure (.value v)))(d:(nxt s c undef s.L).o.map Ob.l'=(nxt s c undef s.L).o.map Ob.r')(u:s.L.all (λy=>[τ].all λt=>y.t.ne t)=true)(x:∀ w',AskAt g w' τ b (E6 f v none)->(∀ B T,τ∈T->Cg B T g w g w')->GG prog fn R B T (nxt s c (.tuple #[]) s.L).s g w'):GG prog fn R B T s g w:=by
 refine L5 c s.L d (BO a) λk C i o e=>?_;obtain⟨w',A,q,j,r⟩:=bY h v p;refine⟨.tuple #[],w',g,.inl ?_,k.ch (j _ [τ] (U'.2 rfl)) (λb m=>k.new b (by rw[r]at m;exact m)) u,x w' q j⟩;rw[Dn a e,Sem.run_bind,A,Result.andThen_ok];rfl
end
end
section
def TO:List Tg:=[.n 50 0,.n 51 0,.n 52 0]
variable{b born i j k n nb ob:Nat}{es:Array MapEntry}{g:Gh}{l:Let}{ls:List Let}{p:Nod}{ts:List Tol}{v:Vt}{w w':World}{x:S3}
theorem aw{x:NX}{lt s:S3}(C:NodeAt g w i nb ob x p)(q:OutAt g w ob lt s ls ts)(D:IR g w)(Q:ls.length<100000000)(l:Let)(k m:S3)(E:FSv g w k l.eA)(F:Rc g w m l.cx)(t:Nat) :
  Calls prog 121 #[pt nb 0,iv (t:Int),.agg (Fj l k m)] w λe w'=>∃ g' lt',e=.returned (.tuple #[])/\OutAt g' w' ob lt' s (ls++[{ l with src:=i,dst:=t }]) ts/\Cg w.heap.size TO g w g' w'/\IR g' w':=by
 obtain⟨B,u,h⟩:=q.bN;have j:lt.n=ls.length:=by have:=u.len;have:=h.len;simp at *;omega
 refine gI (fn:=f121) TO g func121 D (qN C (qO q (qR [] 29 [0,0,0,2,0,2,0,15,0,2,4,6,0,8,10,12,14,0,16,18,20,1,23,0,0] λc N S c1=>Kv 12 (x:=lt) 113 113 187 1 8 (.pointer none) ⟨(c 1),0,none⟩ 1 1 [pt (c 0) 0] (u.ch c1) (by kernel_rfl) (by kernel_rfl) (by kernel_rfl) underlying113 (by kernel_rfl) (by kernel_rfl) (by decide) (by decide) rfl (by simp[Value.oneCell']) (λK=>D0 K 3 (c 1) [pt (c 0) 0] 187 .z true (by kernel_rfl)) (by rw[j];unfold maxLen;omega) (by rw[j];omega) ?_)));intro y O T A R o M;have d:=o w.heap.size [.n 51 0] (U'.2 rfl);refine qR [.n 50 0] 4 [26,28,31,1,1] λs3 P U a=>qE (.tuple #[]) λK=>?_;obtain⟨G,H,I⟩:=K.rI 1 ob (.cells #[S3.v y,S3.v s] 115) 50 0 (by kernel_rfl);obtain⟨J,L⟩:=K.rG 2 (c 0) (.cells (Fj { l with src:=i,dst:=t } k m) 186) false (by kernel_rfl);have b:∀ r,Tg.z∉[Tg.n r 0]:=λr=>by simp
 refine⟨_,y,rfl,⟨G,H,I,⟨B++[(c 0)],?_,?_⟩,(((q.cF.ch c1).ch d).ch a)⟩,(((c1.nil TO).trans (d.mono (by simp[TO]))).trans (a.mono (by simp[TO]))),K.new⟩
 .rw[mS];exact A.ch a
 .refine(((h.ch c1).ch d (b _)).ch a (b _)).snoc ⟨k,m,⟨J,L⟩,(((E.ch c1).ch d (b _)).ch a (b _)),(((F.ch c1).ch d (b _)).ch a (b _))⟩
theorem AJ(h:NS i nb ob g w p ls ts)(J:p.br.length<100000000)(e:Fn)(d:Array Value)(q:Pend)(B:KY g w nb (.func e #[] d) q) :
  Calls prog 86 #[pt nb 0,.func e #[] d] w (NP i nb ob g w (.tuple #[]) (p.wait q) ls ts):=by
 obtain⟨x,lt,C,b,s,A⟩:=h;obtain⟨D,t,j⟩:=b.br;have u:x.synced.n=p.br.length:=by have:=t.len;have:=j.len;simp at *;omega
 refine gI (fn:=f86) (TN i) g func86 A (qN b (qO s (qR [] 9 [0,0,0] λv G M c1=>Kv 8 (x:=x.synced) 127 127 1 1 8 (.nilFunc) ⟨(v 0),0,none⟩ 1 1 [.func e #[] d] (t.ch c1) (by kernel_rfl) (by kernel_rfl) (by kernel_rfl) underlying127 (by kernel_rfl) (by kernel_rfl) (by decide) (by decide) rfl (by simp[Value.oneCell']) (λK=>D0 K 2 (v 0) [.func e #[] d] 1 .z true (by kernel_rfl)) (by rw[u];unfold maxLen;omega) (by rw[u];omega) ?_)));intro E H N y L o F;have r:=o w.heap.size [.n 1 i] (U'.2 rfl);refine qR [.n 0 i] 5 [0,1] λs3 I O k=>qE (.tuple #[]) λK=>?_;have a:=((c1.nil ([.n 1 i,.n 0 i]:List Tg)).m r).m k;have c:Tg.z∉([.n 1 i,.n 0 i]:List Tg):=by simp
 exact⟨_,rfl,⟨{ x with synced:=E },lt,C,K.nd 0 (b.tape.ch a c) (b.eA.ch a c) (Bj b.av a c) ⟨D++[.func e #[] d],y.ch k,(j.ch a c).snoc (B.ch a c)⟩ (b.cn.ch a) (b.ae.ch a) (b.af.ch a) (b.bu.ch a) b.rP,s.ch a c (by simp<;>omega),K.new⟩,(((c1.nil (TN i)).trans (r.mono (by simp[TN]))).trans (k.mono (by simp[TN])))⟩
theorem Rm(h:NS i nb ob g w p ls ts)(H:ts.length<100000000)(c:Cmd)(b a:Int) :
  Calls prog 83 #[pt nb 0,.agg (cmC c),.agg #[iv b,iv a]] w (NP i nb ob g w (.tuple #[]) p ls (ts++[⟨i,c.c,c.s,b,a⟩])):=by
 obtain⟨x,lt,u,q,d,B⟩:=h;have r:u.n=ts.length:=by have A:=d.cF.len;rw[Gf]at A;omega
 refine gI (fn:=f83) (TN i) g func83 B (qN q (qO d (qR [] 28 [0,0,0,0,25,0,2,4,6,0,8,10,12,14,0,16,18,20,1,22,24,26,28,0,30,32,2,34,36,2,38,3,40,43,0,0] λt E J c1=>Kv 22 (x:=u) 33 33 150 5 40 (.agg #[iv 0,iv 0,iv 0,iv 0,iv 0]) ⟨(t 2),0,none⟩ 1 1 [iv (i:Int),iv c.c,iv c.s,iv b,iv a] (d.cF.ch c1) (by kernel_rfl) (by kernel_rfl) (by kernel_rfl) underlying33 (by kernel_rfl) (by kernel_rfl) (by decide) (by decide) rfl (by simp[Value.oneCell']) (λK=>D0 K 4 (t 2) [iv (i:Int),iv c.c,iv c.s,iv b,iv a] 150 .z true (by kernel_rfl)) (by rw[r];unfold maxLen;omega) (by rw[r];omega) ?_)));intro C F L y I j D;have o:=j w.heap.size [.n 52 0] (U'.2 rfl);refine qR [.n 50 0] 4 [46,48,51,1,1] λs3 G M e=>qE (.tuple #[]) λK=>?_;have k:=((c1.nil ([.n 52 0,.n 50 0]:List Tg)).m o).m e;have v:Tg.z∉([.n 52 0,.n 50 0]:List Tg):=by simp
 exact⟨_,rfl,⟨x,lt,C,K.sA 0 q k,K.od 1 (D9 d.bN k v (by simp)) (by rw[List.flatMap_append];exact y.ch e),K.new⟩,(((c1.nil (TN i)).trans (o.mono (by simp[TN]))).trans (e.mono (by simp[TN])))⟩
theorem KB(h:NS i nb ob g w p ls ts)(b:Nat)(l:Let)(m:Cq g w b l) :
  Calls prog 75 #[pt nb 0,pt b 0] w (NP i nb ob g w (.tuple #[]) { p with cl:=max p.cl l.fw.r } ls ts):=by
 obtain⟨x,lt,s,e,j,k⟩:=h;refine gI (fn:=f75) (TN i) g func75 k (qN e (qO j ?_));obtain⟨A,D,a,o,q⟩:=m;refine BS ⟨b,_,.z,false⟩ (λ_=>⟨a.r,a.z,λh=>(by cases h),λh=>absurd rfl h⟩) (by kernel_rfl) ?_;refine qR [] 12 [15,0,2,4,6,8,10,0,12,14,16,18,20,2] λv t B c1=>qT 11 (iv (max p.cl l.fw.r)) (λ_=>(kY #[3,3] 3 p.cl l.fw.r)) (qR [.n 0 i] 5 [24,26,28,31,0,1] λy u C d=>qE (.tuple #[]) λK=>?_);have c:=(c1.nil ([.n 0 i]:List Tg)).trans (d);exact⟨_,rfl,⟨x,lt,s,K.sA 0 e c,j.ch c (hn:=by simp<;>omega),K.new⟩,((c1.nil (TN i)).trans (d.mono (by simp[TN])))⟩
theorem Fy(h:NS i nb ob g w p ls ts)(q:ls.length<100000000)(l:Let)(c d:S3)(t:FSv g w c l.eA)(u:Rc g w d l.cx)(b:Nat) :
  Calls prog 121 #[pt nb 0,iv (b:Int),.agg (Fj l c d)] w (NP i nb ob g w (.tuple #[]) p (ls++[{ l with src:=i,dst:=b }]) ts):=by
 obtain⟨x,lt,v,j,o,s⟩:=h;refine(aw j o s q l c d t u b).mono ?_;rintro e z ⟨k,a,rfl,m,f,n⟩;exact⟨k,rfl,⟨x,a,v,j.ch f (by simp[TO]) (λr y=>by simp[TO];omega),m,n⟩,f.mono (by simp[TO,TN])⟩
def BV(i:Nat)(l:Let)(k:Nat):List Let:=((List.range k).filter λj=>decide (j≠i)).map λto=>{ l with src:=i,dst:=to }
theorem aC(h:k≠i):BV i l (k+1)=BV i l k++[{ l with src:=i,dst:=k }]:=by unfold BV;rw[pj,pK,mS];simp[h]
theorem aA(h:k=i):BV i l (k+1)=BV i l k:=by unfold BV;rw[pj,pK,mS];simp[h]
theorem aB(i:Nat)(l:Let)(k:Nat):(BV i l k).length<=k:=by unfold BV;rw[mU];exact mI (List.length_filter_le _ _) (by simp)
theorem DU(h:NS i nb ob g w p ls ts)(hb:ls.length<90000000)(l:Let)(D E:S3)(hv:FSv g w D l.eA)(hw:Rc g w E l.cx) :
  Calls prog 89 #[pt nb 0,.agg (Fj l D E)] w (NP i nb ob g w (.tuple #[]) p (ls++BV i l 5) ts):=by
 obtain⟨x,lt,tl,U,V,hg⟩:=h;refine gI (fn:=f89) (TN i) g func89 hg (qN U (qO V (qR [] 9 [0,0] λG g1 w1 c1=>BJ 19 [(0,pt nb 0),(3,pt (G 0) 0),(5,iv 0)] [false,false,true] [⟨(G 0),.cells #[iv (l.kind:Int),iv (l.src:Int),iv (l.dst:Int),iv l.fw.r,iv l.fw.n,iv l.bW.an,iv l.bW.b.r,iv l.bW.b.n,iv l.bW.w.k,iv l.bW.w.c,iv l.bW.w.s,iv l.bW.w.n,iv l.bW.w.v,S3.v D,iv (l.an:Int),S3.v E] 186,.z,false⟩] (λk S W e L=>∃ j:Nat,k=5-j/\j<=5/\e=[(0,pt nb 0),(3,pt (G 0) 0),(5,iv (j:Int))]/\L=[⟨(G 0),.cells #[iv (l.kind:Int),iv (l.src:Int),iv (l.dst:Int),iv l.fw.r,iv l.fw.n,iv l.bW.an,iv l.bW.b.r,iv l.bW.b.n,iv l.bW.w.k,iv l.bW.w.c,iv l.bW.w.s,iv l.bW.w.n,iv l.bW.w.v,S3.v D,iv (l.an:Int),S3.v E] 186,.z,false⟩]/\NS i nb ob S W p (ls++BV i l j) ts/\Cg w.heap.size (TN i) g w S W) (by kernel_rfl) (by kernel_rfl) (by kernel_rfl) (by kernel_rfl) 5 (λK=>?_) ?_)))
 .have C2:=c1;refine⟨0,rfl,by omega,rfl,rfl,?_,c1.nil _⟩;rw[show BV i l 0=[]from rfl,nI];exact(nsC U V C2 K)
 .rintro k gr wr _ zr _ ⟨j,rfl,hj,rfl,rfl,hM,hC⟩ J hJ;have hs:=aB i l j;obtain⟨xr,a3,a8,a,d,a1⟩:=hM;refine qN a (qO d (qR [] 5 [] λs3 g3 w3 m=>?_));by_cases h1:j<5
  .refine qI (decide ((j:Int)<5)) true (N' (by omega)) (qR [] 17 [1] λs4 g4 w4 y=>?_);by_cases T:(j:Int)≠(i:Int)
   .refine qI (((j:Int) != (i:Int))) true (by simpa using T) (qR [] 4 [0] λs5 g5 w5 M=>?_);have P:=(((hC.n m).n y).n M);refine Ad λK=>?_;have X:NS i nb ob g5 w5 p (ls++BV i l j) ts:=(nsC a d ((m.n y).n M) K);refine qG 3 (TN i) [true,false,false] (Fy X (by simp;omega) l D E (hv.ch P (Bg i)) (hw.ch P (Bg i)) j) ?_;rintro e' w6 ⟨g6,rfl,I,F⟩;refine⟨_,g6,rfl,F,I.new,?_⟩;replace F:=F.ret (B:=w.heap.size);rw[mN,<- aC (by omega)]at I
    obtain⟨x6,a2,a7,A,C,a0⟩:=I;refine qN A (qO C (qR [] 3 [] λs8 g8 w8 Q=>qV 0 (iv ((j:Int)+1)) (AZ 5 (j:Int) underlying3 (by omega)) (qR [] 2 [] λs9 g9 w9 R=>qB [true,false,false] λz H K=>hJ (5-(j+1)) _ _ _ z _ (by omega) ⟨j+1,rfl,by omega,rfl,rfl,?_,((((((hC.n m).n y).n M).trans F).n Q).n R)⟩ K)));have o:NS i nb ob g9 w9 p (ls++BV i l (j+1)) ts:=(nsC A C (Q.n R) H);exact o
   .refine qI (((j:Int) != (i:Int))) false (by simpa using T) (qR [] 3 [] λa4 Y a9 q=>qV 0 (iv ((j:Int)+1)) (AZ 5 (j:Int) underlying3 (by omega)) (qR [] 2 [] λa5 N O t=>qB [true,false,false] λz H K=>hJ (5-(j+1)) _ _ _ z _ (by omega) ⟨j+1,rfl,by omega,rfl,rfl,?_,((((hC.n m).n y).n q).n t)⟩ K));have o:NS i nb ob N O p (ls++BV i l j) ts:=(nsC a d (((m.n y).n q).n t) H);exact(by simpa[aA (show j=i by omega)]using o)
  .refine qI (decide ((j:Int)<5)) false (G' (by omega)) (qR [] 1 [] λa6 Z b0 u=>?_);obtain rfl:j=5:=by omega
   exact qF a d (m.n u) ((hC.n m).n u)
theorem NK(h:NS i nb ob g w p ls ts) :
  Calls prog 123 #[pt nb 0] w λe w'=>e=.returned (.bool p.leads)/\Bw w w':=by
 obtain⟨x,lt,v,j,k,l⟩:=h;refine gI (fn:=f123) (TN i) g func123 l (qN j (qO k (qR [] 13 [24,0,2,4,6,8,10,0,12] λr m z c1=>?_)));by_cases a:p.bt.fw=Bv
 .refine qT 7 (.bool false) (λ_=>(I2 (x:=(.tmp 8)) (y:=(.tmp 9)) p.bt.fw Bv a)) (qR [] 17 [16,18,20,22,24,26,28,30,32,34,36,38,40,42,44,46] λs n A b=>qE (.bool false) λK=>⟨(by rw[show p.leads=false from G' (λh=>h.1 a)]),Cg.ab (c1.trans b) (λ_ _=>O')⟩)
 .refine qT 7 (.bool true) (λ_=>(I3 (x:=(.tmp 8)) (y:=(.tmp 9)) p.bt.fw Bv a)) (qR [] 13 [16,18,20,22,24,26,28,0,30,32,34,36,38,40,0] λt o B c=>qT 21 (.bool (decide (p.bt.fw=p.vo.p))) (λ_=>(ms (x:=(.tmp 17)) (y:=(.tmp 23)) p.bt.fw p.vo.p)) (qR [] 3 [44,46] λu q C d=>qE (.bool (decide (p.bt.fw=p.vo.p))) λK=>⟨(by rw[show p.leads=decide (p.bt.fw=p.vo.p)from nK.2 ⟨λh=>h.2,λh=>⟨a,h⟩⟩]),Cg.ab ((c1.trans c).trans d) (λ_ _=>O')⟩))
theorem Me(h:NS i nb ob g w p ls ts)(v:p.br.length<100000000)(a:Nat)(e:Int) :
  Calls prog 119 #[pt nb 0,iv (a:Int),iv e] w (NP i nb ob g w (.tuple #[]) (p.fa a e) ls ts):=by
 obtain⟨x,lt,N,d,k,y⟩:=h;refine gI (fn:=f119) (TN i) g func119 y (qN d (qO k (qR [] 11 [0,0,0,0] λc I O c1=>?_)));by_cases b:e=7
 .refine qI (e != 7) false (by simpa using b) (qR [] 15 [2,0,0,0,4,0,2] λq u B m=>Ad λK=>?_);obtain⟨C,D⟩:=K.rG 2 (c 0) (.cells #[pt nb 0] 118) false (by kernel_rfl);obtain⟨E,F⟩:=K.rG 3 (c 1) (.cells #[iv (a:Int)] 3) false (by kernel_rfl);obtain⟨G,H⟩:=K.rG 4 (q 0) (.cells #[iv p.vo.p.r,iv p.vo.p.n] 123) true (by kernel_rfl);have s:NS i nb ob u B p ls ts:=(nsC d k (c1.n m) K);refine qS0 2 [false,false,true,true,true] (AJ s v _ _ (.fa a p.vo.p) ⟨(c 0),(c 1),(q 0),rfl,⟨C,D⟩,⟨E,F⟩,⟨G,H⟩⟩) λJ P R z A j l t=>qR [] 1 [] λM L Q o=>qE (.tuple #[]) λK=>?_;rw[show p.fa a e=p.wait (.fa a p.vo.p)from if_pos b];exact⟨_,rfl,(nsC j l o K),((((c1.nil (TN i)).n m).trans (t)).n o)⟩
 .refine qI (e != 7) true (by simpa using b) (qE (.tuple #[]) λK=>?_);rw[show p.fa a e=p from if_neg b];exact⟨_,rfl,(nsC d k c1 K),(c1.nil (TN i))⟩
def gh0:Gh:=⟨λ_=>.z,λ_=>0⟩
def Qg(l:List Cmd)(c:Cmd):Int:=if c∈l then(l.idxOf c:Int)else -1
theorem Qh{c:Cmd}:∀ {l:List Cmd} {j:Nat},l[j]?=some c->l.idxOf c<=j
 | [],j,h=>by cases h
 | d::l,0,h=>by simp only[nY,P']at h;subst h;simp
 | d::l,j+1,h=>by
  have:=Qh (l:=l) (j:=j) (by simpa using h);rw[List.idxOf_cons];cases d==c<;>simp<;>omega
theorem dk(l:List Cmd)(c:Cmd):decide (0<=Qg l c)=decide (c∈l):=by
 unfold Qg;by_cases a:c∈l
 .rw[if_pos a,N' a];exact N' (by omega)
 .rw[if_neg a,G' a];rfl
theorem YA{l:List Cmd}{c:Cmd}(h:l[j]?=some c)(e:∀ i,i<j->l[i]?≠some c):Qg l c=(j:Int):=by
 have b:c∈l:=nm h;have f:j<l.length:=(Q'.1 h).1;unfold Qg;rw[if_pos b]
 congr 1
 have a:l.idxOf c<l.length:=List.idxOf_lt_length_iff.2 b;have d:l[l.idxOf c]?=some c:=by rw[H' a,List.getElem_idxOf a]
 rcases pR (l.idxOf c) j with h3|h3|h3
 .exact absurd d (e _ h3)
 .exact h3
 .have:=Qh h;omega
theorem NE{l:List Cmd}(h:RdC w x l)(Y:l.length<100000000)(c:Cmd) :
  Calls prog 134 #[x.v,.agg #[iv c.k,iv c.c,iv c.s,iv c.n,iv c.v]] w λe w'=>e=.returned (iv (Qg l c))/\Bw w w':=by
 have Z:=h.len;refine gI (fn:=f134) [] gh0 func134 (λ_ _=>⟨rfl,rfl⟩) (qR [] 13 [0,0] λo R w1 c1=>BJ 19 [(0,S3.v x),(3,pt (o 0) 0),(7,iv (x.n:Int)),(8,iv 0)] [true] [⟨(o 0),.cells #[iv c.k,iv c.c,iv c.s,iv c.n,iv c.v] 64,.z,false⟩] (λk F w' e L=>∃ j:Nat,k=l.length-j/\j<=l.length/\e=[(0,S3.v x),(3,pt (o 0) 0),(7,iv (x.n:Int)),(8,iv (j:Int))]/\L=[⟨(o 0),.cells #[iv c.k,iv c.c,iv c.s,iv c.n,iv c.v] 64,.z,false⟩]/\(∀ i,i<j->l[i]?≠some c)/\Cg w.heap.size [] gh0 w F w') (by kernel_rfl) (by kernel_rfl) (by kernel_rfl) (by kernel_rfl) l.length (λK=>?_) ?_)
 .exact⟨0,rfl,by omega,rfl,rfl,λi d=>absurd d (by omega),c1⟩
 .rintro k gr wr _ zr _ ⟨j,rfl,hj,rfl,rfl,hI,hC⟩ J hJ;refine qR [] 5 [] λs2 S w2 g=>?_;by_cases B:j<l.length
  .refine qI ((decide ((j:Int)<(x.n:Int)))) true (N' (by omega)) ?_;obtain⟨a,b⟩:∃ a,l[j]?=some a:=⟨_,H' B⟩;rcases h.ex with h2|⟨bx,ox,hxa,hbx,hcell⟩
   .exact absurd B (by rw[h2];simp)
   refine qR [] 13 [6,0,0,2,4] λs3 T w3 r=>qT 3 (pt bx (ox+5*j)) (λ_=>(Mb hxa j (by omega))) ?_;have I:=Cg.ab (hC.trans (g.trans r)) (λ_ _=>O');refine qV 4 (.agg #[iv a.k,iv a.c,iv a.s,iv a.n,iv a.v]) (Pa a λi u N=>(I.cell (p:=⟨bx,ox+5*j+i,none⟩) hbx).trans (by rw[nP];exact hcell _ u (O9 b N))) (qT 5 (.bool (decide (c=a))) (λ_=>(mt (x:=(.tmp 11)) (y:=(.tmp 15)) c a)) (qR [] 1 [] λs6 U w6 A=>?_));by_cases m:c=a
   .refine qI (decide (c=a)) true (N' m) (qR [] 5 [] λs7 V w7 C=>qE (iv (j:Int)) λK=>⟨by rw[YA (by rw[m];exact b) hI],Cg.ab (hC.trans (((g.trans r).trans A).trans C)) (λ_ _=>O')⟩)
   .refine qI (decide (c=a)) false (G' m) (qR [] 3 [] λs8 W w8 D=>qV 0 (iv ((j:Int)+1)) (AZ 8 (j:Int) underlying3 (by omega)) (qR [] 2 [] λs9 X w9 E=>qB [true] λz Q K=>hJ (l.length-(j+1)) _ _ _ z _ (by omega) ⟨j+1,rfl,by omega,rfl,rfl,λi d=>?_,hC.trans ((((g.trans r).trans A).trans D).trans E)⟩ K));rcases nO i j with h4|h4
    .exact hI i h4
    .rw[show i=j by omega,b];intro H;exact m (by simpa using H.symm)
  .refine qI ((decide ((j:Int)<(x.n:Int)))) false (G' (by omega)) (qR [] 5 [] λO G P q=>?_);have t:c∉l:=λM=>by obtain⟨i,d⟩:=nS.1 M;exact hI i (by have:=(Q'.1 d).1;omega) d
   exact qE (iv (-1)) λK=>⟨by unfold Qg;rw[if_neg t],Cg.ab (hC.trans (g.trans q)) (λ_ _=>O')⟩
theorem Fe{l:List Cmd}(h:RdC w x l)(m:l.length<100000000)(c:Cmd) :
  Calls prog 81 #[x.v,.agg #[iv c.k,iv c.c,iv c.s,iv c.n,iv c.v]] w λe w'=>e=.returned (.bool (decide (c∈l)))/\Bw w w':=by
 refine gI (fn:=f81) [] gh0 func81 (λ_ _=>⟨rfl,rfl⟩) (qR [] 9 [0,0,0] λq j r c1=>?_);have a:=Cg.ab c1 (λ_ _=>O');refine qC 2 (NE (h.ab a) m c) ?_;rintro o t ⟨rfl,b⟩;refine⟨_,rfl,b,?_⟩;have d:=Cg.au (B:=w.heap.size) (T:=[]) (g:=j) b;refine qR [] 3 [] λs3 p u i=>qE (.bool (decide (0<=Qg l c))) λK=>⟨by rw[dk],Cg.ab ((c1.trans d).trans i) (λ_ _=>O')⟩
theorem UC(h:NS i nb ob g w p ls ts)(k:p.done<=p.ae.length) :
  Calls prog 59 #[pt nb 0] w λe w'=>∃ y:S3,e=.returned y.v/\RdC w' y (p.ae.take p.done)/\Bw w w':=by
 obtain⟨x,lt,s,a,j,l⟩:=h;have o:=a.ae.num;have c:=a.ae.rd;refine gI (fn:=f59) (TN i) g func59 l (qN a (qO j (qR [] 16 [12,0,2,4,6,8,0,10,12,14,16,18,0] λq m t c1=>qT 10 (S3.v (x.ae.cut 0 p.done)) (λ_=>(l9 x.ae p.done (by have:=c.cap;omega))) (qR [] 2 [22] λr n u d=>?_))));have b:=Cg.ab (c1.trans d) (λ_ _=>O');exact qE (S3.v (x.ae.cut 0 p.done)) λK=>⟨_,rfl,(c.ab b).take k,b⟩
theorem IG(h:NS i nb ob g w p ls ts)(r:ls.length<100000000)(d an:Nat)(t:an<=p.ae.length) :
  Calls prog 131 #[pt nb 0,iv (d:Int),iv (an:Int)] w (NP i nb ob g w (.tuple #[]) p (ls++[{ Cv 5 with src:=i,dst:=d,an:=an,cx:=p.ae.drop an }]) ts):=by
 obtain⟨x,lt,H,a,l,s⟩:=h;have D:=a.ae.num;refine gI (fn:=f131) (TN i) g func131 s (qN a (qO l (qR [] 10 [0] λE A I c1=>qV 9 (S3.v (x.ae.cut an x.ae.n)) (ja x.ae an (by omega)) (qR [] 1 [] λF q z j=>Ad λK=>?_))));have e:=c1.n j;have m:NS i nb ob q z p ls ts:=(nsC a l e K);refine qS0 11 [false,false] (Fy m r { Cv 5 with an:=an,cx:=p.ae.drop an } s30 (x.ae.cut an x.ae.n) ⟨Sv.nil _,λh=>absurd rfl h⟩ ((a.ae.rc.drop t).ch e) d) λB J M u y b c o=>qR [] 1 [] λG C L k=>qF b c k ((((c1.nil (TN i)).n j).trans (o)).n k)
theorem NL(h:NS i nb ob g w p ls ts)(a:Nat)(b:List Cmd)(e:S3)(s:Rc g w e b)(hs:a<=p.ae.length)(X:p.ae.length<100000000)(J:b.length<100000000) :
  Calls prog 122 #[pt nb 0,iv (a:Int),e.v] w (NP i nb ob g w (.tuple #[]) (p.dW a b) ls ts):=by
 obtain⟨x,lt,N,d,B,L⟩:=h;have M:=d.ae.num;have Z:=s.len;have C:=s.cap;refine gI (fn:=f122) (TN i) g func122 L (qN d (qO B (qR [] 9 [0] λs1 Q w1 c1=>qV 7 (iv ((x.ae.n-a:Nat):Int)) (lC (x:=(.tmp 12)) (y:=(.tmp 13)) x.ae.n a underlying3 (by omega) (by omega)) (qR [] 9 [] λs2 R w2 q=>?_))));by_cases W:x.ae.n-a<e.n
 .refine qI ((decide (((x.ae.n-a:Nat):Int)<(e.n:Int)))) true (N' (by omega)) ?_;obtain⟨k,Y⟩:∃ k,k=x.ae.n-a:=⟨_,rfl⟩;have D:k<b.length:=by omega
  obtain⟨F,ow,r⟩:=s.addr D;refine qR [] 9 [13,0,2,4,6,8,10,0,12,14] λs3 S w3 t=>qT 8 (.slice (some ⟨F,ow+5*(x.ae.n-a),none⟩) (e.n-(x.ae.n-a)) (e.c-(x.ae.n-a))) (λ_=>(l6 r (x.ae.n-a) (by omega) C)) ?_;have E:=(c1.n q).n t;refine Kv 9 (x:=x.ae) 38 38 64 5 40 (.agg #[iv 0,iv 0,iv 0,iv 0,iv 0]) ⟨F,ow+5*(x.ae.n-a),none⟩ (e.n-(x.ae.n-a)) (e.c-(x.ae.n-a)) (cmL (b.drop (x.ae.n-a))) (d.ae.ch E) (by kernel_rfl) (by kernel_rfl) (by kernel_rfl) underlying38 (by kernel_rfl) (by kernel_rfl) (by decide) (by omega) (by rw[Bz,mJ];omega) (OA _) (λK=>kA r (s.ch E) _ (by omega)) (by unfold maxLen;omega) (by omega) ?_;intro O T w6 I n6 A P;have G:=A w.heap.size [.n 3 i] (U'.2 rfl);refine qR [.n 0 i] 5 [20,22,24,27,0,1] λs7 U w7 u=>qE (.tuple #[]) λK=>?_;have j:=((((c1.nil ([.n 3 i,.n 0 i]:List Tg)).n q).n t).m G).m u;have o:Tg.z∉([.n 3 i,.n 0 i]:List Tg):=by simp
  exact⟨_,rfl,⟨{ x with ae:=O },lt,N,K.nd 0 (d.tape.ch j o) (d.eA.ch j o) (Bj d.av j o) (BL d.br j o (by simp)) (d.cn.ch j) (by rw[show(p.dW a b).ae=p.ae++b.drop (x.ae.n-a)from by unfold Nod.dW;rw[M],BY];exact I.ch u) (d.af.ch j) (d.bu.ch j) d.rP,B.ch j o (by simp<;>omega),K.new⟩,(((((c1.nil (TN i)).n q).n t).trans (G.mono (by simp[TN]))).trans (u.mono (by simp[TN])))⟩
 .refine qI ((decide (((x.ae.n-a:Nat):Int)<(e.n:Int)))) false (G' (by omega)) (qR [] 1 [] λs9 V w9 H=>qE (.tuple #[]) λK=>?_);rw[show p.dW a b=p from by unfold Nod.dW;rw[nu (by omega),nI]];exact⟨_,rfl,(nsC d B ((c1.n q).n H) K),(((c1.nil (TN i)).n q).n H)⟩
theorem QZ(h:NS i nb ob g w p ls ts)(o:ls.length<90000000){a b2 b3:Nat}(e:Box g w a #[pt nb 0] 118) :
  Calls prog 100 #[pt a 0] w (NP i nb ob g w (.tuple #[]) p (ls++BV i (Cv 6) 5) ts):=by
 obtain⟨x,lt,C,j,k,q⟩:=h;refine gI (fn:=f100) (TN i) g func100 q (qN j (qO k (BS ⟨a,.cells #[pt nb 0] 118,.z,false⟩ (λ_=>⟨e.r,e.z,λh=>(by cases h),λh=>absurd rfl h⟩) (by kernel_rfl) ?_)));refine qR [] 3 [2] λA u D c1=>qS 2 [false,false,true] j k c1 (λl=>DU l o (Cv 6) s30 s30 ⟨Sv.nil _,λh=>absurd rfl h⟩ (Rc.nil _ _)) λv E G s t b c m=>qR [] 1 [] λB y F d=>qF b c d (((c1.nil (TN i)).trans (m)).n d)
theorem Pc{a:Nat}{b:Bal}(h:NS i nb ob g w p ls ts)(F:ls.length<90000000){c d e:Nat}(m:Box g w c #[pt nb 0] 118)(o:Box g w d #[iv (a:Int)] 3)(q:Box g w e #[iv b.r,iv b.n] 123)  :
  Calls prog 168 #[pt c 0,pt d 0,pt e 0] w (NP i nb ob g w (.tuple #[]) p (ls++[{ Cv 2 with fw:=b,src:=i,dst:=a }]) ts):=by
 obtain⟨x,lt,I,s,t,y⟩:=h;refine gI (fn:=f168) (TN i) g func168 y (qN s (qO t (BS ⟨c,.cells #[pt nb 0] 118,.z,false⟩ (λ_=>⟨m.r,m.z,λh=>(by cases h),λh=>absurd rfl h⟩) (by kernel_rfl) ?_)));refine BS ⟨d,.cells #[iv (a:Int)] 3,.z,false⟩ (λ_=>⟨o.r,o.z,λh=>(by cases h),λh=>absurd rfl h⟩) (by kernel_rfl) ?_;refine BS ⟨e,.cells #[iv b.r,iv b.n] 123,.z,false⟩ (λ_=>⟨q.r,q.z,λh=>(by cases h),λh=>absurd rfl h⟩) (by kernel_rfl) ?_;refine qR [] 5 [2,3,4] λG C J c1=>qS 4 [false,false,true,true,true] s t c1 (λu=>Fy u (by omega) { Cv 2 with fw:=b } s30 s30 ⟨Sv.nil _,λh=>absurd rfl h⟩ (Rc.nil _ _) a) λD K M A B j k v=>qR [] 1 [] λH E L l=>qF j k l (((c1.nil (TN i)).trans (v)).n l)
theorem Hv(h:NS i nb ob g w p ls ts)(J:ls.length<90000000){c d b3 b:Nat}{l:Let}(m:Box g w c #[pt nb 0] 118)(o:Box g w d #[pt b 0] 187)(y:Cq g w b l) :
  Calls prog 126 #[pt c 0,pt d 0] w (NP i nb ob g w (.tuple #[]) p (ls++[{ Cv 4 with bW:=l.bW,src:=i,dst:=l.src }]) ts):=by
 obtain⟨x,lt,M,q,s,v⟩:=h;refine gI (fn:=f126) (TN i) g func126 v (qN q (qO s (BS ⟨c,.cells #[pt nb 0] 118,.z,false⟩ (λ_=>⟨m.r,m.z,λh=>(by cases h),λh=>absurd rfl h⟩) (by kernel_rfl) ?_)));refine BS ⟨d,.cells #[pt b 0] 187,.z,false⟩ (λ_=>⟨o.r,o.z,λh=>(by cases h),λh=>absurd rfl h⟩) (by kernel_rfl) ?_;obtain⟨E,F,a,A,B⟩:=y;refine BS ⟨b,.cells (Fj l E F) 186,.z,false⟩ (λ_=>⟨a.r,a.z,λh=>(by cases h),λh=>absurd rfl h⟩) (by kernel_rfl) ?_;refine qR [] 11 [10,0,2,2,3,4,6,8,4,10,3,12,14,16,4,18] λK G N c1=>qS 10 [false,false,true,true,true] q s c1 (λt=>Fy t (by omega) { Cv 4 with bW:=l.bW } s30 s30 ⟨Sv.nil _,λh=>absurd rfl h⟩ (Rc.nil _ _) l.src) λH O Q C D e j u=>qR [] 1 [] λL I P k=>qF e j k (((c1.nil (TN i)).trans (u)).n k)
theorem Mq(h:NS i nb ob g w p ls ts)(K:ls.length<90000000){c d b3 b:Nat}{l:Let}(o:Box g w c #[pt nb 0] 118)(q:Box g w d #[pt b 0] 187)(y:Cq g w b l) :
  Calls prog 128 #[pt c 0,pt d 0] w (NP i nb ob g w (.tuple #[]) p (ls++[{ Cv 6 with an:=p.ae.length,src:=i,dst:=l.src }]) ts):=by
 obtain⟨x,lt,N,e,s,v⟩:=h;refine gI (fn:=f128) (TN i) g func128 v (qN e (qO s (BS ⟨c,.cells #[pt nb 0] 118,.z,false⟩ (λ_=>⟨o.r,o.z,λh=>(by cases h),λh=>absurd rfl h⟩) (by kernel_rfl) ?_)));refine BS ⟨d,.cells #[pt b 0] 187,.z,false⟩ (λ_=>⟨q.r,q.z,λh=>(by cases h),λh=>absurd rfl h⟩) (by kernel_rfl) ?_;obtain⟨F,G,a,A,B⟩:=y;refine BS ⟨b,.cells (Fj l F G) 186,.z,false⟩ (λ_=>⟨a.r,a.z,λh=>(by cases h),λh=>absurd rfl h⟩) (by kernel_rfl) ?_;have C:=e.ae.num;refine qR [] 13 [12,0,2,2,3,4,6,8,4,10,2,12,14,16,18,0,20,22] λL H O c1=>qS 12 [false,false,true,true,true] e s c1 (λt=>(show{ Cv 6 with an:=x.ae.n,src:=i,dst:=l.src }=({ Cv 6 with an:=p.ae.length,src:=i,dst:=l.src }:Let)from by rw[C])▸Fy t (by omega) { Cv 6 with an:=x.ae.n } s30 s30 ⟨Sv.nil _,λh=>absurd rfl h⟩ (Rc.nil _ _) l.src) λI P R D E j k u=>qR [] 1 [] λM J Q m=>qF j k m (((c1.nil (TN i)).trans (u)).n m)
theorem J5(h:NS i nb ob g w p ls ts)(K:ls.length<90000000){c d b3 b:Nat}{l:Let}(m:Box g w c #[pt nb 0] 118)(o:Box g w d #[pt b 0] 187)(y:Cq g w b l)(C:l.an<=p.ae.length) :
  Calls prog 130 #[pt c 0,pt d 0] w (NP i nb ob g w (.tuple #[]) p (ls++[{ Cv 5 with src:=i,dst:=l.src,an:=l.an,cx:=p.ae.drop l.an }]) ts):=by
 obtain⟨x,lt,N,q,s,v⟩:=h;refine gI (fn:=f130) (TN i) g func130 v (qN q (qO s (BS ⟨c,.cells #[pt nb 0] 118,.z,false⟩ (λ_=>⟨m.r,m.z,λh=>(by cases h),λh=>absurd rfl h⟩) (by kernel_rfl) ?_)));refine BS ⟨d,.cells #[pt b 0] 187,.z,false⟩ (λ_=>⟨o.r,o.z,λh=>(by cases h),λh=>absurd rfl h⟩) (by kernel_rfl) ?_;obtain⟨F,G,a,A,B⟩:=y;refine BS ⟨b,.cells (Fj l F G) 186,.z,false⟩ (λ_=>⟨a.r,a.z,λh=>(by cases h),λh=>absurd rfl h⟩) (by kernel_rfl) ?_;refine qR [] 10 [9,0,2,2,3,4,6,8,4,10,3,12,14,16,4] λL H O c1=>qS 9 [false,false,true,true,true] q s c1 (λt=>IG t (by omega) l.src l.an C) λI P R D E e j u=>qR [] 1 [] λM J Q k=>qF e j k (((c1.nil (TN i)).trans (u)).n k)
theorem GC{d:S3}{a:List Vt}(h:NS i nb ob g w p ls ts)(S:ls.length<90000000){j k m c:Nat}{l:Let}(u:Box g w j #[pt nb 0] 118)(y:Box g w k #[pt c 0] 187)(A:Box g w m #[S3.v d] 124)(G:Cq g w c l)(J:FSv g w d a) :
  Calls prog 120 #[pt j 0,pt k 0,pt m 0] w (NP i nb ob g w (.tuple #[]) p (ls++[{ Cv 1 with fw:=l.fw,eA:=a,cx:=p.ae,src:=i,dst:=l.src }]) ts):=by
 obtain⟨x,lt,V,o,B,F⟩:=h;refine gI (fn:=f120) (TN i) g func120 F (qN o (qO B (BS ⟨j,.cells #[pt nb 0] 118,.z,false⟩ (λ_=>⟨u.r,u.z,λh=>(by cases h),λh=>absurd rfl h⟩) (by kernel_rfl) ?_)));refine BS ⟨k,.cells #[pt c 0] 187,.z,false⟩ (λ_=>⟨y.r,y.z,λh=>(by cases h),λh=>absurd rfl h⟩) (by kernel_rfl) ?_;refine BS ⟨m,.cells #[S3.v d] 124,.z,false⟩ (λ_=>⟨A.r,A.z,λh=>(by cases h),λh=>absurd rfl h⟩) (by kernel_rfl) ?_;obtain⟨N,P,b,H,I⟩:=G;refine BS ⟨c,.cells (Fj l N P) 186,.z,false⟩ (λ_=>⟨b.r,b.z,λh=>(by cases h),λh=>absurd rfl h⟩) (by kernel_rfl) ?_;refine qR [] 17 [16,0,2,2,3,4,6,8,5,10,3,12,14,16,5,18,4,20,2,22,24,26,28,0,30] λT E O c1=>Ad λK=>?_;have e:=c1;have C:NS i nb ob E O p ls ts:=(nsC o B e K);refine qS0 16 [false,false,true,true,true,true] (Fy C (by omega) { Cv 1 with fw:=l.fw,eA:=a,cx:=p.ae } d x.ae (J.ch e) (o.ae.rc.ch e) l.src) λQ W Y L M q s D=>qR [] 1 [] λU R X t=>qF q s t (((c1.nil (TN i)).trans (D)).n t)
theorem LA{a:Acc}{l:List Vt}:JQ a (v::l)=JQ (if B1 a v=0 then⟨Ch a v,CM a v⟩else a) l:=rfl
theorem Ur{l:List Vt}(h:l[j]?=some v):l.drop j=v::l.drop (j+1):=by
 obtain⟨a,b⟩:=Q'.1 h;rw[<- b];exact nz a
theorem Qe(h:NS i nb ob g w p ls ts){w0:World}(hB:Base w0 g w)(hT:Tabs w0)(j:Nat)(hj:j<5)(vs:List Vt)(y:S3)(hy:FSv g w y vs)(hb:(p.bt.av j).vs.length<100000000) :
  Calls prog 88 #[pt nb 11,iv (j:Int),y.v] w (NP i nb ob g w (.tuple #[]) { p with bt:=p.bt.rC j vs } ls ts):=by
 obtain⟨x,lt,G,m,hO,hg⟩:=h;refine gI (fn:=f88) (TN i) g func88 hg (qN m (qO hO (qR [] 18 [0,1,0,2,0] λD g1 w1 c1=>BT 50 (λF H e L=>e=[(0,pt nb 11),(1,iv (j:Int)),(6,pt (D 0) 0),(23,S3.v (x.hv j)),(24,iv ((x.hv j).n:Int)),(25,iv 0)]/\L=[⟨nb,.cells (Az i ob p x) 145,.n 0 i,false⟩,⟨ob,.cells #[S3.v lt,S3.v G] 115,.n 50 0,false⟩,⟨(D 0),.cells #[iv p.bt.fw.r,iv p.bt.fw.n,S3.v y] 126,.l,false⟩]/\True/\Cg w.heap.size ([]:List Tg) g1 w1 F H) (by kernel_rfl) ?_ ?_)))
 .intro J hJ;rcases hZ hj with rfl|rfl|rfl|rfl|rfl <;>
  (refine qR [] 6 [0] λs3 g3 w3 c3=>?_;exact qB [true,true,true] λz K0 K=>hJ _ _ _ z _ ⟨rfl,rfl,trivial,(c3.nil ([]:List Tg))⟩ K)
 rintro g2 w2 _ z2 _ ⟨rfl,rfl,_,c2⟩;have hH:=m.av j hj;have hn:(x.hv j).n=(p.bt.av j).vs.length:=by obtain⟨a,b6,hh⟩:=hH.s.shape;simp only[Value.slice.injEq]at hh;exact hh.2.1
 obtain⟨l,hl⟩:∃ l,l=(p.bt.av j).vs:=⟨_,rfl⟩;rw[<- hl]at hH hn hb
 refine qR [] 1 [] λs4 g4 w4 c4=>BJ 50 [(0,pt nb 11),(1,iv (j:Int)),(6,pt (D 0) 0),(23,S3.v (x.hv j)),(24,iv ((x.hv j).n:Int)),(25,iv 0)] [true,true,true] [⟨nb,.cells (Az i ob p x) 145,.n 0 i,false⟩,⟨ob,.cells #[S3.v lt,S3.v G] 115,.n 50 0,false⟩,⟨(D 0),.cells #[iv p.bt.fw.r,iv p.bt.fw.n,S3.v y] 126,.l,false⟩] (λk F H e L=>∃ (k0:Nat) (a:Acc) (ya:S3),k=l.length-k0/\k0<=l.length/\e=[(0,pt nb 11),(1,iv (j:Int)),(6,pt (D 0) 0),(23,S3.v (x.hv j)),(24,iv ((x.hv j).n:Int)),(25,iv (k0:Int))]/\L=[⟨nb,.cells (Az i ob p x) 145,.n 0 i,false⟩,⟨ob,.cells #[S3.v lt,S3.v G] 115,.n 50 0,false⟩,⟨(D 0),.cells #[iv a.p.r,iv a.p.n,S3.v ya] 126,.l,false⟩]/\JQ a (l.drop k0)=JQ ⟨p.bt.fw,vs⟩ l/\FSv F H ya a.vs/\Cg w.heap.size [] g w F H) (by kernel_rfl) (by kernel_rfl) (by kernel_rfl) (by kernel_rfl) l.length (λK=>?_) ?_
 .exact⟨0,⟨p.bt.fw,vs⟩,y,rfl,by omega,rfl,rfl,rfl,(((hy.ch c1).ch c2).ch c4),((c1.trans c2).trans c4)⟩
 .rintro k gr wr _ zr _ ⟨k0,a,ya,rfl,hk0,rfl,rfl,hI,hya,hC⟩ J hJ;refine qR [] 5 [] λs5 g5 w5 A=>?_;by_cases h1:k0<l.length
  .refine qI ((decide ((k0:Int)<((x.hv j).n:Int)))) true (N' (by omega)) ?_;obtain⟨v,hv⟩:∃ v,l[k0]?=some v:=⟨_,H' h1⟩;have W:=hH.ch hC;obtain⟨bx,ox,X,d2,a8⟩:=W.s.spot k0 v hv;refine qR [] 5 [] λs6 g6 w6 E=>qV 0 (pt bx (ox+8*k0)) (UM X k0 (by omega)) ?_;have a9:=((W.ch A).ch E).s.spot k0 v hv;obtain⟨b5,d4,o,b3,u⟩:=a9;rw[X]at o
   simp only[P',Addr.mk.injEq,and_true]at o;obtain⟨rfl,rfl⟩:=o;refine qV 1 (.agg #[iv v.an,iv v.b.r,iv v.b.n,iv v.w.k,iv v.w.c,iv v.w.s,iv v.w.n,iv v.w.v]) (eo v u) (qR [] 7 [0,0,3,0,2,3] λs8 g8 w8 V=>Ad λa0=>?_);have a7:=((((hya.ch A).ch E).ch V)).s;have a5:=hB.ch (hC.trans ((A.trans E).trans V)) (by simp);have a6:∀ z,w8.heap.size<=z->g8.t z=.z:=λz hz=>(a0.new z hz).1;refine qC 2 (BX a.p _ a.vs v w8 a7 (a5.tn hT)) ?_;rintro e' e4 ⟨f3,rfl,Y,b4,M⟩;refine⟨_,rfl,M,?_⟩;have C:=Cg.au (B:=w.heap.size) (T:=[]) (g:=g8) M;obtain⟨ys,rfl,d3,b0⟩:=DA Y a6 (by omega);refine qR [] 12 [0,0,4,0] λd5 b7 e5 q=>?_;by_cases h2:B1 a v=0
   .refine qI (((B1 a v)==0)) true (by simpa using h2) (qR [] 6 [4,2,0] λd6 b8 e6 N=>qV 0 (iv ((k0:Int)+1)) (AZ 25 (k0:Int) underlying3 (by omega)) (qR [] 2 [] λd7 b9 e7 O=>qB [true,true,true,false,false] λz K0 K=>hJ (l.length-(k0+1)) _ _ _ z _ (by omega) ⟨k0+1,⟨Ch a v,CM a v⟩,ys,rfl,by omega,rfl,rfl,?_,(((b0.ch q).ch N).ch O),hC.trans ((((((A.trans E).trans V).trans C).trans q).trans N).trans O)⟩ K));rw[<- hI,Ur hv,LA,if_pos h2]
   .refine qI (((B1 a v)==0)) false (by simpa using h2) (qR [] 3 [] λd8 c0 e8 P=>qV 0 (iv ((k0:Int)+1)) (AZ 25 (k0:Int) underlying3 (by omega)) (qR [] 2 [] λd9 c7 e9 Q=>qB [true,true,true,false,false] λz K0 K=>hJ (l.length-(k0+1)) _ _ _ z _ (by omega) ⟨k0+1,a,ya,rfl,by omega,rfl,rfl,?_,(((((((hya.ch A).ch E).ch V).ch C).ch q).ch P).ch Q),hC.trans ((((((A.trans E).trans V).trans C).trans q).trans P).trans Q)⟩ K));rw[<- hI,Ur hv,LA,if_neg h2]
  .refine qI ((decide ((k0:Int)<((x.hv j).n:Int)))) false (G' (by omega)) ?_;obtain rfl:k0=l.length:=by omega
   rw[oH]at hI
   refine qR [] 8 [8,0,2,4,6,10,12] λe0 a3 b1 R=>BT 50 (λF H e L=>e=[(0,pt nb 11)]/\L=[⟨nb,.cells (Az i ob ({ p with bt:={ p.bt with rk:=upN p.bt.rk j true,av:=upN p.bt.av j a } }) ({ x with hv:=upN x.hv j ya })) 145,.n 0 i,false⟩,⟨ob,.cells #[S3.v lt,S3.v G] 115,.n 50 0,false⟩,⟨(D 0),.cells #[iv a.p.r,iv a.p.n,S3.v ya] 126,.l,false⟩]/\True/\Cg w.heap.size ([.n 0 i]:List Tg) a3 b1 F H) (by kernel_rfl) ?_ ?_
   .intro J hJ;rcases hZ hj with rfl|rfl|rfl|rfl|rfl <;>
    (refine qR [] 3 [14,18,20] λe1 c9 f0 U=>?_;exact CR 4 8 (by kernel_rfl) (by(refine qR [.n 0 i] 5 [2,17,0,1,22,25,0,1] λe2 d0 f1 a1=>?_;exact qB [true,true,true] λz K0 K=>hJ _ _ _ z _ ⟨rfl,rfl,trivial,((U.nil ([.n 0 i]:List Tg)).trans a1)⟩ K)) (by(refine qR [.n 0 i] 5 [0,1,9,2,22,25,0,1] λe3 d1 f2 a2=>?_;exact qB [true,true,true] λz K0 K=>hJ _ _ _ z _ ⟨rfl,rfl,trivial,((U.nil ([.n 0 i]:List Tg)).trans a2)⟩ K)))
   rintro a4 b2 _ f4 _ ⟨rfl,rfl,_,S⟩;refine qE (.tuple #[]) λK=>?_;obtain⟨q1,q2,q3⟩:=K.rI 0 nb (.cells (Az i ob { p with bt:={ p.bt with rk:=upN p.bt.rk j true,av:=upN p.bt.av j a } } { x with hv:=upN x.hv j ya }) 145) 0 i (by kernel_rfl);obtain⟨q4,q5,q6⟩:=K.rI 1 ob (.cells #[S3.v lt,S3.v G] 115) 50 0 (by kernel_rfl);have hE:p.bt.rC j vs={ p.bt with rk:=upN p.bt.rk j true,av:=upN p.bt.av j a }:=by unfold Rnd.rC;rw[<- hl,<- hI];rfl
   rw[hE];have d:Cg w.heap.size [.n 0 i] g w a4 b2:=((((hC.nil [.n 0 i]).n A).n R).trans S);have I:Tg.z∉[Tg.n 0 i]:=by simp
   have Z:=(((hya.ch A).ch R).ch S);refine⟨_,rfl,⟨{ x with hv:=upN x.hv j ya },lt,G,⟨q1,q2,q3,m.tape.ch d I,m.eA.ch d I,?_,BL m.br d I (by simp),m.cn.ch d,m.ae.ch d,m.af.ch d,m.bu.ch d,m.rP⟩,⟨q4,q5,q6,D9 hO.bN d I (by simp),hO.cF.ch d⟩,K.new⟩,d.mono (by simp[TN])⟩;intro k hk;show FSv _ _ (upN x.hv j ya k) (upN p.bt.av j a k).vs;unfold upN;split
   .exact Z
   .exact(m.av k hk).ch d I
theorem Yn(u v:Vt)(w:World):(Op.equal 184 (.agg (vtA u)) (.agg (vtA v))).run prog w=.ok (decide (u=v)) w:=by
 have a:=Yl u.an u.b.r u.b.n u.w.k u.w.c u.w.s u.w.n u.w.v v.an v.b.r v.b.n v.w.k v.w.c v.w.s v.w.n v.w.v w;have d:decide (u.an=v.an/\u.b.r=v.b.r/\u.b.n=v.b.n/\u.w.k=v.w.k/\u.w.c=v.w.c/\u.w.s=v.w.s/\u.w.n=v.w.n/\u.w.v=v.w.v)=decide (u=v):=by
  apply nK.2;constructor
  .rintro⟨a1,a2,a3,a4,a5,a6,a7,a8⟩;exact(Vt.eq_iff u v).1 ⟨a1,(Bal.eq_iff _ _).1 ⟨a2,a3⟩,(Cmd.eq_iff _ _).1 ⟨a4,a5,a6,a7,a8⟩⟩
  .rintro rfl;exact⟨rfl,rfl,rfl,rfl,rfl,rfl,rfl,rfl⟩
 rw[d]at a
 rw[run_eql_struct]at a
 show(Op.equalIn 10000 _ _ _).run _ _=_;simp only[vtA,vtC];cases hr:(Op.equalIn 10000 184 (.agg #[.int .i64 u.an,.int .i64 u.b.r,.int .i64 u.b.n,.int .i64 u.w.k,.int .i64 u.w.c,.int .i64 u.w.s,.int .i64 u.w.n,.int .i64 u.w.v]) (.agg #[.int .i64 v.an,.int .i64 v.b.r,.int .i64 v.b.n,.int .i64 v.w.k,.int .i64 v.w.c,.int .i64 v.w.s,.int .i64 v.w.n,.int .i64 v.w.v])).run prog w with
 | ok b w'=>rw[hr]at a;simp[Result.andThen]at a;rw[a.1,a.2]
 | _=>rw[hr]at a;simp[Result.andThen]at a
abbrev Cnt:=Vt × Nat × Nat
def mkE(x:Cnt):MapEntry:={ key:=.agg (vtA x.1),val:=.int .i64 (x.2.1:Int),born:=x.2.2 }
def Lw(v:Vt):List Cnt->Nat->Option (Nat × Value)
 | [],_=>none
 | x::c,i=>if v=x.1 then some (i,.int .i64 (x.2.1:Int))else Lw v c (i+1)
theorem Nl(v:Vt)(w:World):∀ (c:List Cnt) (i:Nat),(Instr.findAsking 184 (.agg (vtA v)) (c.map mkE) i).run prog w=.ok (Lw v c i) w
 | [],i=>by simp[Instr.findAsking,Lw]
 | x::c,i=>by
  have h:=Yn v x.1 w;rw[mT,Instr.findAsking,Sem.run_bind];show((Op.equal 184 (.agg (vtA v)) (.agg (vtA x.1))).run _ w).andThen _=_;rw[h,Result.andThen_ok,Lw];by_cases e:v=x.1
  .rw[N' e,if_pos e];simp[mkE]
  .rw[G' e,if_neg e];simpa using Nl v w c (i+1)
theorem KL(v:Vt)(w:World)(c:List Cnt):(Instr.findKey 184 (.agg (vtA v)) (c.map mkE)).run prog w=.ok (Lw v c 0) w:=by
 rw[Instr.findKey,Sem.run_bind,run_underlying underlying184 w,Result.andThen_ok];cases c with
 | nil=>simp[Instr.findNow,Lw]
 | cons x c =>
  show Sem.run _ (match(none:Option (Option (Nat × Value)))with|some r=>pure r|none=>Instr.findAsking 184 (.agg (vtA v)) ((x::c).map mkE)) w=_;exact Nl v w (x::c) 0
theorem Ib(a:Bool)(v:Vt)(w:World):(Instr.checkKey a 10000 184 (.agg (vtA v))).run prog w=.ok () w:=by
 obtain⟨s,⟨r,n⟩,⟨k,c,q,m,x⟩⟩:=v;kernel_rfl
def Dq(c:List Cnt)(v:Vt):Nat:=match c.find? (λx=>decide (v=x.1))with|some x=>x.2.1|none=>0
theorem Lx(v:Vt):∀ (c:List Cnt) (i:Nat),(Lw v c i=none/\Dq c v=0/\∀ x∈c,v≠x.1)\/∃ a x b,c=a++x::b/\x.1=v/\(∀ y∈a,v≠y.1)/\Lw v c i=some (i+a.length,.int .i64 (x.2.1:Int))/\Dq c v=x.2.1
 | [],i=>.inl ⟨rfl,rfl,λx hx=>by cases hx⟩
 | x::c,i=>by
  by_cases e:v=x.1
  .refine .inr ⟨[],x,c,rfl,e.symm,λy hy=>(O' hy).elim,?_,?_⟩
   .rw[Lw,if_pos e];simp
   .simp[Dq,e]
  .rcases Lx v c (i+1)with⟨h1,h2,h3⟩|⟨a,y,b,rfl,hy,h3,h4,h5⟩
   .refine .inl ⟨by rw[Lw,if_neg e,h1],?_,λy hy=>?_⟩
    .rw[<- h2];simp[Dq,e]
    .rcases mK.1 hy with rfl|hy
     .exact e
     .exact h3 y hy
   .refine .inr ⟨x::a,y,b,rfl,hy,λz hz=>?_,?_,?_⟩
    .rcases mK.1 hz with rfl|hz
     .exact e
     .exact h3 z hz
    .rw[Lw,if_neg e,h4];simp;omega
    .rw[<- h5];simp[Dq,e]
structure CMap(w:World)(b:Nat)(c:List Cnt):Prop where
 ex:∃ clock,w.heap[b]?=some (.map (c.map mkE).toArray clock)/\∀ x∈c,x.2.2<clock
 td:c.Pairwise λx y=>x.2.2≠y.2.2
variable{a c d:List Cnt}
theorem CMap.lt(h:CMap w b c):b<w.heap.size:=by
 obtain⟨⟨k,a,_⟩,_⟩:=h;exact(D'.1 a).1
theorem CMap.sO(h:CMap w b c)(f:w'.heap[b]?=w.heap[b]?):CMap w' b c:=by
 obtain⟨⟨k,a,d⟩,e⟩:=h;exact⟨⟨k,f.trans a,d⟩,e⟩
theorem CMap.ab(h:CMap w b c)(a:Bw w w'):CMap w' b c:=h.sO (a.block b h.lt)
theorem CMap.made(w:World):CMap (w.alloc (.map #[] 0)) w.heap.size []:=⟨⟨0,heap_alloc_new _ _,λx a=>by cases a⟩,qw⟩
theorem lX(w:World):(zeroValue 3).run prog w=.ok (.int .i64 0) w:=by kernel_rfl
theorem CMap.look(h:CMap w b c)(v:Vt):(Instr.lookup 321 (.map (some b)) (.agg (vtA v)) false).run prog w=.ok (.int .i64 (Dq c v:Int)) w:=by
 obtain⟨⟨k,f,_⟩,_⟩:=h;have e:(getObj b).run prog w=.ok (.map (c.map mkE).toArray k) w:=by simp[getObj,Sem.run,f]
 rcases Lx v c 0 with⟨h1,h2,_⟩|⟨a,x,d,_,_,_,h1,h2⟩
 .simp[Instr.lookup,run_underlying underlying321,e,Ib,KL,h1,h2]
 .simp[Instr.lookup,run_underlying underlying321,e,Ib,KL,h1,h2]
theorem eH(v:Vt)(n:Nat):Instr.sameBits (n+1) (.agg (vtA v)) (.agg (vtA v))=true:=by
 simp[Instr.sameBits,vtA,vtC]
theorem aK(v:Vt)(w:World):(Instr.keyThatStays (.agg (vtA v)) (.agg (vtA v))).run prog w=.ok (.agg (vtA v)) w:=by
 rw[Instr.keyThatStays,if_pos (eH v 9999)];rfl
theorem V0{u:Vt}{m:Nat}(b:∀ y∈a,v≠y.1):Dq (a++(v,m,born)::d) u=if u=v then m else Dq (a++(v,n,born)::d) u:=by
 unfold Dq;rw[oA,oA,pi,pi];by_cases e:u=v
 .subst e;have c:a.find? (λx=>decide (u=x.1))=none:=by
   rw[oG];intro y f;simp[b y f]
  rw[c];simp
 .rw[if_neg e];simp[e]
theorem Js(a:w.heap[b]?=some (.map es k))(o:Obj):Below b w (ChangeMaps.setBlock w b o) :=
 ⟨rfl,rfl,rfl,by simp[ChangeMaps.setBlock],λi c=>ChangeMaps.heap_setBlock_other a o (by omega)⟩
theorem Jt(a:w.heap[b]?=some (.map es k))(o:Obj)(i:Nat)(h:i≠b):(ChangeMaps.setBlock w b o).heap[i]?=w.heap[i]?:=ChangeMaps.heap_setBlock_other a o h
theorem CMap.entry(h:CMap w b c)(v:Vt):∃ (a d:List Cnt) (born:Nat) (w':World),(Instr.mapEntry 321 (.map (some b)) (.agg (vtA v))).run prog w=.ok (.tuple #[.int .i64 (Dq c v:Int),.int .i64 (born:Int)]) w'/\CMap w' b (a++(v,Dq c v,born)::d)/\(∀ y∈a,v≠y.1)/\(∀ u,Dq (a++(v,Dq c v,born)::d) u=Dq c u)/\Below b w w'/\∀ i,i≠b->w'.heap[i]?=w.heap[i]?:=by
 obtain⟨⟨k,f,j⟩,m⟩:=h;have n:(getObj b).run prog w=.ok (.map (c.map mkE).toArray k) w:=by simp[getObj,Sem.run,f]
 rcases Lx v c 0 with⟨h1,h2,h3⟩|⟨a,x,d,rfl,rfl,h3,h1,h2⟩
 .refine⟨c,[],k,ChangeMaps.setBlock w b (.map ((c++[(v,0,k)]).map mkE).toArray (k+1)),?_,⟨⟨k+1,?_,?_⟩,?_⟩,h3,?_,Js f _,Jt f _⟩
  .have hs:=MapKept.run_setObj_map (P:=prog) (w:=w) (.map ((c++[(v,0,k)]).map mkE).toArray (k+1)) f;have g:((c.map mkE).toArray.push { key:=.agg (vtA v),val:=.int .i64 0,born:=k })=((c++[(v,0,k)]).map mkE).toArray:=by simp[mkE]
   rw[Instr.mapEntry];simp only[Sem.run_bind,run_underlying underlying321,Result.andThen_ok,n,Ib,KL,h1,h2,lX,g,hs];rfl
  .rw[h2];exact ChangeMaps.heap_setBlock_same f _
  .intro y hy;rcases Z'.1 hy with hy|hy
   .have:=j y hy;omega
   .obtain rfl:y=(v,Dq c v,k):=by simpa using hy
    show k<k+1;omega
  .rw[oN];refine⟨m,pJ _ _,λy hy z p=>?_⟩;obtain rfl:z=(v,Dq c v,k):=by simpa using p
   have:=j y hy;show y.2.2≠k;omega
  .intro u;rw[h2];unfold Dq;rw[oA];cases hf:c.find? (λx=>decide (u=x.1))with
   | some y=>rfl
   | none =>
    by_cases e:u=v
    .subst e;simp
    .simp[e]
 .refine⟨a,d,x.2.2,ChangeMaps.setBlock w b (.map ((a++x::d).map mkE).toArray k),?_,⟨⟨k,?_,?_⟩,?_⟩,h3,?_,Js f _,Jt f _⟩
  .have hs:=MapKept.run_setObj_map (P:=prog) (w:=w) (.map ((a++x::d).map mkE).toArray k) f;have o:((a++x::d).map mkE).toArray[a.length]?=some (mkE x):=by simp
   have g:(((a++x::d).map mkE).toArray.modify a.length λe=>{ e with key:=.agg (vtA x.1) })=((a++x::d).map mkE).toArray:=by
    apply pa;intro i;rw[pZ];split
    .rename_i hi
     subst hi;rw[o];rfl
    .rfl
   have l:=aK x.1 w;rw[Instr.mapEntry];simp only[Sem.run_bind,run_underlying underlying321,Result.andThen_ok,n,Ib,KL,h1,nn,o,nA,qb];rw[show(mkE x).key=.agg (vtA x.1)from rfl,l,Result.andThen_ok,g,hs];simp[goInt,ChangeMaps.setBlock,h2,mkE]
  .rw[h2];exact ChangeMaps.heap_setBlock_same f _
  .rw[h2];exact j
  .rw[h2];exact m
  .intro u;rw[h2]
theorem CMap.store(h:CMap w b (a++(v,n,born)::d))(m:Nat):∃ w',(Instr.entryStore 321 (.map (some b)) (.int .i64 (born:Int)) (.int .i64 (m:Int))).run prog w=.ok () w'/\CMap w' b (a++(v,m,born)::d)/\Below b w w'/\∀ i,i≠b->w'.heap[i]?=w.heap[i]?:=by
 obtain⟨⟨k,f,l⟩,c⟩:=h;have r:(getObj b).run prog w=.ok (.map ((a++(v,n,born)::d).map mkE).toArray k) w:=by simp[getObj,Sem.run,f]
 refine⟨ChangeMaps.setBlock w b (.map ((a++(v,m,born)::d).map mkE).toArray k),?_,⟨⟨k,ChangeMaps.heap_setBlock_same f _,?_⟩,?_⟩,Js f _,Jt f _⟩
 .have hs:=MapKept.run_setObj_map (P:=prog) (w:=w) (.map ((a++(v,m,born)::d).map mkE).toArray k) f;have p:((a++(v,n,born)::d).map mkE).toArray.findIdx? (λe=>(e.born:Int)==(born:Int))=some a.length:=by
   rw[List.findIdx?_toArray,mS,List.findIdx?_append];have o:(a.map mkE).findIdx? (λe=>(e.born:Int)==(born:Int))=none:=by
    rw[List.findIdx?_eq_none_iff];intro e j;obtain⟨y,hy,rfl⟩:=nG.1 j;have:=(oN.1 c).2.2 y hy (v,n,born) (by simp);simp[mkE];intro g;exact this (show y.2.2=born by omega)
   rw[o,mT,List.findIdx?_cons];simp[mkE]
  have j:(((a++(v,n,born)::d).map mkE).toArray.modify a.length λe=>{ e with val:=.int .i64 (m:Int) })=((a++(v,m,born)::d).map mkE).toArray:=by
   apply pa;intro i;rw[pZ];split
   .rename_i hi
    subst hi;simp[mkE]
   .rename_i hi
    simp only[nD,mS,mT];rcases nO i a.length with g|g
    .rw[mP (by simpa using g),mP (by simpa using g)]
    .rw[mQ (by simpa using g),mQ (by simpa using g)];obtain⟨q,s⟩:∃ q,i-(a.map mkE).length=q+1:=⟨i-a.length-1,by simp;omega⟩;rw[s];rfl
  rw[Instr.entryStore];simp only[Sem.run_bind,r,Result.andThen_ok,asInt,asIntOf,Sem.run_pure,p,j,hs];rfl
 .intro y hy;rcases Z'.1 hy with hy|hy
  .exact l y (nZ _ hy)
  .rcases mK.1 hy with rfl|hy
   .exact l (v,n,born) (by simp)
   .exact l y (nR _ (V' _ hy))
 .rw[oN,List.pairwise_cons]at c ⊢
  refine⟨c.1,⟨λy hy=>c.2.1.1 y hy,c.2.1.2⟩,λy hy z hz=>?_⟩;rcases mK.1 hz with rfl|hz
  .exact c.2.2 y hy (v,n,born) (by simp)
  .exact c.2.2 y hy z (V' _ hz)
end
section
variable{P:Program}{md:Region.Mode}{ops:Array Oper}{Q:Exit->Act->World->Prop}{S:World->Prop}
section
variable{K:Act->World->Prop}{a:Act}{d i:Nat}{o:Oper}{w w':World}
theorem Zp(k:ops[i]?=some o)(l:Region.wanted o (yielded ops a.tmps)=true)(g:o.dst=some d)(t:TypeId)(m x:Operand)(c:o.op=.lookup t m x false)(e f v:Value)(j:a.eval m=e)(n:a.eval x=f)(b:(Instr.lookup t e f false).run P w=.ok v w)(h:K (a.put (some d) v) w):wpOp P ops Q i K a w :=
 Zq k l g (by unfold execOp;simp only[c,j,n,Sem.run_bind,b,Result.andThen_ok,Sem.run_pure]) h
theorem UI(k:ops[i]?=some o)(l:Region.wanted o (yielded ops a.tmps)=true)(g:o.dst=some d)(t:TypeId)(m x:Operand)(c:o.op=.mapEntry t m x)(e f v:Value)(j:a.eval m=e)(n:a.eval x=f)(b:(Instr.mapEntry t e f).run P w=.ok v w')(h:K (a.put (some d) v) w'):wpOp P ops Q i K a w :=
 Zq k l g (by unfold execOp;simp only[c,j,n,Sem.run_bind,b,Result.andThen_ok,Sem.run_pure]) h
theorem Q8(l:ops[i]?=some o)(n:Region.wanted o (yielded ops a.tmps)=true)(j:o.dst=none)(t:TypeId)(m x y:Operand)(c:o.op=.entryStore t m x y)(d e f:Value)(k:a.eval m=d)(p:a.eval x=e)(q:a.eval y=f)(b:(Instr.entryStore t d e f).run P w=.ok () w')(h:K a w'):wpOp P ops Q i K a w :=
 wpOp_step l λr g=>by
  rw[if_pos n];unfold Oper.wp execOp;simp only[c,k,p,q,Sem.run_bind,b,Result.andThen_ok,Sem.run_pure];exact g _ _ (by rw[j];exact h)
end
end
section
variable{W w:World}{a:Act}{ac:List Acc}{b i j k m nb ob:Nat}{g:Gh}{l:List Vt}{ls:List Let}{ops:Array Oper}{p:Nod}{s:Int}{ts:List Tol}{x:NX}
theorem Ow{S:World->Prop}{op:Oper}(d:Region.wanted op (yielded ops a.tmps)=true)(x:Operand)(c:op.op=.binOp .add 3 x (.const (.int .i64 1)) 3)(n m:Nat)(e:a.eval x=.int .i64 (n:Int))(g:m=n+1)(f:n<=1000) :
  YieldsIf prog ops S op (.int .i64 (m:Int)) a :=
 .inl ⟨d,λw _=>by
  have b:a.eval (.const (.int .i64 1))=.int .i64 1:=rfl;unfold execOp;simp only[c,e,b];simp[go_sem];rw[IntKind.wrap_i64];omega⟩
theorem Zu{P:Program}{d:Nat}{K:Act->World->Prop}{Q:Exit->Act->World->Prop}(R:Nat->World->Prop){A:Nat->Act}(c:∀ K':Act->World->Prop,Hid (∀ x W2,R x W2->K' (A x) W2)->(Code.region d ops true).wp P (Exit.then K' Q) a w)(b:∀ x W2,R x W2->K (A x) W2):(Code.region d ops true).wp P (Exit.then K Q) a w:=c K b
def Iu(l:List Vt)(m:Nat):Cmd:=((IZ l m).map (·.w)).getD ⟨0,0,0,0,0⟩
def Iv(l:List Vt)(m:Nat):Int:=if(IZ l m).isSome then 0 else 9
theorem Jl{v:Vt}(h:IZ l m=some v):Iu l m=v.w/\Iv l m=0:=by unfold Iu Iv;rw[h];exact⟨rfl,rfl⟩
theorem Jk(h:IZ l m=none):Iu l m=⟨0,0,0,0,0⟩/\Iv l m=9:=by unfold Iu Iv;rw[h];exact⟨rfl,rfl⟩
theorem cz:(prog.info? 64).map (·.size)=some 5:=by kernel_rfl
theorem jI:(prog.info? 126).map (·.size)=some 3:=by kernel_rfl
theorem Q3(l:List Vt)(u v:Vt):CU (l++[u]) v=if v=u then CU l v+1 else CU l v:=by
 unfold CU;rw[List.countP_append];by_cases e:v=u
 .subst e;simp
 .rw[if_neg e];simp;exact λg=>e g.symm
theorem Zf(x:Value)(ac:List Acc)(s:Int)(w:World)(h:Sac w x ac)(P:ac.length<=5)(a4:∀ a∈ac,Av a) :
  Calls prog 204 #[x,.int .i64 s] w λe w'=>e=.returned (.tuple #[.agg (cmC (Iu (FI ac s) ac.length)),.int .i64 (Iv (FI ac s) ac.length)])/\Bw w w':=by
 have a0:Hid (∀ a∈ac,Av a):=a4;clear a4;obtain⟨ax,cp,rfl⟩:=h.shape;obtain⟨N,hN⟩:∃ N,ac.length=N:=⟨_,rfl⟩;have HN:Hid (ac.length=N):=hN;rw[hN]at h P ⊢
 clear hN;have f8:(zV5:Array Value).all (·.oneCell')=true:=by simp[Value.oneCell']
 have rr:=heap_alloc_new w (.cells zV5 64);have bb:Bw w (w.alloc (.cells zV5 64)):=(Below.refl _ _).alloc (A' _) _;have z0:(w.alloc (.cells zV5 64)).heap.size=w.heap.size+1:=by simp
 generalize e6:w.alloc (.cells zV5 64)=w1 at rr bb z0;have h0:=h.ab bb;clear h;have b0:Below (w.heap.size+1) w1 (w1.alloc (.map #[] 0)):=(Below.refl _ _).alloc (by omega) _;have v0:CMap (w1.alloc (.map #[] 0)) (w.heap.size+1) []:=by rw[<- z0];exact CMap.made _
 generalize e8:w1.alloc (.map #[] 0)=WA at b0 v0;have f4:=@run_makeMap prog;go_enter func204,ntmps204
 go_wp2_with fail
 clear e8 e6 f4;have b7:w.heap.size<w.heap.size+1:=by omega
 generalize hB:w.heap.size+1=B at b0 v0 z0 b7 ⊢;have HB:Hid (B=w1.heap.size):=z0.symm;clear hB z0
 go_loopw [14] (λiv wr=>∃ (j:Nat) (c:List Cnt),j<=N/\iv=.int .i64 (j:Int)/\CMap wr B c/\(∀ v,Dq c v=CU (Am ((ac.take j).map (·.vs)).flatten s) v)/\(∀ v,2*CU (Am ((ac.take j).map (·.vs)).flatten s) v<=N)/\Below B w1 wr) (λiv _=>((N:Int)-intOf iv).toNat)
 case atStart=>exact⟨0,[],by omega,rfl,v0,λv=>rfl,λv=>by simp[CU,Am],b0⟩
 case round =>
  clear v0 b0;obtain⟨j,c,hj,rfl,b3,a1,c8,E⟩:=hrel;have HC:Hid (∀ v,Dq c v=CU (Am ((ac.take j).map (·.vs)).flatten s) v):=a1;have HL:Hid (∀ v,2*CU (Am ((ac.take j).map (·.vs)).flatten s) v<=N):=c8;clear a1 c8;by_cases f3:j<N
  .have hji:(j:Int)<(N:Int):=by omega
   obtain⟨A,hA⟩:∃ A,ac[j]?=some A:=⟨_,H' (by have:=HN.out;omega)⟩;obtain⟨b,e0,y,rfl,g0,d2,R⟩:=h0.spot j A hA;have d0:Av A:=a0.out A (nS.2 ⟨j,hA⟩);obtain⟨⟨pr,pn⟩,l⟩:=A;simp only at d2 R;have c7:=WF b e0 N cp j f3;obtain⟨ay,cy,hy⟩:=R.shape;obtain⟨M,hM⟩:∃ M,l.length=M:=⟨_,rfl⟩;have HM:Hid (l.length=M):=hM;rw[hM]at hy
   subst hy;have H:Hid (BH l):=d0.2.2;have HF:Hid (((ac.take (j+1)).map (·.vs)).flatten=((ac.take j).map (·.vs)).flatten++l):=TU ac j _ hA;clear hA hM d0;have d3:=Tf E (show b<B by rw[HB.out];exact g0) d2;have d4:=R.ab (E.mono (by rw[HB.out];exact A' _));have F:Bw wr (wr.alloc (.cells #[.int .i64 0,.int .i64 0,.slice none 0 0] 126)):=(Below.refl _ _).alloc (A' _) _;have Z:=heap_alloc_new wr (.cells #[.int .i64 0,.int .i64 0,.slice none 0 0] 126);have d1:(#[.int .i64 pr,.int .i64 pn,.slice ay M cy]:Array Value).all (·.oneCell')=true:=by simp[Value.oneCell']
   generalize a7:wr.alloc (.cells #[.int .i64 0,.int .i64 0,.slice none 0 0] 126)=WN at F Z
   go_upto_region 5 with((with_reducible (refine CA ?_));first|(refine wpList_load_mid rfl 126 _ rfl b (e0+3*j) rfl [.int .i64 pr,.int .i64 pn,.slice ay M cy] _ d3 underlying126 rfl jI ?_)|(refine wpList_store_row rfl 126 (.tmp 8) (.tmp 17) rfl wr.heap.size (#[.int .i64 pr,.int .i64 pn,.slice ay M cy]) rfl rfl 126 _ Z jI rfl d1 ?_))
   clear a7;have q:=setRow_heap WN wr.heap.size _ (#[.int .i64 pr,.int .i64 pn,.slice ay M cy]) 126 _ Z;replace F:=Ei F (A' _) (#[.int .i64 pr,.int .i64 pn,.slice ay M cy]);generalize WN.setRow wr.heap.size (#[.int .i64 pr,.int .i64 pn,.slice ay M cy])=W at q F ⊢;have Y:wr.heap.size<W.heap.size:=(D'.1 q).1;have O:=b3.ab F;have d5:=E.size;have f9:B<wr.heap.size:=b3.lt;have eW:=E.trans (F.mono (by omega));have sW:=d4.ab F;generalize wr.heap.size=G at q Y f9 ⊢;have c2:W.cell? ⟨G,2,none⟩=some (.slice ay M cy):=cell_of_row _ _ 2 _ _ _ q;clear Z d3 c7 F b3 d4 E d5;go_wp2_with fail
   refine(JZ _ l s W H.out sW).mono ?_;rintro e W2 ⟨p,rfl,hp,b2⟩;have HP:Hid (Plc l s p):=hp;have c2:=(b2.cell (p:=⟨G,2,none⟩) Y).trans c2;have V:=O.ab b2;have s2:=sW.ab b2;have e2:=eW.trans (b2.mono (by omega));have g2:G<W2.heap.size:=X' Y b2.size;clear hp b2 O sW eW q Y;go_wp2_with fail
   refine(JP _ l p s W2 s2).mono ?_;rintro e T ⟨rfl,rfl⟩;generalize hh:L8 l p s=bh;cases bh
   .have HT:Hid (Am ((ac.take (j+1)).map (·.vs)).flatten s=Am ((ac.take j).map (·.vs)).flatten s):=by
     unfold Hid;rw[HF.out,Dm,Plc.rJ H.out HP.out (L9 hh),nI]
    clear hh;go_wp2
    go_roundw
    case rel=>exact⟨j+1,c,by omega,by go_num,V,by rw[HT.out];exact HC.out,by rw[HT.out];exact HL.out,e2⟩
    case measure=>simp[intOf];omega
   .obtain⟨u,hu,hus⟩:=NC hh;have HT:Hid (Am ((ac.take (j+1)).map (·.vs)).flatten s=Am ((ac.take j).map (·.vs)).flatten s++[u]):=by
     unfold Hid;rw[HF.out,Dm,Plc.rT H.out hu hus]
    have f6:p<M:=by have:=(Q'.1 hu).1;have:=HM.out;omega
    obtain⟨b4,o4,f0,d8,c0⟩:=s2.spot p u hu;subst f0;have f2:=Jp b4 o4 M cy p f6;have hi:=aG u;have c6:Dq c u=CU (Am ((ac.take j).map (·.vs)).flatten s) u:=HC.out u;have f5:=HL.out u;obtain⟨n,X⟩:∃ n,CU (Am ((ac.take j).map (·.vs)).flatten s) u=n:=⟨_,rfl⟩;rw[X]at c6 f5
    have c3:Hid (CU (Am ((ac.take (j+1)).map (·.vs)).flatten s) u=n+1):=by unfold Hid;rw[HT.out,Q3,if_pos rfl,X]
    have a5:Hid (∀ v,CU (Am ((ac.take (j+1)).map (·.vs)).flatten s) v=if v=u then n+1 else CU (Am ((ac.take j).map (·.vs)).flatten s) v):=λv=>by
     rw[HT.out,Q3];split
     .rename_i g;rw[g,X]
     .rfl
    clear hu hus hh X HT;obtain⟨D,⟨C,z⟩,⟨k,f,o,m,r⟩⟩:=u;simp only[vtC]at c0 hi;have F:Bw T (T.alloc (.cells zV8 184)):=(Below.refl _ _).alloc (A' _) _;have Z:=heap_alloc_new T (.cells zV8 184);have b9:(#[.int .i64 D,.int .i64 C,.int .i64 z,.int .i64 k,.int .i64 f,.int .i64 o,.int .i64 m,.int .i64 r]:Array Value).all (·.oneCell')=true:=by simp[Value.oneCell']
    generalize a7:T.alloc (.cells zV8 184)=WN at F Z
    go_upto_region 8 with((with_reducible (refine CA ?_));first|(refine wpList_load_mid rfl 184 _ rfl b4 (o4+8*p) rfl [.int .i64 D,.int .i64 C,.int .i64 z,.int .i64 k,.int .i64 f,.int .i64 o,.int .i64 m,.int .i64 r] _ c0 underlying184 rfl hi ?_)|(refine wpList_store_row rfl 184 (.tmp 10) (.tmp 32) rfl T.heap.size (#[.int .i64 D,.int .i64 C,.int .i64 z,.int .i64 k,.int .i64 f,.int .i64 o,.int .i64 m,.int .i64 r]) rfl rfl 184 _ Z hi rfl b9 ?_))
    clear a7;have q:=setRow_heap WN T.heap.size _ (#[.int .i64 D,.int .i64 C,.int .i64 z,.int .i64 k,.int .i64 f,.int .i64 o,.int .i64 m,.int .i64 r]) 184 _ Z;replace F:=Ei F (A' _) (#[.int .i64 D,.int .i64 C,.int .i64 z,.int .i64 k,.int .i64 f,.int .i64 o,.int .i64 m,.int .i64 r]);generalize WN.setRow T.heap.size (#[.int .i64 D,.int .i64 C,.int .i64 z,.int .i64 k,.int .i64 f,.int .i64 o,.int .i64 m,.int .i64 r])=W at q F ⊢;have d7:T.heap.size<W.heap.size:=(D'.1 q).1;have O:=V.ab F;have d6:B<T.heap.size:=V.lt;have eW:=e2.trans (F.mono (by omega));generalize T.heap.size=G2 at q d7 d6 ⊢;clear Z c0 f2 F V e2 c2 s2 d8;apply Zu (λt W2=>∃ U,CMap W2 B U/\(∀ u,Dq U u=if u=⟨D,⟨C,z⟩,⟨k,f,o,m,r⟩⟩then n+1 else Dq c u)/\W2.heap[G2]?=some (.cells (vtA ⟨D,⟨C,z⟩,⟨k,f,o,m,r⟩⟩) 184 (0,0))/\Below B W W2)
    .intro K2 HK2;refine wp_region_held (S:=λw':World=>w'.heap[G2]?=some (.cells (vtA ⟨D,⟨C,z⟩,⟨k,f,o,m,r⟩⟩) 184 (0,0))) (by kernel_rfl) ?_;have L:(λw':World=>w'.heap[G2]?=some (.cells (vtA ⟨D,⟨C,z⟩,⟨k,f,o,m,r⟩⟩) 184 (0,0))) W.drew:=q;have c5:CMap W.drew B c:=O.sO rfl;refine AQ (i:=0) 33 (v:=.map (some B)) rfl rfl (by kernel_rfl) (by kernel_rfl) (by kernel_rfl) (λ_ _ _ h=>h) (qP ⟨by rfl,λ_ _=>by kernel_rfl⟩) L ?_;simp only[Act.put,mL,mM,mO];refine AQ (i:=1) 34 (v:=.agg (vtA ⟨D,⟨C,z⟩,⟨k,f,o,m,r⟩⟩)) rfl rfl (by kernel_rfl) (by kernel_rfl) (by kernel_rfl) (λ_ _ _ h=>h) (fI (by rfl) (.tmp 10) rfl G2 rfl ⟨D,⟨C,z⟩,⟨k,f,o,m,r⟩⟩ (λw' f7=>f7)) L ?_;simp only[Act.put,mL,mM,mO];obtain⟨ca,cd,t,w5,K,J,e9,c1,b5,k5⟩:=c5.entry ⟨D,⟨C,z⟩,⟨k,f,o,m,r⟩⟩;have P:Dq c ⟨D,⟨C,z⟩,⟨k,f,o,m,r⟩⟩=n:=c6;rw[P]at K J c1
     have I:w5.heap[G2]?=some (.cells (vtA ⟨D,⟨C,z⟩,⟨k,f,o,m,r⟩⟩) 184 (0,0)):=(k5 G2 (by omega)).trans L;obtain⟨w6,Q,f1,b6,k6⟩:=J.store (n+1);have a6:w6.heap[G2]?=some (.cells (vtA ⟨D,⟨C,z⟩,⟨k,f,o,m,r⟩⟩) 184 (0,0)):=(k6 G2 (by omega)).trans I;have a2:=c5.look ⟨D,⟨C,z⟩,⟨k,f,o,m,r⟩⟩;rw[P]at a2
     have a3:=J.look ⟨D,⟨C,z⟩,⟨k,f,o,m,r⟩⟩;rw[c1,P]at a3
     have c4:Hid (∃ U,CMap w6 B U/\(∀ u,Dq U u=if u=⟨D,⟨C,z⟩,⟨k,f,o,m,r⟩⟩then n+1 else Dq c u)/\w6.heap[G2]?=some (.cells (vtA ⟨D,⟨C,z⟩,⟨k,f,o,m,r⟩⟩) 184 (0,0))/\Below B W w6):=⟨_,f1,λu=>by rw[V0 (n:=n) e9,c1],a6,((Below.refl B W).drew.trans b5).trans b6⟩;refine di (i:=2) (i':=4) (by kernel_rfl) (Zp (i:=2) (d:=35) rfl (by kernel_rfl) rfl 321 (.tmp 33) (.tmp 34) rfl (.map (some B)) (.agg (vtA ⟨D,⟨C,z⟩,⟨k,f,o,m,r⟩⟩)) (.int .i64 (n:Int)) (by kernel_rfl) (by kernel_rfl) a2 ⟨L,?_⟩) (UI (i:=4) (d:=37) rfl (by kernel_rfl) rfl 321 (.tmp 33) (.tmp 34) rfl (.map (some B)) (.agg (vtA ⟨D,⟨C,z⟩,⟨k,f,o,m,r⟩⟩)) (.tuple #[.int .i64 (n:Int),.int .i64 (t:Int)]) (by kernel_rfl) (by kernel_rfl) K ⟨I,?_⟩)
     .simp only[Act.put,mL,mM,mO];refine AQ (i:=3) 36 (v:=.int .i64 ((n+1:Nat):Int)) rfl rfl (by kernel_rfl) (by kernel_rfl) (by kernel_rfl) (λ_ _ _ h=>h) (Ow (by rfl) (.tmp 35) rfl n (n+1) rfl rfl (by omega)) L ?_;simp only[Act.put,mL,mM,mO];refine D7 (i:=4) (by kernel_rfl) (UI (i:=4) (d:=37) rfl (by kernel_rfl) rfl 321 (.tmp 33) (.tmp 34) rfl (.map (some B)) (.agg (vtA ⟨D,⟨C,z⟩,⟨k,f,o,m,r⟩⟩)) (.tuple #[.int .i64 (n:Int),.int .i64 (t:Int)]) (by kernel_rfl) (by kernel_rfl) K ⟨I,?_⟩);simp only[Act.put,mL,mM,mO];refine AQ (i:=5) 38 (v:=.int .i64 (t:Int)) rfl rfl (by kernel_rfl) (by kernel_rfl) (by kernel_rfl) (λ_ _ _ h=>h) (qP ⟨by rfl,λ_ _=>by kernel_rfl⟩) I ?_;simp only[Act.put,mL,mM,mO];refine D7 (i:=6) (by kernel_rfl) (Q8 (i:=6) rfl (by kernel_rfl) rfl 321 (.tmp 33) (.tmp 38) (.tmp 36) rfl (.map (some B)) (.int .i64 (t:Int)) (.int .i64 ((n+1:Nat):Int)) (by kernel_rfl) (by kernel_rfl) (by kernel_rfl) Q ⟨a6,?_⟩);exact wpAnyH_done (by kernel_rfl) (HK2.out t _ c4.out) _
     .simp only[Act.put,mL,mM,mO];refine AQ (i:=5) 38 (v:=.int .i64 (t:Int)) rfl rfl (by kernel_rfl) (by kernel_rfl) (by kernel_rfl) (λ_ _ _ h=>h) (qP ⟨by rfl,λ_ _=>by kernel_rfl⟩) I ?_;simp only[Act.put,mL,mM,mO];refine D7 (i:=2) (by kernel_rfl) (Zp (i:=2) (d:=35) rfl (by kernel_rfl) rfl 321 (.tmp 33) (.tmp 34) rfl (.map (some B)) (.agg (vtA ⟨D,⟨C,z⟩,⟨k,f,o,m,r⟩⟩)) (.int .i64 (n:Int)) (by kernel_rfl) (by kernel_rfl) a3 ⟨I,?_⟩);simp only[Act.put,mL,mM,mO];refine AQ (i:=3) 36 (v:=.int .i64 ((n+1:Nat):Int)) rfl rfl (by kernel_rfl) (by kernel_rfl) (by kernel_rfl) (λ_ _ _ h=>h) (Ow (by rfl) (.tmp 35) rfl n (n+1) rfl rfl (by omega)) I ?_;simp only[Act.put,mL,mM,mO];refine D7 (i:=6) (by kernel_rfl) (Q8 (i:=6) rfl (by kernel_rfl) rfl 321 (.tmp 33) (.tmp 38) (.tmp 36) rfl (.map (some B)) (.int .i64 (t:Int)) (.int .i64 ((n+1:Nat):Int)) (by kernel_rfl) (by kernel_rfl) (by kernel_rfl) Q ⟨a6,?_⟩);exact wpAnyH_done (by kernel_rfl) (HK2.out t _ c4.out) _
    intro t W5 e7;obtain⟨U,J,b1,q5,b5⟩:=e7;have e5:=eW.trans b5;have c9:=J.look ⟨D,⟨C,z⟩,⟨k,f,o,m,r⟩⟩;rw[b1,if_pos rfl]at c9
    have e3:Hid (∀ v,Dq U v=CU (Am ((ac.take (j+1)).map (·.vs)).flatten s) v):=λv=>by rw[b1,a5.out v,HC.out v]
    have e1:Hid (CMap W5 B U):=J;clear b1 J q eW b5 O HC;have a9:((n+1:Nat):Int)=(n:Int)+1:=by omega
    rw[a9]at c9
    by_cases g1:N<2*(n+1)
    .have HCH:Hid (Iu (FI ac s) N=⟨k,f,o,m,r⟩/\Iv (FI ac s) N=0):=by
      refine Jl (v:=⟨D,⟨C,z⟩,⟨k,f,o,m,r⟩⟩) (RI ?_ ?_)
      .have g:=gY a0.out s;rw[HN.out]at g
       exact g
      .have g:=dS (Am ((ac.take (j+1)).map (·.vs)).flatten s) (Am ((ac.drop (j+1)).map (·.vs)).flatten s) ⟨D,⟨C,z⟩,⟨k,f,o,m,r⟩⟩;rw[<- Dm,<- qk,<- mS,oq,c3.out]at g
       show N<2*CU (FI ac s) ⟨D,⟨C,z⟩,⟨k,f,o,m,r⟩⟩;unfold FI;omega
     have a8:(N:Int)<2*((n:Int)+1):=by omega
     have x3:W5.cell? ⟨G2,3,none⟩=some (.int .i64 k):=cell_of_row _ _ 3 _ _ _ q5;have x4:W5.cell? ⟨G2,4,none⟩=some (.int .i64 f):=cell_of_row _ _ 4 _ _ _ q5;have x5:W5.cell? ⟨G2,5,none⟩=some (.int .i64 o):=cell_of_row _ _ 5 _ _ _ q5;have x6:W5.cell? ⟨G2,6,none⟩=some (.int .i64 m):=cell_of_row _ _ 6 _ _ _ q5;have x7:W5.cell? ⟨G2,7,none⟩=some (.int .i64 r):=cell_of_row _ _ 7 _ _ _ q5;have rR:=(e5.block w.heap.size b7).trans rr;have b8:(#[.int .i64 k,.int .i64 f,.int .i64 o,.int .i64 m,.int .i64 r]:Array Value).all (·.oneCell')=true:=by simp[Value.oneCell']
     go_wp2_with ((with_reducible (refine CA ?_));first|(refine wpList_load_row rfl 184 (.tmp 10) rfl G2 rfl 184 _ (0,0) _ q5 underlying184 rfl hi ?_)|(refine wpList_store_row rfl 64 (.tmp 4) (.tmp 47) rfl w.heap.size #[.int .i64 k,.int .i64 f,.int .i64 o,.int .i64 m,.int .i64 r] rfl rfl 64 _ rR cz rfl b8 ?_))
     have q9:=setRow_heap W5 w.heap.size _ (#[.int .i64 k,.int .i64 f,.int .i64 o,.int .i64 m,.int .i64 r]) 64 _ rR;have d9:=Ei (bb.trans (e5.mono (by omega))) (A' _) (#[.int .i64 k,.int .i64 f,.int .i64 o,.int .i64 m,.int .i64 r]);refine bodyPost_ret (fY rfl _ _ w.heap.size 64 _ (0,0) _ rfl q9 underlying64 rfl cz) rfl ?_;rw[HCH.out.1,HCH.out.2];exact⟨rfl,d9⟩
    .have a8:¬ (N:Int)<2*((n:Int)+1):=by omega
     have e4:Hid (∀ v,2*CU (Am ((ac.take (j+1)).map (·.vs)).flatten s) v<=N):=λv=>by
      rw[a5.out v];split
      .omega
      .exact HL.out v
     clear a5 c3 HL;go_wp2_with ((with_reducible (refine CA ?_));(refine wpList_load_row rfl 184 (.tmp 10) rfl G2 rfl 184 _ (0,0) _ q5 underlying184 rfl hi ?_))
     go_roundw
     case rel=>exact⟨j+1,U,by omega,by go_num,e1.out,e3.out,e4.out,e5⟩
     case measure=>simp[intOf];omega
  .have HCH:Hid (Iu (FI ac s) N=⟨0,0,0,0,0⟩/\Iv (FI ac s) N=9):=by
    refine Jk (XJ λv=>?_);have g:=HL.out v;rw[mV (by have:=HN.out;omega)]at g
    exact g
   have rR:=(E.block w.heap.size b7).trans rr;go_wp2_with ((with_reducible (refine CA ?_));(refine wpList_store_row rfl 64 (.tmp 4) (.tmp 49) rfl w.heap.size zV5 rfl rfl 64 _ rR cz rfl f8 ?_))
   have q9:=setRow_heap wr w.heap.size _ (zV5) 64 _ rR;have d9:=Ei (bb.trans (E.mono (by omega))) (A' _) (zV5);refine bodyPost_ret (fY rfl _ _ w.heap.size 64 _ (0,0) _ rfl q9 underlying64 rfl cz) rfl ?_;rw[HCH.out.1,HCH.out.2];exact⟨rfl,d9⟩
theorem kW{x:S3}{c:Nat}(d:x.a=some ⟨b,c,none⟩)(j:Nat)(f:j<x.n):(Instr.indexAt 257 x.v (iv (j:Int))).run prog W=.ok (pt b (c+3*j)) W:=by
 unfold S3.v;rw[d];exact MX (P:=prog) (e:=126) (z:=3) underlying257 (by kernel_rfl) (by kernel_rfl) f _ rfl
theorem gh{a:Acc}{y:S3}(h:W.rangeAt b k [iv a.p.r,iv a.p.n,S3.v y]):(Instr.loadAt 126 (pt b k)).run prog W=.ok (.agg #[iv a.p.r,iv a.p.n,S3.v y]) W:=by
 have c:=run_loadVar_mid (P:=prog) W b k 126 _ _ h underlying126 rfl (by kernel_rfl);simp only[Instr.loadAt,Instr.sureAddr,Sem.run_bind,Sem.run_pure,Result.andThen_ok];exact c
theorem XL(h:(0<=s/\s<=39)/\(1<=(ac.length:Int)/\(ac.length:Int)<=5))(b:∀ a∈ac,Av a):Db ac s=Iu (FI ac s) ac.length/\DY ac s=Iv (FI ac s) ac.length:=by
 cases ho:IZ (FI ac s) ac.length with
 | none=>rw[(Jk ho).1,(Jk ho).2];exact XM h b ho
 | some v=>rw[(Jl ho).1,(Jl ho).2];exact XN h b ho
theorem Lm(x:Value)(ac:List Acc)(s:Int)(w:World)(h:Sac w x ac)(ht:NTab w) :
  Calls prog 169 #[x,.int .i64 s] w λe w'=>e=.returned (.tuple #[.agg (cmC (Db ac s)),.int .i64 (DY ac s)])/\Bw w w':=by
 have a1:=h.len;obtain⟨a,i,rfl⟩:=h.shape;obtain⟨y,H⟩:∃ y:S3,y=⟨a,ac.length,i⟩:=⟨_,rfl⟩;have a2:y.n=ac.length:=by rw[H]
 rw[show(.slice a ac.length i:Value)=y.v by rw[H]]at h ⊢
 clear H;refine tIn [] func169 trivial (tR 9 [1,0] λb _ _=>?_);by_cases L:0<=s/\s<=39
 .refine tC1 1 (λF C=>DG (r:=true) (N' L)) λ_=>tR 4 [] λa3 _ _=>?_;by_cases h2:y.n<1
  .refine tV 6 (.bool true) (λF C=>(rLt (t:=3) (m:=(y.n:Int)) (n:=1) (x:=(.tmp 14)) (y:=(.const (iv 1))) (N' (by omega)))) ?_;refine tR 14 [0,0] λa4 _ _=>tX λF C=>qE2 4 5 64 0 (b 0) #[iv 0,iv 0,iv 0,iv 0,iv 0] (iv 2) λ_=>by rw[(Dc (ac:=ac) (s:=s) (by omega)).1,(Dc (ac:=ac) (s:=s) (by omega)).2];exact⟨rfl,CgQ.ab C⟩
  .refine tV 6 (.bool false) (λF C=>(rLt (t:=3) (m:=(y.n:Int)) (n:=1) (x:=(.tmp 14)) (y:=(.const (iv 1))) (G' (by omega)))) (tR 4 [] λa5 _ _=>?_);by_cases h3:5<y.n
   .refine tV 11 (.bool true) (λF C=>(rGt (t:=3) (m:=(y.n:Int)) (n:=5) (x:=(.tmp 19)) (y:=(.const (iv 5))) (N' (by omega)))) ?_;refine tR 9 [0,0] λa6 _ _=>tX λF C=>qE2 4 5 64 0 (b 0) #[iv 0,iv 0,iv 0,iv 0,iv 0] (iv 2) λ_=>by rw[(Dc (ac:=ac) (s:=s) (by omega)).1,(Dc (ac:=ac) (s:=s) (by omega)).2];exact⟨rfl,CgQ.ab C⟩
   .refine tV 11 (.bool false) (λF C=>(rGt (t:=3) (m:=(y.n:Int)) (n:=5) (x:=(.tmp 19)) (y:=(.const (iv 5))) (G' (by omega)))) ?_;have N:(0<=s/\s<=39)/\(1<=(ac.length:Int)/\(ac.length:Int)<=5):=by omega
    refine tR 12 [] λa7 _ _=>GU 41 [(0,S3.v y),(1,iv s),(4,pt (b 0) 0),(23,S3.v y),(24,iv (y.n:Int)),(25,iv 0)] [true] [⟨(b 0),.cells #[iv 0,iv 0,iv 0,iv 0,iv 0] 64,.l,false⟩] [] (λkk ee LL o=>∃ (j:Nat),kk=y.n-j/\ee=[(0,S3.v y),(1,iv s),(4,pt (b 0) 0),(23,S3.v y),(24,iv (y.n:Int)),(25,iv (j:Int))]/\LL=[⟨(b 0),.cells #[iv 0,iv 0,iv 0,iv 0,iv 0] 64,.l,false⟩]/\o=[]/\j<=ac.length/\∀ a∈ac.take j,Av a) (y.n) ⟨0,rfl,rfl,rfl,rfl,by omega,λa u=>(by simp at u)⟩ (λF=>trivial) ?_;rintro k _ _ _ ⟨j,rfl,rfl,rfl,rfl,hj,d⟩ _ _ _ J hJ;refine tR 5 [] λa8 _ _=>?_;by_cases h4:j<y.n
    .refine tI ((decide ((j:Int)<(y.n:Int)))) true (N' (by omega)) ?_;obtain⟨A,B⟩:∃ A,ac[j]?=some A:=⟨_,H' (by omega)⟩;obtain⟨bb,K,yl,I,G,hr,P⟩:=h.spot j A B;obtain⟨z,rfl⟩:=P.s3;refine tR 5 [] λa9 _ _=>tV 0 (pt bb (K+3*j)) (λF C=>(kW I j (by omega))) (tV 1 (.agg #[iv A.p.r,iv A.p.n,S3.v z]) (λF C=>(gh (a:=A) (Tf (CgQ.ab C) G hr))) (tR 6 [0,0,1,0,1] λR _ _=>tC1 1 (λF C=>IY A.p z.v A.vs _ (P.ab (CgQ.ab C)) (ht.ab (CgQ.ab C))) λ_=>tR 7 [] λS _ _=>?_));by_cases q:Av A
     .have f:Fb ⟨A.p,A.vs⟩=0:=if_pos q;refine tI (((Fb ⟨A.p,A.vs⟩) != 0)) false (by rw[f];decide) (tR 3 [] λT _ _=>tV 0 (iv ((j:Int)+1)) (λF C=>(AZ 25 (j:Int) underlying3 (by omega))) (tR 2 [] λU _ _=>tB hJ (y.n-(j+1)) (by omega) [true,false] ⟨j+1,rfl,rfl,rfl,rfl,by omega,λa u=>by rw[qx,B]at u;exact(Z'.1 u).elim (d a) λg=>by rw[show a=A by simpa using g];exact q⟩ (λF=>trivial)))
     .have f:Fb ⟨A.p,A.vs⟩=5:=if_neg q;have M:=Vv N λg=>q (g A (nm B));refine tI (((Fb ⟨A.p,A.vs⟩) != 0)) true (by rw[f];decide) ?_;refine tR 7 [0,0] λV _ _=>tX λF C=>qE2 4 5 64 0 (b 0) #[iv 0,iv 0,iv 0,iv 0,iv 0] (iv (Fb ⟨A.p,A.vs⟩)) λ_=>by rw[f,M.1,M.2];exact⟨rfl,CgQ.ab C⟩
    .refine tI ((decide ((j:Int)<(y.n:Int)))) false (G' (by omega)) ?_;rw[mV (show ac.length<=j by omega)]at d
     obtain⟨X,O⟩:∃ X,Iu (FI ac s) ac.length=X:=⟨_,rfl⟩;obtain⟨E,f⟩:∃ E,Iv (FI ac s) ac.length=E:=⟨_,rfl⟩;have Q:=λW g=>Zf y.v ac s W g (by omega) d;have D:=XL N d;rw[O,f]at D
     simp only[O,f]at Q;refine tR 5 [] λY _ _=>tC1 2 (λF C=>Q _ (h.ab (CgQ.ab C))) λ_=>tR 5 [0,0] λZ _ _=>tX λF C=>qE2 4 5 64 0 (b 0) #[iv X.k,iv X.c,iv X.s,iv X.n,iv X.v] (iv E) λ_=>by rw[D.1,D.2];exact⟨rfl,CgQ.ab C⟩
 .refine tC1 1 (λF C=>DG (r:=false) (G' L)) λ_=>tR 19 [0,0] λa0 _ _=>tX λF C=>qE2 4 5 64 0 (b 0) #[iv 0,iv 0,iv 0,iv 0,iv 0] (iv 2) λ_=>by rw[(Dc (ac:=ac) (s:=s) (by omega)).1,(Dc (ac:=ac) (s:=s) (by omega)).2];exact⟨rfl,CgQ.ab C⟩
theorem LO{g:Gh}(b:w.heap[nb]?=some (.cells (Az i ob p x) 145))(a:j<5):w.rangeAt nb (18+3*j) [iv (p.bt.av j).p.r,iv (p.bt.av j).p.n,S3.v (x.hv j)]:=by
 rcases hZ a with rfl|rfl|rfl|rfl|rfl<;>exact QM b _ _ rfl
theorem Qz(h:NodeAt g w i nb ob x p):Sac w (.slice (some ⟨nb,18,none⟩) 5 5) p.bt.gC:=by
 refine⟨⟨some ⟨nb,18,none⟩,5,rfl,.inr ⟨nb,18,rfl,rl h.row,λj A a=>?_⟩⟩,by show 5<=3518437208780;decide⟩;have b:j<5:=by have:=(Q'.1 a).1;exact this
 refine⟨S3.v (x.hv j),?_⟩;have c:=LO (g:=g) h.row b;have d:=(h.av j b).s;rcases hZ b with rfl|rfl|rfl|rfl|rfl<;>(simp[Rnd.gC]at a;subst a;exact⟨c,d⟩)
theorem XI(h:40<=s):DY ac s≠0:=by rw[(Dc (by omega)).2];decide
theorem XK{n:Nat}(h:DY ac (n:Int)=0):n<=39:=by
 rcases nO 39 n with h2|h2
 .exact absurd h (XI (by omega))
 .exact h2
theorem AO.at{L:List Sh}(h:AO L W)(k b:Nat)(o:Obj)(t:Tg)(a:L[k]?=some ⟨b,o,t,false⟩):W.heap[b]?=some o:=h _ (nm a)
theorem F8(h:NS i nb ob g w p ls ts){w0:World}(hB:Base w0 g w)(hT:Tabs w0)(hb:p.ae.length<=40) :
  Calls prog 124 #[pt nb 0] w (NP i nb ob g w (.tuple #[]) p.lr ls ts):=by
 obtain⟨x,lt,tl,hN,hO,hg⟩:=h;refine gI (fn:=f124) (TN i) g func124 hg (qN hN (qO hO (qR [] 1 [] λs1 g1 w1 c1=>BJ 34 [(0,pt nb 0)] [false,false] [] (λk O Q e L=>∃ l:List Cmd,e=[(0,pt nb 0)]/\L=[]/\NS i nb ob O Q { p with ae:=l } ls ts/\OL k p.bt l=OL 41 p.bt p.ae/\41<=l.length+k/\l.length<=41/\Cg w.heap.size (TN i) g w O Q) (by kernel_rfl) (by kernel_rfl) (by kernel_rfl) (by kernel_rfl) 41 (λK=>?_) ?_)))
 .have C2:=c1;exact⟨p.ae,rfl,rfl,(nsC hN hO C2 K),rfl,by omega,by omega,(c1.nil (TN i))⟩
 .rintro k gr wr _ zr _ ⟨l,rfl,rfl,hM,hI,hk1,hk2,hC⟩ J hJ;obtain⟨b,H,M,a,u,a7⟩:=hM;refine qN a (qO u ?_);have q:b.ae.n=l.length:=a.ae.num;refine qR [] 15 [19,0,2,4,6,8,10,12,14,16,18,20,0,22] λs3 g3 w3 y=>BT 34 (λO Q e L=>∃ (bA:Nat),e=[(0,pt nb 0),(2,pt bA 0),(3,iv (DY p.bt.gC (b.ae.n:Int)))]/\L=[⟨nb,.cells (Az i ob ({ p with ae:=l }) b) 145,.n 0 i,false⟩,⟨ob,.cells #[S3.v H,S3.v M] 115,.n 50 0,false⟩,⟨bA,.cells #[iv (Db p.bt.gC (b.ae.n:Int)).k,iv (Db p.bt.gC (b.ae.n:Int)).c,iv (Db p.bt.gC (b.ae.n:Int)).s,iv (Db p.bt.gC (b.ae.n:Int)).n,iv (Db p.bt.gC (b.ae.n:Int)).v] 64,.l,false⟩]/\Cg w.heap.size [] gr wr O Q) (by kernel_rfl) ?_ ?_
  .intro J hJ;refine CR 12 16 (by kernel_rfl) ?_ ?_
   .have hS6:=Qz (a.ch y);have W:=hB.ch (((hC.n y))) (Bg i);refine qC 12 (Lm _ _ (b.ae.n:Int) w3 hS6 (W.tn hT)) ?_;rintro e' w7 ⟨rfl,Z⟩;refine⟨_,rfl,Z,?_⟩;have c7:=Cg.au (B:=w.heap.size) (T:=[]) (g:=g3) Z;refine qR [] 7 [26,28,30,33,1,0,35,2,0,36] λs8 g8 w8 c8=>qB [true,true,true] λz N K=>hJ _ _ _ z _ ⟨(s8 0),rfl,rfl,((y.trans c7).trans c8)⟩ K
   .refine qR [] 1 [1,0] λs9 g9 w9 V=>?_;have G:=Qz (a.ch (y.trans V));have F:=hB.ch (hC.trans ((y.trans V).nil _)) (Bg i);refine qC 12 (Lm _ _ (b.ae.n:Int) w9 G (F.tn hT)) ?_;rintro e' b2 ⟨rfl,A⟩;refine⟨_,rfl,A,?_⟩;have S:=Cg.au (B:=w.heap.size) (T:=[]) (g:=g9) A;refine qR [] 6 [26,28,30,35,2,0,36] λa9 a2 b3 U=>qB [true,true,true] λz N K=>hJ _ _ _ z _ ⟨(s9 0),rfl,rfl,(((y.trans V).trans S).trans U)⟩ K
  .rintro g4 w4 _ z4 _ ⟨bA,rfl,rfl,hc⟩;refine qR [] 6 [] λb0 a3 b4 o=>?_;by_cases P:DY p.bt.gC (b.ae.n:Int)≠0
   .refine qI (((DY p.bt.gC (b.ae.n:Int)) != 0)) true (by simpa using P) (qE (.tuple #[]) λK=>?_);have hE:p.lr={ p with ae:=l }:=by unfold Nod.lr;rw[<- hI];cases k with|zero=>rfl|succ k=>rw[OL,if_neg (by rw[<- q];exact P)]
    rw[hE];exact⟨_,rfl,(nsC a u (hc.n o) K),((hC.n hc).n o)⟩
   .refine qI (((DY p.bt.gC (b.ae.n:Int)) != 0)) false (by simpa using P) ?_;have E:DY p.bt.gC (b.ae.n:Int)=0:=by simpa using P
    have a0:l.length<=39:=by rw[<- q];exact XK E
    obtain⟨k,rfl⟩:∃ k1,k=k1+1:=⟨k-1,by omega⟩;refine qR [] 10 [12,0,2,4,6,8,10,0,12,2,15,0,0] λI a4 b5 r=>Kv 8 (x:=b.ae) 38 38 64 5 40 (.agg #[iv 0,iv 0,iv 0,iv 0,iv 0]) ⟨(I 0),0,none⟩ 1 1 [iv (Db p.bt.gC (b.ae.n:Int)).k,iv (Db p.bt.gC (b.ae.n:Int)).c,iv (Db p.bt.gC (b.ae.n:Int)).s,iv (Db p.bt.gC (b.ae.n:Int)).n,iv (Db p.bt.gC (b.ae.n:Int)).v] (a.ae.ch ((hc.trans o).trans r) (by simp) (by simp)) (by kernel_rfl) (by kernel_rfl) (by kernel_rfl) underlying38 (by kernel_rfl) (by kernel_rfl) (by decide) (by decide) rfl (by simp[Value.oneCell']) (λK=>D0 K 3 (I 0) [iv (Db p.bt.gC (b.ae.n:Int)).k,iv (Db p.bt.gC (b.ae.n:Int)).c,iv (Db p.bt.gC (b.ae.n:Int)).s,iv (Db p.bt.gC (b.ae.n:Int)).n,iv (Db p.bt.gC (b.ae.n:Int)).v] 64 .z true (by kernel_rfl)) (by unfold maxLen;omega) (by omega) ?_;intro Y a5 b6 R a8 D a1;have C:=D w.heap.size [.n 3 i] (U'.2 rfl);refine qR [.n 0 i] 6 [18,20,22,25,0,1] λb1 a6 b8 t=>Ee J 34 [(0,pt nb 0)] [false,false,false,false] [] (by kernel_rfl) (by kernel_rfl) (by kernel_rfl) (by kernel_rfl) (by kernel_rfl) (λz N K=>?_);have X:Db p.bt.gC (b.ae.n:Int)=Db p.bt.gC (l.length:Int):=by rw[q]
    refine hJ k _ _ _ z _ (by omega) ⟨l++[Db p.bt.gC (l.length:Int)],rfl,rfl,?_,?_,by simp;omega,by simp;omega,(((((hC.n hc).n o).n r).trans (C.mono (by simp[TN]))).trans (t.mono (by simp[TN])))⟩ K
    skip
    have d:=((((hc.nil ([.n 3 i,.n 0 i]:List Tg)).n o).n r).m C).m t;have j:Tg.z∉([.n 3 i,.n 0 i]:List Tg):=by simp
    .rw[<- X];exact⟨{ b with ae:=Y },H,M,N.nd 0 (a.tape.ch d j) (a.eA.ch d j) (Bj a.av d j) (BL a.br d j (by simp)) (a.cn.ch d) (by rw[BY];exact R.ch t) (a.af.ch d) (a.bu.ch d) a.rP,u.ch d j (by simp<;>omega),N.new⟩
    .rw[<- hI,OL,if_pos (by rw[<- q];exact E)]
theorem Ns(h:NS i nb ob g w p ls ts){w0:World}(hB:Base w0 g w)(hT:Tabs w0)(j:Nat)(Z:j<5)(v:Vt)(hb:p.ae.length<=40) :
  Calls prog 127 #[pt nb 0,iv (j:Int),.agg #[iv v.an,iv v.b.r,iv v.b.n,iv v.w.k,iv v.w.c,iv v.w.s,iv v.w.n,iv v.w.v]] w (NP i nb ob g w (.tuple #[]) (p.count j v) ls ts):=by
 obtain⟨x,lt,tl,d,hO,hg⟩:=h;refine gI (fn:=f127) (TN i) g func127 hg (qN d (qO hO (qR [] 15 [0,0,9,0,2,2,4,6,8,10,12,14,0] λs1 g1 w1 c1=>?_)));by_cases R:v.b≠p.bt.fw
 .refine qT 8 (.bool true) (λ_=>(I3 (x:=(.tmp 9)) (y:=(.tmp 15)) v.b p.bt.fw R)) (qR [] 2 [] λs2 g2 w2 c2=>qE (.tuple #[]) λK=>?_);rw[show p.count j v=p from if_pos R];exact⟨_,rfl,(nsC d hO (c1.n c2) K),((c1.nil (TN i)).n c2)⟩
 .have h10:v.b=p.bt.fw:=by simpa using R
  refine qT 8 (.bool false) (λ_=>(I2 (x:=(.tmp 9)) (y:=(.tmp 15)) v.b p.bt.fw h10)) (qR [] 11 [16,0,2,4,6,8,10] λs4 g4 w4 F=>?_);refine PZ 6 (pt nb (18+3*j)) false (λW hW=>by rcases hZ Z with rfl|rfl|rfl|rfl|rfl<;>kernel_rfl) (by kernel_rfl) ?_;refine qU 7 (.agg #[iv (p.bt.av j).p.r,iv (p.bt.av j).p.n,S3.v (x.hv j)]) (λW hW=>(gh (LO (g:=g) (AO.at (hW rfl) 0 nb (.cells (Az i ob p x) 145) (.n 0 i) (by kernel_rfl)) Z))) (qR [] 1 [16,2] λs6 g6 w6 G=>BT 42 (λg' w' e L=>∃ (ys:S3) (bA:Nat),e=[(0,pt nb 0),(1,iv (j:Int)),(6,pt bA 0),(7,iv (B1 (p.bt.av j) v))]/\L=[⟨nb,.cells (Az i ob p x) 145,.n 0 i,false⟩,⟨ob,.cells #[S3.v lt,S3.v tl] 115,.n 50 0,false⟩,⟨(s1 0),.cells #[iv v.an,iv v.b.r,iv v.b.n,iv v.w.k,iv v.w.c,iv v.w.s,iv v.w.n,iv v.w.v] 184,.z,false⟩,⟨bA,.cells #[iv (Ch (p.bt.av j) v).r,iv (Ch (p.bt.av j) v).n,S3.v ys] 126,.l,false⟩]/\FSv g' w' ys (CM (p.bt.av j) v)/\Cg w.heap.size [] g w g' w') (by kernel_rfl) ?_ ?_)
  .intro J hJ;refine CR 9 13 (by kernel_rfl) ?_ ?_
   .refine Ad λa5=>?_;have b5:=((d.av j Z).ch ((c1.trans F).trans G) (by simp)).s;have b3:=hB.ch ((c1.trans F).trans G) (by simp);have b4:∀ z,w6.heap.size<=z->g6.t z=.z:=λz hz=>(a5.new z hz).1;refine qC 9 (BX (p.bt.av j).p _ (p.bt.av j).vs v w6 b5 (b3.tn hT)) ?_;rintro e' e3 ⟨f3,rfl,a0,c5,I⟩;refine⟨_,rfl,I,?_⟩;have a7:=Cg.au (B:=w.heap.size) (T:=[]) (g:=g6) I;obtain⟨a3,rfl,b6,D⟩:=DA a0 b4 (by omega);refine qR [] 7 [20,22,24,27,1,0,29,3,0,30] λb8 d0 e4 N=>qB [true,true,true,true] λz K0 K=>hJ _ _ _ z _ ⟨a3,(b8 0),rfl,rfl,(D.ch N),((((c1.trans F).trans G).trans a7).trans N)⟩ K
   .refine qR [] 1 [1,0] λb9 Q a2 C=>Ad λH=>?_;have Y:=((d.av j Z).ch (((c1.trans F).trans G).trans C) (by simp)).s;have S:=hB.ch (((c1.trans F).trans G).trans C) (by simp);have U:∀ z,a2.heap.size<=z->Q.t z=.z:=λz hz=>(H.new z hz).1;refine qC 9 (BX (p.bt.av j).p _ (p.bt.av j).vs v a2 Y (S.tn hT)) ?_;rintro e' e5 ⟨f4,rfl,a1,c7,M⟩;refine⟨_,rfl,M,?_⟩;have a8:=Cg.au (B:=w.heap.size) (T:=[]) (g:=Q) M;obtain⟨a4,rfl,b7,E⟩:=DA a1 U (by omega);refine qR [] 6 [20,22,24,29,3,0,30] λd7 d1 e6 O=>qB [true,true,true,true] λz K0 K=>hJ _ _ _ z _ ⟨a4,(b9 0),rfl,rfl,(E.ch O),(((((c1.trans F).trans G).trans C).trans a8).trans O)⟩ K
  .rintro g7 w7 _ z7 _ ⟨ys,bA,rfl,rfl,hys,hc⟩;refine qR [] 6 [] λd8 d2 e7 m=>?_;by_cases h2:B1 (p.bt.av j) v≠0
   .refine qI (((B1 (p.bt.av j) v) != 0)) true (by simpa using h2) (qE (.tuple #[]) λK=>?_);rw[show p.count j v=p from by unfold Nod.count;rw[if_neg R,if_pos h2]];exact⟨_,rfl,(nsC d hO (hc.n m) K),((hc.nil (TN i)).n m)⟩
   .refine qI (((B1 (p.bt.av j) v) != 0)) false (by simpa using h2) (qR [] 10 [8,0,2,4,3,6,8,10,12] λd9 b1 c0 q=>BT 42 (λg' w' e L=>e=[(0,pt nb 0)]/\L=[⟨nb,.cells (Az i ob ({ p with bt:={ p.bt with av:=upN p.bt.av j ⟨Ch (p.bt.av j) v,CM (p.bt.av j) v⟩ } }) ({ x with hv:=upN x.hv j ys })) 145,.n 0 i,false⟩,⟨ob,.cells #[S3.v lt,S3.v tl] 115,.n 50 0,false⟩,⟨(s1 0),.cells #[iv v.an,iv v.b.r,iv v.b.n,iv v.w.k,iv v.w.c,iv v.w.s,iv v.w.n,iv v.w.v] 184,.z,false⟩,⟨bA,.cells #[iv (Ch (p.bt.av j) v).r,iv (Ch (p.bt.av j) v).n,S3.v ys] 126,.l,false⟩]/\True/\Cg w.heap.size ([.n 0 i]:List Tg) b1 c0 g' w') (by kernel_rfl) ?_ ?_)
    .intro J hJ;rcases hZ Z with rfl|rfl|rfl|rfl|rfl <;>
     (refine qR [.n 0 i] 3 [14,17,0,1] λe0 d4 e9 a9=>?_;exact qB [true,true,true,true] λz K0 K=>hJ _ _ _ z _ ⟨rfl,rfl,trivial,a9⟩ K)
    rintro d3 e8 _ f5 _ ⟨rfl,rfl,_,u⟩;refine qR [] 2 [] λe1 b2 c3 A=>?_;rw[show p.count j v=Nod.lr { p with bt:={ p.bt with av:=upN p.bt.av j ⟨Ch (p.bt.av j) v,CM (p.bt.av j) v⟩ } }from by unfold Nod.count;rw[if_neg R,if_neg h2]];refine Ad λK=>?_;have a:=((((hc.nil ([.n 0 i]:List Tg)).n m).n q).trans (u)).n A;have o:Tg.z∉([.n 0 i]:List Tg):=by simp
    have a6:NS i nb ob b2 c3 ({ p with bt:={ p.bt with av:=upN p.bt.av j ⟨Ch (p.bt.av j) v,CM (p.bt.av j) v⟩ } }) ls ts:=⟨{ x with hv:=upN x.hv j ys },lt,tl,K.nd 0 (d.tape.ch a o) (d.eA.ch a o) (λk hk=>(by show FSv _ _ (upN x.hv j ys k) (upN p.bt.av j ⟨Ch (p.bt.av j) v,CM (p.bt.av j) v⟩ k).vs;unfold upN;split;exact((((hys.ch m).ch q).ch u).ch A);exact(d.av k hk).ch a o)) (BL d.br a o (by simp)) (d.cn.ch a) (d.ae.ch a) (d.af.ch a) (d.bu.ch a) d.rP,hO.ch a o (by simp<;>omega),K.new⟩;refine qS0 1 [false,false,true,true] (F8 a6 (hB.ch (((((hc.nil (TN i)).n m).n q).trans (u.mono (by simp[TN]))).n A) (Bg i)) hT hb) λd5 f0 f2 c8 c9 V X b0=>qR [] 1 [] λe2 d6 f1 P=>qF V X P (((((((hc.nil (TN i)).n m).n q).trans (u.mono (by simp[TN]))).n A).trans (b0)).n P)
theorem Po(h:NS i nb ob g w p ls ts){m:World}(s:Base m g w)(t:Tabs m)(d:Nat)(l:Let)(y:Cq g w d l)(C:l.src<5)(u:p.ae.length<=40) :
  Calls prog 77 #[pt nb 0,pt d 0] w (NP i nb ob g w (.tuple #[]) (p.count l.src l.bW) ls ts):=by
 obtain⟨x,lt,M,j,k,v⟩:=h;refine gI (fn:=f77) (TN i) g func77 v (qN j (qO k ?_));obtain⟨F,G,a,A,B⟩:=y;refine BS ⟨d,.cells (Fj l F G) 186,.z,false⟩ (λ_=>⟨a.r,a.z,λh=>(by cases h),λh=>absurd rfl h⟩) (by kernel_rfl) ?_;refine qR [] 10 [9,0,2,4,6,8,2,10,12,14,16,2] λK H N c1=>qS 9 [false,false,true] j k c1 (λo=>Ns o (s.ch (c1.nil (TN i)) (Bg i)) t l.src C l.bW u) λI O Q D E b c q=>qR [] 1 [] λL J P e=>qF b c e (((c1.nil (TN i)).trans (q)).n e)
theorem Gv(q:List Cmd)(c:Cmd)(l:List Cmd):PT q (c::l)=PT (if q.length<40/\c∉q then q++[c]else q) l:=rfl
theorem Ds{l:List Cmd}{c:Cmd}(h:l[j]?=some c):l.drop j=c::l.drop (j+1):=by
 obtain⟨a,b⟩:=Q'.1 h;rw[<- b];exact nz a
theorem cQ(q l:List Cmd)(h:q.length<=40):(PT q l).length<=40:=by
 induction l generalizing q with
 | nil=>exact h
 | cons c l ih =>
  rw[Gv];refine ih _ ?_;split
  .rw[I'];show _+1<=_;omega
  .exact h
theorem JK(h:NS i nb ob g w p ls ts)(a:List Cmd)(I:S3)(hw:Rc g w I a)(hb:a.length<100000000)(hq:p.bt.cn.length<=40) :
  Calls prog 129 #[pt nb 0,I.v] w (NP i nb ob g w (.tuple #[]) (p.eN a) ls ts):=by
 have c2:=h;obtain⟨x,lt,tl,hN,hO,hg⟩:=h;have d0:=hw.len;refine gI (fn:=f129) (TN i) g func129 hg (qN hN (qO hO (qR [] 4 [] λs1 g1 w1 c1=>Ad λK=>?_)));have N3:NS i nb ob g1 w1 p ls ts:=(nsC hN hO c1 K);refine qC 1 (NK N3) ?_;rintro e' w4 ⟨rfl,b4⟩;refine⟨_,rfl,b4,?_⟩;have c4:=Cg.au (B:=w.heap.size) (T:=[]) (g:=g1) b4;refine qR [] 2 [] λs5 g5 w5 c5=>?_;by_cases h1:p.leads=true
 .refine qI ((!p.leads)) false (by simpa using h1) ?_;rw[show p.eN a={ p with bt:={ p.bt with cn:=PT p.bt.cn a } }from if_pos h1];refine qR [] 8 [] λs6 g6 w6 c6=>BJ 49 [(0,pt nb 0),(9,S3.v I),(10,iv (I.n:Int)),(11,iv 0)] [false,false] [] (λk g' w' e L=>∃ (j:Nat) (q:List Cmd),k=a.length-j/\j<=a.length/\e=[(0,pt nb 0),(9,S3.v I),(10,iv (I.n:Int)),(11,iv (j:Int))]/\L=[]/\NS i nb ob g' w' { p with bt:={ p.bt with cn:=q } } ls ts/\PT q (a.drop j)=PT p.bt.cn a/\q.length<=40/\Cg w.heap.size (TN i) g w g' w') (by kernel_rfl) (by kernel_rfl) (by kernel_rfl) (by kernel_rfl) a.length (λK=>?_) ?_
  .have C7:=((c1.n c4).n c5).n c6;exact⟨0,p.bt.cn,rfl,by omega,rfl,rfl,(nsC hN hO C7 K),rfl,hq,((((c1.nil (TN i)).n c4).n c5).n c6)⟩
  .rintro k gr wr _ zr _ ⟨j,q,rfl,hj,rfl,rfl,hM,hI,hq1,hC⟩ J hJ;obtain⟨xr,a5,a6,b,F,c3⟩:=hM;refine qN b (qO F ?_);have c7:xr.cn.n=q.length:=b.cn.num;refine qR [] 5 [] λs8 g8 w8 E=>?_;by_cases h2:j<a.length
   .refine qI ((decide ((j:Int)<(I.n:Int)))) true (N' (by omega)) ?_;obtain⟨c,H⟩:∃ c,a[j]?=some c:=⟨_,H' h2⟩;have a3:=hw.ch hC (Bg i);obtain⟨bx,ox,Z⟩:=hw.addr h2;refine qR [] 5 [] λs9 g9 w9 G=>qV 0 (pt bx (ox+5*j)) (Mb Z j (by omega)) ?_;have a4:=a3.ch (E.trans G);refine qV 1 (.agg #[iv c.k,iv c.c,iv c.s,iv c.n,iv c.v]) (Pa c λq_ u hu=>a4.cellAt Z H hu) (qR [] 12 [0,0,2,0,19,0,2,4,6,8,10,0,12] λd2 a9 e2 o=>?_);by_cases h3:(xr.cn.n:Int)<40
    .refine qT 7 (.bool true) (λ_=>(rLt (t:=3) (x:=(.tmp 21)) (y:=(.const (iv 40))) (N' h3))) (qR [] 8 [16,18,20,22,24,26,28,0,30,2] λd3 a2 e3 r=>qC 16 (Fe (l:=q) (b.cn.ch (((E.trans G).trans o).trans r) (by simp) (by simp)).rd (by omega) c) ?_);rintro e' e4 ⟨rfl,Q⟩;refine⟨_,rfl,Q,?_⟩;have C:=Cg.au (B:=w.heap.size) (T:=[]) (g:=a2) Q;refine qR [] 3 [34,36] λd4 b0 e5 D=>?_;by_cases h4:c∈q
     .refine qI ((!(decide (c∈q)))) false (by simpa using h4) (qR [] 3 [] λd5 b1 e6 R=>qV 0 (iv ((j:Int)+1)) (AZ 11 (j:Int) underlying3 (by omega)) (qR [] 2 [] λd6 b2 e7 S=>qB [false,false,false] λz P K=>hJ (a.length-(j+1)) _ _ _ z _ (by omega) ⟨j+1,q,rfl,by omega,rfl,rfl,?_,?_,by omega,((((((((hC.n E).n G).n o).n r).n C).n D).n R).n S)⟩ K))
      .exact(nsC b F (((((((E.n G).n o).n r).n C).n D).n R).n S) P)
      .rw[<- hI,Ds H,Gv,if_neg (λh=>h.2 h4)]
     .refine qI ((!(decide (c∈q)))) true (by simpa using h4) (qR [] 10 [14,0,2,4,6,8,10,12,0,14,2,17,0,0] λa0 b3 e8 M=>Kv 9 (x:=xr.cn) 38 38 64 5 40 (.agg #[iv 0,iv 0,iv 0,iv 0,iv 0]) ⟨(a0 0),0,none⟩ 1 1 [iv c.k,iv c.c,iv c.s,iv c.n,iv c.v] (b.cn.ch ((((((E.trans G).trans o).trans r).trans C).trans D).trans M) (by simp) (by simp)) (by kernel_rfl) (by kernel_rfl) (by kernel_rfl) underlying38 (by kernel_rfl) (by kernel_rfl) (by decide) (by decide) rfl (by simp[Value.oneCell']) (λK=>D0 K 3 (a0 0) [iv c.k,iv c.c,iv c.s,iv c.n,iv c.v] 64 .z true (by kernel_rfl)) (by unfold maxLen;omega) (by omega) ?_);intro a7 b5 e9 a1 d1 Y a8;have U:=Y w.heap.size [.n 2 i] (U'.2 rfl);refine qR [.n 0 i] 8 [20,22,24,26,29,0,1] λd7 b6 f0 N=>qV 0 (iv ((j:Int)+1)) (AZ 11 (j:Int) underlying3 (by omega)) (qR [] 2 [] λd8 b7 f1 O=>qB [false,false,false,false] λz P K=>hJ (a.length-(j+1)) _ _ _ z _ (by omega) ⟨j+1,(q++[c]),rfl,by omega,rfl,rfl,?_,?_,by simp;omega,((((((((((hC.n E).n G).n o).n r).n C).n D).n M).trans (U.mono (by simp[TN]))).trans (N.mono (by simp[TN]))).n O)⟩ K);have d:=(((((((((E.nil ([.n 2 i,.n 0 i]:List Tg)).n G).n o).n r).n C).n D).n M).m U).m N).n O;have A:Tg.z∉([.n 2 i,.n 0 i]:List Tg):=by simp
      .exact⟨{ xr with cn:=a7 },a5,a6,P.nd 0 (b.tape.ch d A) (b.eA.ch d A) (Bj b.av d A) (BL b.br d A (by simp)) (by rw[BY];exact((a1.ch N).ch O)) (b.ae.ch d) (b.af.ch d) (b.bu.ch d) b.rP,F.ch d A (by simp<;>omega),P.new⟩
      .rw[<- hI,Ds H,Gv,if_pos ⟨by omega,h4⟩]
    .refine qT 7 (.bool false) (λ_=>(rLt (t:=3) (x:=(.tmp 21)) (y:=(.const (iv 40))) (G' h3))) (qR [] 16 [16,18,20,22,24,26,28,30,32,34,36] λd9 b8 f2 V=>qV 0 (iv ((j:Int)+1)) (AZ 11 (j:Int) underlying3 (by omega)) (qR [] 2 [] λe0 b9 f3 W=>qB [false,false,false] λz P K=>hJ (a.length-(j+1)) _ _ _ z _ (by omega) ⟨j+1,q,rfl,by omega,rfl,rfl,?_,?_,by omega,(((((hC.n E).n G).n o).n V).n W)⟩ K))
     .exact(nsC b F ((((E.n G).n o).n V).n W) P)
     .rw[<- hI,Ds H,Gv,if_neg (by omega)]
   .refine qI ((decide ((j:Int)<(I.n:Int)))) false (G' (by omega)) (qR [] 1 [] λe1 c0 f4 X=>?_);obtain rfl:j=a.length:=by omega
    rw[oH]at hI
    refine qE (.tuple #[]) λK=>?_;rw[<- hI];exact⟨_,rfl,(nsC b F (E.n X) K),((hC.n E).n X)⟩
 .refine qI ((!p.leads)) true (by simpa using h1) (qE (.tuple #[]) λK=>?_);rw[show p.eN a=p from if_neg h1];exact⟨_,rfl,(nsC hN hO ((c1.n c4).n c5) K),(((c1.nil (TN i)).n c4).n c5)⟩
theorem EI(h:NS i nb ob g w p ls ts){b:Bool}(a:p.leads=b) :
  Calls prog 123 #[pt nb 0] w λe w'=>e=.returned (.bool b)/\Bw w w':=by subst a;exact NK h
theorem Yi(p:Nod)(l:List Cmd):(p.eN l).br=p.br:=by unfold Nod.eN;split<;>rfl
theorem Mp(h:NS i nb ob g w p ls ts)(j:Nat)(l:Let)(E:Cq g w j l)(D:l.kind=6)(N:p.br.length<100000000)(u:l.cx.length<100000000)(Q:p.bt.cn.length<=40) :
  Calls prog 79 #[pt nb 0,pt j 0] w (NP i nb ob g w (.tuple #[]) (p.take l) ls ts):=by
 obtain⟨x,lt,tl,B,C,O⟩:=h;refine gI (fn:=f79) (TN i) g func79 O (qN B (qO C ?_));have q:=E;obtain⟨W,F,e,P,v⟩:=E;refine BS ⟨j,.cells (Fj l W F) 186,.z,false⟩ (λ_=>⟨e.r,e.z,λh=>(by cases h),λh=>absurd rfl h⟩) (by kernel_rfl) ?_;refine qR [] 12 [0,0,0,0,5,0,3,2,4,4,6,8,2] λk g1 w1 c1=>qS 5 [false,false,true,true,true] B C c1 (λH=>JK H l.cx F (v.ch (c1.nil (TN i)) (Bg i)) u Q) λg2 w2 G R U a d m=>?_;have hn:=a.ae.num;refine qR [] 15 [11,0,2,2,4,6,0,8,1,10,12,14,16,3,18,20] λs4 g4 w4 c=>?_;by_cases A:l.an<(p.eN l.cx).ae.length
 .refine qI ((decide ((l.an:Int)<(G.ae.n:Int)))) true (N' (by omega)) (qR [] 3 [1] λs5 M Y o=>?_);rw[show p.take l=(p.eN l.cx).wait (.tell l.src l.an)from by unfold Nod.take;rw[D];exact if_pos A];refine Ad λK=>?_;obtain⟨Z,z2⟩:=K.rG 1 (k 0) (.cells #[pt nb 0] 118) false (by kernel_rfl);obtain⟨z3,z4⟩:=K.rG 2 (k 1) (.cells #[pt j 0] 187) false (by kernel_rfl);have I:NS i nb ob M Y (p.eN l.cx) ls ts:=(nsC a d (c.n o) K);refine qS0 2 [true,true,true,false,false] (AJ I (by rw[Yi];exact N) _ _ (.tell l.src l.an) ⟨(k 0),(k 1),j,l,rfl,⟨Z,z2⟩,⟨z3,z4⟩,q.ch ((((c1.nil (TN i)).trans (m)).n c).n o) (Bg i),rfl,rfl⟩) λg6 w6 x6 S V s t J=>qR [] 1 [] λs8 g8 w8 y=>qF s t y ((((((c1.nil (TN i)).trans (m)).n c).n o).trans (J)).n y)
 .refine qI ((decide ((l.an:Int)<(G.ae.n:Int)))) false (G' (by omega)) (qR [] 1 [] λT L X b=>qE (.tuple #[]) λK=>?_);rw[show p.take l=(p.eN l.cx)from by unfold Nod.take;rw[D];exact if_neg A];exact⟨_,rfl,(nsC a d (c.n b) K),((((c1.nil (TN i)).trans (m)).n c).n b)⟩
theorem KA(h:NS i nb ob g w p ls ts){w0:World}(hB:Base w0 g w)(hT:Tabs w0)(I:Nat)(l:Let)(hl:Cq g w I l)(Y:l.kind=1)(hs:l.src<5)(hb:(p.dW 0 l.cx).ae.length<=40)(b1:l.cx.length<=40)(X:(p.bt.av l.src).vs.length<100000000) :
  Calls prog 74 #[pt nb 0,pt I 0] w (NP i nb ob g w (.tuple #[]) (p.take l) ls ts):=by
 obtain⟨H,src,q,b,bW,a,c,cx⟩:=l;simp only at Y hs hb b1 X;obtain⟨x,lt,tl,hN,hO,hg⟩:=h;refine gI (fn:=f74) (TN i) g func74 hg (qN hN (qO hO ?_));obtain⟨vs,wh,Z,b2,a0⟩:=hl;obtain⟨wa,wn,wc⟩:=wh;obtain rfl:wn=cx.length:=a0.len;have d7:p.ae.length<=40:=mI (by unfold Nod.dW;rw[I'];omega) hb;refine BS ⟨I,.cells (Fj (Let.mk H src q b bW a c cx) vs (S3.mk wa cx.length wc)) 186,.z,false⟩ (λ_=>⟨Z.r,Z.z,λh=>(by cases h),λh=>absurd rfl h⟩) (by kernel_rfl) ?_;refine qR [] 7 [2] λs1 g1 w1 c1=>qS 5 [false,false,true] hN hO c1 (λN2=>NL N2 0 cx (S3.mk wa cx.length wc) (a0.ch (c1.nil (TN i)) (Bg i)) (by omega) (by omega) (by omega)) λg2 w2 x2 b3 b4 s t D=>?_;by_cases h1:(p.dW 0 cx).leads=false
 .refine qR [] 5 [29,0] λs4 g4 w4 c4=>Ad λK=>?_;have N6:NS i nb ob g4 w4 (p.dW 0 cx) ls ts:=(nsC s t c4 K);refine qC 1 (EI N6 h1) ?_;rintro e' w7 ⟨rfl,b7⟩;refine⟨_,rfl,b7,?_⟩;have c7:=Cg.au (B:=w.heap.size) (T:=[]) (g:=g4) b7;refine qR [] 29 [4,6,8,10,12,14,16,18,20,22,24,26,28,30,32,34,36,38,40,42,44,46,48,50,52,54,56] λs8 g8 w8 c8=>qE (.tuple #[]) λK=>?_;rw[show p.take (Let.mk H src q b bW a c cx)=(p.dW 0 cx)from by unfold Nod.take;rw[Y];exact if_pos (.inl h1)];exact⟨_,rfl,(nsC s t ((c4.n c7).n c8) K),(((((c1.nil (TN i)).trans (D)).n c4).n c7).n c8)⟩
 .have h10:(p.dW 0 cx).leads=true:=by simpa using h1
  refine qR [] 5 [29,0] λd8 R b5 d=>Ad λK=>?_;have a2:NS i nb ob R b5 (p.dW 0 cx) ls ts:=(nsC s t d K);refine qC 1 (EI a2 h10) ?_;rintro e' e8 ⟨rfl,N⟩;refine⟨_,rfl,N,?_⟩;have j:=Cg.au (B:=w.heap.size) (T:=[]) (g:=R) N;refine qR [] 12 [4,6,8,10,12,14,0,16,18,20,22,24,26,1] λd9 c5 e9 k=>?_;by_cases h2:b≠(p.dW 0 cx).bt.fw
  .refine qT 14 (.bool true) (λ_=>(I3 (x:=(.tmp 17)) (y:=(.tmp 23)) b (p.dW 0 cx).bt.fw h2)) (qR [] 16 [30,32,34,36,38,40,42,44,46,48,50,52,54,56] λe0 c6 f0 O=>qE (.tuple #[]) λK=>?_);rw[show p.take (Let.mk H src q b bW a c cx)=(p.dW 0 cx)from by unfold Nod.take;rw[Y];exact if_pos (.inr (.inl h2))];exact⟨_,rfl,(nsC s t (((d.n j).n k).n O) K),((((((c1.nil (TN i)).trans (D)).n d).n j).n k).n O)⟩
  .have h20:b=(p.dW 0 cx).bt.fw:=by simpa using h2
   refine qT 14 (.bool false) (λ_=>(I2 (x:=(.tmp 17)) (y:=(.tmp 23)) b (p.dW 0 cx).bt.fw h20)) (qR [] 11 [30,32,34,36,38,40,42,0,44,46,48,50] λe1 a8 b6 m=>BT 69 (λg' w' e L=>e=[(0,pt nb 0),(1,pt I 0),(38,.bool ((p.dW 0 cx).bt.rk src))]/\L=[⟨I,.cells (Fj (Let.mk H src q b bW a c cx) vs (S3.mk wa cx.length wc)) 186,.z,false⟩,⟨nb,.cells (Az i ob (p.dW 0 cx) x2) 145,.n 0 i,false⟩,⟨ob,.cells #[S3.v b3,S3.v b4] 115,.n 50 0,false⟩]/\True/\Cg w.heap.size ([]:List Tg) a8 b6 g' w') (by kernel_rfl) ?_ ?_)
   .intro J hJ;rcases hZ hs with rfl|rfl|rfl|rfl|rfl <;>
    (refine qR [] 4 [52,54,1,56] λe2 d0 f2 a5=>?_;exact qB [true,true,true] λz K0 K=>hJ _ _ _ z _ ⟨rfl,rfl,trivial,(a5.nil ([]:List Tg))⟩ K)
   rintro c9 f1 _ g0 _ ⟨rfl,rfl,_,o⟩;by_cases h3:(p.dW 0 cx).bt.rk src=true
   .refine qI (((p.dW 0 cx).bt.rk src)) true h3 (qE (.tuple #[]) λK=>?_);rw[show p.take (Let.mk H src q b bW a c cx)=(p.dW 0 cx)from by unfold Nod.take;rw[Y];exact if_pos (.inr (.inr h3))];exact⟨_,rfl,(nsC s t ((((d.n j).n k).n m).n o) K),(((((((c1.nil (TN i)).trans (D)).n d).n j).n k).n m).n o)⟩
   .refine qI (((p.dW 0 cx).bt.rk src)) false (by simpa using h3) (qR [] 15 [12,0,2,4,6,8,10,12,14,0,16,18,20,22,0] λe3 d1 f3 u=>qS 12 [true,false,false] s t (((((d.n j).n k).n m).n o).n u) (λa3=>Qe a3 (hB.ch ((((((((c1.nil (TN i)).trans (D)).n d).n j).n k).n m).n o).n u) (Bg i)) hT src hs a vs (b2.ch ((((((((c1.nil (TN i)).trans (D)).n d).n j).n k).n m).n o).n u) (Bg i)) X) λd2 f4 a1 A C S V P=>qR [] 17 [15,0,2,4,6,8,0,10,12,14,16,0,18,20,22,24,26] λe4 a9 b8 E=>BT 69 (λg' w' e L=>e=[(0,pt nb 0)]/\L=[⟨I,.cells (Fj (Let.mk H src q b bW a c cx) vs (S3.mk wa cx.length wc)) 186,.z,false⟩,⟨nb,.cells (Az i ob ({ (p.dW 0 cx)with bt:={ (p.dW 0 cx).bt.rC src a with bw:=upN (p.dW 0 cx).bt.bw src cx.length } }) a1) 145,.n 0 i,false⟩,⟨ob,.cells #[S3.v A,S3.v C] 115,.n 50 0,false⟩]/\True/\Cg w.heap.size ([.n 0 i]:List Tg) a9 b8 g' w') (by kernel_rfl) ?_ ?_)
    .intro J hJ;rcases hZ hs with rfl|rfl|rfl|rfl|rfl <;>
     (refine qR [.n 0 i] 3 [28,31,1,1] λe5 d4 f6 a6=>?_;exact qB [true,true,true] λz K0 K=>hJ _ _ _ z _ ⟨rfl,rfl,trivial,a6⟩ K)
    rintro d3 f5 _ g3 _ ⟨rfl,rfl,_,F⟩;refine qR [] 2 [] λe6 b0 b9 G=>?_;rw[show p.take (Let.mk H src q b bW a c cx)=Nod.lr { (p.dW 0 cx)with bt:={ (p.dW 0 cx).bt.rC src a with bw:=upN (p.dW 0 cx).bt.bw src cx.length } }from by unfold Nod.take;rw[Y];exact if_neg (by rintro(h|h|h);exact h1 h;exact h2 h;exact h3 h)];refine Ad λK=>?_;have M:=((E.nil ([.n 0 i]:List Tg)).trans (F)).n G;have a4:NS i nb ob b0 b9 ({ (p.dW 0 cx)with bt:={ (p.dW 0 cx).bt.rC src a with bw:=upN (p.dW 0 cx).bt.bw src cx.length } }) ls ts:=⟨a1,A,C,K.sA 1 S M,V.ch M (hn:=by simp<;>omega),K.new⟩;refine qS0 1 [true,false,false] (F8 a4 (hB.ch ((((((((((((c1.nil (TN i)).trans (D)).n d).n j).n k).n m).n o).n u).trans (P)).n E).trans (F.mono (by simp[TN]))).n G) (Bg i)) hT hb) λd5 f7 f9 c0 c3 U W a7=>qR [] 1 [] λe7 d6 f8 Q=>qF U W Q ((((((((((((((c1.nil (TN i)).trans (D)).n d).n j).n k).n m).n o).n u).trans (P)).n E).trans (F.mono (by simp[TN]))).n G).trans (a7)).n Q)
def tkG:Nat->FuncId
 | 0=>73
 | 1=>74
 | 2=>75
 | 3=>76
 | 4=>77
 | 5=>78
 | _=>79
def tkV(k:Nat):Value:=.func (.func (tkG k)) #[] #[]
def tkL(j:Nat):List MapEntry:=(List.range j).map λ(k:Nat)=>{ key:=iv (k:Int),val:=tkV k,born:=k }
structure TkAt(g:Gh)(w:World)(b j:Nat):Prop where
 t:g.t b=.n 70 0
 k:g.k b=0
 row:w.heap[b]?=some (.map (tkL j).toArray j)
theorem TkAt.ch{B:Nat}{T:List Tg}{d:Gh}{e:World}(h:TkAt g w b j)(c:Cg B T g w d e)(hn:Tg.n 70 0∉T:=by simp):TkAt d e b j :=
 have a:=c.rc h.row h.t hn
 ⟨a.2.1,a.2.2.trans h.k,a.1⟩
theorem aE(h:k<7):k=0\/k=1\/k=2\/k=3\/k=4\/k=5\/k=6:=by omega
theorem Rn(a:Bool)(k:Nat)(w:World):(Instr.checkKey a 10000 168 (iv (k:Int))).run prog w=.ok () w:=by kernel_rfl
theorem fc(h:j<7)(w:World):(Instr.findKey 168 (iv (j:Int)) (tkL j)).run prog w=.ok none w:=by
 rcases aE h with rfl|rfl|rfl|rfl|rfl|rfl|rfl<;>kernel_rfl
theorem fb(h:j<7)(w:World):(Instr.findKey 168 (iv (j:Int)) (tkL 7)).run prog w=.ok (some (j,tkV j)) w:=by
 rcases aE h with rfl|rfl|rfl|rfl|rfl|rfl|rfl<;>kernel_rfl
theorem jz(h:TkAt g w b j)(e:j<7):∃ w',(Instr.mapUpdate 116 (.map (some b)) (iv (j:Int)) (tkV j)).run prog w=.ok () w'/\TkAt g w' b (j+1)/\(∀ B T,Tg.n 70 0∈T->Cg B T g w g w')/\w'.heap.size=w.heap.size:=by
 have d:(getObj b).run prog w=.ok (.map (tkL j).toArray j) w:=by simp[getObj,Sem.run,h.row]
 have f:=MapKept.run_setObj_map (P:=prog) (w:=w) (.map (tkL (j+1)).toArray (j+1)) h.row;have c:((tkL j).toArray.push { key:=iv (j:Int),val:=tkV j,born:=j })=(tkL (j+1)).toArray:=by simp[tkL,List.range_succ]
 refine⟨_,?_,⟨h.t,h.k,ChangeMaps.heap_setBlock_same h.row (.map (tkL (j+1)).toArray (j+1))⟩,λB T a=>Cg.block h.row h.t h.k a _,by simp[ChangeMaps.setBlock]⟩;rw[Instr.mapUpdate];simp only[Sem.run_bind,run_underlying underlying116,Result.andThen_ok,d,Rn,fc e,c,f];rfl
theorem rTk(a:w.heap[b]?=some (.map (tkL 7).toArray 7))(d:k<7):(Instr.lookup 116 (.map (some b)) (iv (k:Int)) false).run prog w=.ok (tkV k) w:=by
 have c:(getObj b).run prog w=.ok (.map (tkL 7).toArray 7) w:=by simp[getObj,Sem.run,a]
 simp[Instr.lookup,run_underlying underlying116,c,Rn,fb d]
end
section
variable{fn:Func}{R:Ending->World->Prop}{B:Nat}{T:List Tg}{g:Gh}{w:World}
theorem ki{s:Xs}(d:Nat)(c:Dw s d=some (Instr.makeMap 116 none>>=λv=>pure (.value v)))
  (e:(nxt s d undef s.L).o.map Ob.l'=(nxt s d undef s.L).o.map Ob.r')
  (p:∀ b g' w',w.heap.size<=b->TkAt g' w' b 0->(∀ B T,Cg B T g w g' w')->(∀ b,w'.heap.size<=b->g'.t b=.z/\g'.k b=0)->GG prog fn R B T (nxt s d (.map (some b)) s.L).s g' w'):GG prog fn R B T s g w:=by
 refine L5 d s.L e (BO c) λl r j o f=>?_;have q:(Instr.makeMap 116 none).run prog w=.ok (.map (some w.heap.size)) (w.alloc (.map #[] 0)):=by
  simp[Instr.makeMap,go_sem]
 have h:∀ B T,Cg B T g w (OF g w (.n 70 0) 0) (w.alloc (.map #[] 0)):=λB T =>
  ⟨rfl,rfl,rfl,by simp,λb a=>.inl (if_neg (by omega)),λb a=>by show _<=(if b=w.heap.size then _ else g.k b);rw[if_neg (by omega)];exact A' _,λb a _ _=>if_neg (by omega),λb a _ _=>heap_alloc_old w _ a,λb a j u=>World.cell?_of_block (w:=w) (heap_alloc_old w _ a)⟩
 have i:∀ b,(w.alloc (.map #[] 0)).heap.size<=b->(OF g w (.n 70 0) 0).t b=.z/\(OF g w (.n 70 0) 0).k b=0:=λb a=>by
  have m:w.heap.size+1<=b:=by simpa using a
  show(if b=w.heap.size then _ else g.t b)=.z/\(if b=w.heap.size then _ else g.k b)=0;rw[if_neg (by omega),if_neg (by omega)];exact l.new b (by omega)
 refine⟨.map (some w.heap.size),_,OF g w (.n 70 0) 0,.inl ?_,l.ch (h _ []) i (by simp),p _ _ _ (A' _) ⟨if_pos rfl,if_pos rfl,heap_alloc_new _ _⟩ h i⟩;rw[Dn c f,Sem.run_bind,q,Result.andThen_ok];rfl
theorem Hb{s:Xs}(c:Nat){b j:Nat}(h:TkAt g w b j)(u:j<7)(a:Dw s c=some (Instr.mapUpdate 116 (.map (some b)) (iv (j:Int)) (tkV j)>>=λ_=>pure .skip))
  (d:(nxt s c undef s.L).o.map Ob.l'=(nxt s c undef s.L).o.map Ob.r')(r:s.L.all (λy=>[Tg.n 70 0].all λt=>y.t.ne t)=true)
  (v:∀ w',TkAt g w' b (j+1)->(∀ B T,Tg.n 70 0∈T->Cg B T g w g w')->GG prog fn R B T (nxt s c undef s.L).s g w'):GG prog fn R B T s g w:=by
 refine L5 c s.L d (BO a) λk A i o e=>?_;obtain⟨w',x,p,f,q⟩:=jz h u;refine⟨undef,w',g,.inr ⟨?_,rfl⟩,k.ch (f _ [Tg.n 70 0] (U'.2 rfl)) (λb m=>k.new b (by rw[q]at m;exact m)) r,v w' p f⟩;rw[Dn a e,Sem.run_bind,x,Result.andThen_ok];rfl
end
def TM:List Tg:=[0,1,2,3,4].flatMap TN
theorem EZ:Tg.z∉TM:=by simp[TM,TN]
theorem jF{i:Nat}(a:i<5):∀ t∈TN i,t∈TM:=λt b=>pu.2 ⟨i,by rcases hZ a with rfl|rfl|rfl|rfl|rfl<;>simp,b⟩
theorem jG{i j r:Nat}(h:j≠i)(a:r<6):Tg.n r j∉TN i:=by simp[TN];omega
def mtA(nb:Nat->Nat)(ob tb:Nat):Array Value:=#[pt (nb 0) 0,pt (nb 1) 0,pt (nb 2) 0,pt (nb 3) 0,pt (nb 4) 0,pt ob 0,.map (some tb)]
structure MS(mb tb ob:Nat)(nb:Nat->Nat)(g:Gh)(w:World)(M:Meet):Prop where
 box:Box g w mb (mtA nb ob tb) 121
 tk:TkAt g w tb 7
 ao:∀ i,i<5->∃ x,NodeAt g w i (nb i) ob x (M.ao i)
 out:∃ lt tl,OutAt g w ob lt tl M.bN M.cF
 new:IR g w
def MP(mb tb ob:Nat)(nb:Nat->Nat)(g:Gh)(w:World)(v:Value)(M:Meet):Ending->World->Prop:=λe w'=>∃ g',e=.returned v/\MS mb tb ob nb g' w' M/\Cg w.heap.size TM g w g' w'
section
variable{mb tb ob i:Nat}{nb:Nat->Nat}{g g':Gh}{w w':World}{M:Meet}
theorem MS.ns(h:MS mb tb ob nb g w M)(a:i<5):NS i (nb i) ob g w (M.ao i) M.bN M.cF :=
 let ⟨x,hx⟩:=h.ao i a
 let ⟨lt,tl,ho⟩:=h.out
 ⟨x,lt,tl,hx,ho,h.new⟩
theorem MS.lp{B:Nat}(h:MS mb tb ob nb g w M)(c:Cg B [] g w g' w')(b:IR g' w'):MS mb tb ob nb g' w' M :=
 ⟨h.box.ch c,h.tk.ch c,λi a=>let ⟨x,hx⟩:=h.ao i a;⟨x,hx.ch c⟩,let ⟨lt,tl,ho⟩:=h.out;⟨lt,tl,ho.ch c⟩,b⟩
theorem MS.of{B:Nat}(h:MS mb tb ob nb g w M)(q:i<5){p:Nod}{a:List Let}{b:List Tol}(m:NS i (nb i) ob g' w' p a b)(c:Cg B (TN i) g w g' w'):MS mb tb ob nb g' w' ⟨upN M.ao i p,a,b⟩:=by
 obtain⟨x,lt,o,d,f,k⟩:=m;refine⟨h.box.ch c (Bg i),h.tk.ch c (by simp[TN]),λj l=>?_,⟨lt,o,f⟩,k⟩;by_cases e:j=i
 .subst e;exact⟨x,by show NodeAt g' w' j (nb j) ob x (upN M.ao j p j);rw[j1];exact d⟩
 .obtain⟨y,hy⟩:=h.ao j l;exact⟨y,by show NodeAt g' w' j (nb j) ob y (upN M.ao i p j);rw[j2 _ _ e];exact hy.ch c (Bg i) λr n=>jG e n⟩
theorem MS.call(h:MS mb tb ob nb g w M)(b:i<5){f:FuncId}{a:Array Value}{v:Value}{p:Nod}{d:List Let}{j:List Tol}(l:Calls prog f a w (NP i (nb i) ob g w v p d j)):Calls prog f a w (MP mb tb ob nb g w v ⟨upN M.ao i p,d,j⟩) :=
 l.mono λe o ⟨k,m,n,c⟩=>⟨k,m,h.of b n c,c.mono (jF b)⟩
theorem UG{W:World}(b:W.heap[mb]?=some (.cells (mtA nb ob tb) 121)){j:Nat}(a:j<5):W.cell? ⟨mb,j,none⟩=some (pt (nb j) 0):=by
 rcases hZ a with rfl|rfl|rfl|rfl|rfl<;>(rw[cell_of_row _ _ _ _ _ _ b];rfl)
end
end Go.Proofs.YtdjfdfpkkenjbabGreatDoor
