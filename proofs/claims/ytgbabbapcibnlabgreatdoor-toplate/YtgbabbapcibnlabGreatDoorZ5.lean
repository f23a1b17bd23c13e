/- Part 5 of the walk. -/
import Derived.Test.YtgbabbapcibnlabGreatDoorZ4
set_option maxRecDepth 100000
set_option maxHeartbeats 4000000
open Go.Proofs.Tryz
set_option linter.unusedVariables false
namespace Go.Proofs.YtgbabbapcibnlabGreatDoor
open Go.RowKit
section
def cmG(c:Cmd):Value:=.agg #[iv c.k,iv c.c,iv c.s,iv c.n,iv c.v]
theorem Uk(x:Cmd × Bal × Nat):(mkA x).key=cmG x.1:=rfl
theorem XU(u v:Cmd)(w:World):(Op.equal 49 (cmG u) (cmG v)).run prog w=.ok (decide (u=v)) w:=by
 have a:=TU u.k u.c u.s u.n u.v v.k v.c v.s v.n v.v w;rw[O8]at a
 rw[run_eql_struct]at a
 show(Op.equalIn 10000 _ _ _).run _ _=_;simp only[cmG];cases hr:(Op.equalIn 10000 49 (.agg #[iv u.k,iv u.c,iv u.s,iv u.n,iv u.v]) (.agg #[iv v.k,iv v.c,iv v.s,iv v.n,iv v.v])).run prog w with
 | ok b w'=>simp only[hr]at a;simp[Result.andThen]at a;rw[a.1,a.2]
 | _=>simp only[hr]at a;simp[Result.andThen]at a
abbrev Ask:=Cmd × Bal × Nat
def Lk(v:Cmd):List Ask->Nat->Option (Nat × Value)
 | [],_=>none
 | x::c,i=>if v=x.1 then some (i,(mkA x).val)else Lk v c (i+1)
theorem Nj(v:Cmd)(w:World):∀ (c:List Ask) (i:Nat),(Instr.findAsking 49 (cmG v) (c.map mkA) i).run prog w=.ok (Lk v c i) w
 | [],i=>by simp[Instr.findAsking,Lk]
 | x::c,i=>by
  have h:=XU v x.1 w;rw[mN,Instr.findAsking,Sem.run_bind];rw[Uk,h,Result.andThen_ok,Lk];by_cases e:v=x.1
  .rw[O' e,if_pos e];rfl
  .rw[E' e,if_neg e];simpa using Nj v w c (i+1)
theorem GI(v:Cmd)(w:World)(c:List Ask):(Instr.findKey 49 (cmG v) (c.map mkA)).run prog w=.ok (Lk v c 0) w:=by
 rw[Instr.findKey,Sem.run_bind,run_underlying underlying49 w,Result.andThen_ok];cases c with
 | nil=>simp[Instr.findNow,Lk]
 | cons x c =>
  show Sem.run _ (match(none:Option (Option (Nat × Value)))with|some r=>pure r|none=>Instr.findAsking 49 (cmG v) ((x::c).map mkA)) w=_;exact Nj v w (x::c) 0
theorem ET(a:Bool)(v:Cmd)(w:World):(Instr.checkKey a 10000 49 (cmG v)).run prog w=.ok () w:=by
 obtain⟨k,c,q,m,x⟩:=v;kernel_rfl
theorem dX(v:Cmd)(n:Nat):Instr.sameBits (n+1) (cmG v) (cmG v)=true:=by simp[Instr.sameBits,cmG]
theorem ZT(v:Cmd)(w:World):(Instr.keyThatStays (cmG v) (cmG v)).run prog w=.ok (cmG v) w:=by
 rw[Instr.keyThatStays,if_pos (dX v 9999)];rfl
def FW(c:List Ask)(v:Cmd):Option Bal:=(c.find? λx=>decide (v=x.1)).map (·.2.1)
theorem K9(v:Cmd):∀ (c:List Ask) (i:Nat),(Lk v c i=none/\FW c v=none/\∀ x∈c,v≠x.1)\/∃ a x b,c=a++x::b/\x.1=v/\(∀ y∈a,v≠y.1)/\Lk v c i=some (i+a.length,(mkA x).val)/\FW c v=some x.2.1
 | [],i=>.inl ⟨rfl,rfl,λx hx=>by cases hx⟩
 | x::c,i=>by
  by_cases e:v=x.1
  .refine .inr ⟨[],x,c,rfl,e.symm,λy hy=>(Q' hy).elim,?_,?_⟩
   .rw[Lk,if_pos e];rfl
   .simp[FW,e]
  .rcases K9 v c (i+1)with⟨h1,h2,h3⟩|⟨a,y,b,rfl,hy,h3,h4,h5⟩
   .refine .inl ⟨by rw[Lk,if_neg e,h1],?_,λy hy=>?_⟩
    .rw[<- h2];simp[FW,e]
    .rcases mn.1 hy with rfl|hy
     .exact e
     .exact h3 y hy
   .refine .inr ⟨x::a,y,b,rfl,hy,λz hz=>?_,?_,?_⟩
    .rcases mn.1 hz with rfl|hz
     .exact e
     .exact h3 z hz
    .rw[Lk,if_neg e,h4];simp;omega
    .rw[<- h5];simp[FW,e]
def Ke(b:Bal):Value:=.agg #[iv b.r,iv b.n]
variable{b:Nat}{f:Cmd->Option Bal}{g:Gh}{w:World}{τ:Tg}
theorem fD(h:AskAt g w τ b f)(v:Cmd)(ok:Bool):(Instr.lookup 90 (.map (some b)) (cmG v) ok).run prog w=.ok (if ok then .tuple #[Ke ((f v).getD Bb),.bool (f v).isSome]else Ke ((f v).getD Bb)) w:=by
 obtain⟨_,_,c,k,j,_,_,_,l⟩:=h;have e:f v=FW c v:=l v;have i:(getObj b).run prog w=.ok (.map (c.map mkA).toArray k) w:=by simp[getObj,Sem.run,j]
 rcases K9 v c 0 with⟨h1,h2,_⟩|⟨a,x,d,_,_,_,h1,h2⟩
 .rw[h2]at e
  cases ok<;>simp[Instr.lookup,run_underlying underlying90,i,ET,GI,h1,e,Ke,Bb]
 .rw[h2]at e
  cases ok<;>simp[Instr.lookup,run_underlying underlying90,i,ET,GI,h1,e,mkA,Ke]
theorem Cg.block{B:Nat}{T:List Tg}{m:Array MapEntry}{k:Nat}(f:w.heap[b]?=some (.map m k))(r:g.t b=τ)(q:g.k b=0)(d:τ∈T)(o:Obj):Cg B T g w g (ChangeMaps.setBlock w b o) :=
 have c:∀ a,g.t a∉T->a≠b:=λa h e=>h (by rw[e,r];exact d)
 ⟨rfl,rfl,rfl,by simp[ChangeMaps.setBlock],λ_ _=>.inl rfl,λ_ _=>A' _,λ_ _ _ _=>rfl,λa _ h _=>ChangeMaps.heap_setBlock_other f o (c a h),
  λa _ j p=>World.cell?_of_block (w:=w) (ChangeMaps.heap_setBlock_other f o (λe=>by have i:a=b:=e;rw[i,q]at p;omega))⟩
theorem Vm(c:List Ask)(v u:Cmd)(x:Bal)(k:Nat)(h:∀ y∈c,v≠y.1):FW (c++[(v,x,k)]) u=if u=v then some x else FW c u:=by
 unfold FW;rw[nG];by_cases e:u=v
 .subst e;have a:c.find? (λy=>decide (u=y.1))=none:=by
   rw[nu];intro y b;simp[h y b]
  simp[a]
 .rw[if_neg e];simp[e]
theorem XX(a d:List Ask)(v u:Cmd)(x y:Bal)(k:Nat)(h:∀ y∈a,v≠y.1):FW (a++(v,y,k)::d) u=if u=v then some y else FW (a++(v,x,k)::d) u:=by
 unfold FW;rw[nG,nG,oI,oI];by_cases e:u=v
 .subst e;have b:a.find? (λy=>decide (u=y.1))=none:=by
   rw[nu];intro y c;simp[h y c]
  simp[b]
 .rw[if_neg e];simp[e]
theorem XY(a d:List Ask)(v u:Cmd)(x:Bal)(k:Nat)(h:∀ y∈a,v≠y.1)(f:∀ y∈d,v≠y.1):FW (a++d) u=if u=v then none else FW (a++(v,x,k)::d) u:=by
 unfold FW;rw[nG,nG,oI];by_cases e:u=v
 .subst e;have g:a.find? (λy=>decide (u=y.1))=none:=by
   rw[nu];intro y c;simp[h y c]
  have b:d.find? (λy=>decide (u=y.1))=none:=by
   rw[nu];intro y c;simp[f y c]
  simp[g,b]
 .rw[if_neg e];simp[e]
theorem bC(h:AskAt g w τ b f)(v:Cmd)(x:Bal):∃ w',(Instr.mapUpdate 90 (.map (some b)) (cmG v) (Ke x)).run prog w=.ok () w'/\AskAt g w' τ b (BU f v (some x))/\(∀ B T,τ∈T->Cg B T g w g w')/\w'.heap.size=w.heap.size:=by
 obtain⟨s,j,c,k,l,m,n,o,E⟩:=h;have F:(getObj b).run prog w=.ok (.map (c.map mkA).toArray k) w:=by simp[getObj,Sem.run,l]
 rcases K9 v c 0 with⟨h1,h2,h3⟩|⟨a,y,d,rfl,hy,h3,h1,h2⟩
 .have C:=MapKept.run_setObj_map (P:=prog) (w:=w) (.map ((c++[(v,x,k)]).map mkA).toArray (k+1)) l;refine⟨_,?_,⟨s,j,c++[(v,x,k)],k+1,ChangeMaps.heap_setBlock_same l (.map ((c++[(v,x,k)]).map mkA).toArray (k+1)),?_,?_,?_,?_⟩,λB T t=>Cg.block l s j t _,by simp[ChangeMaps.setBlock]⟩
  .have z:((c.map mkA).toArray.push { key:=cmG v,val:=Ke x,born:=k })=((c++[(v,x,k)]).map mkA).toArray:=by simp[mkA,cmG,Ke,cmV]
   rw[Instr.mapUpdate];simp only[Sem.run_bind,run_underlying underlying90,Result.andThen_ok,F,ET,GI,h1,z,C];rfl
  .intro y hy;rcases P'.1 hy with hy|hy
   .have:=m y hy;omega
   .obtain rfl:y=(v,x,k):=by simpa using hy
    show k<k+1;omega
  .rw[mB,oc];refine⟨n,by simp,?_⟩;intro p A q r;obtain⟨y,hy,rfl⟩:=mA.1 A;obtain rfl:q=k:=by simpa using r
   have:=m y hy;omega
  .rw[mB,oc];refine⟨o,by simp,?_⟩;intro p A q r;obtain⟨y,hy,rfl⟩:=mA.1 A;obtain rfl:q=v:=by simpa using r
   exact λe=>h3 y hy e.symm
  .intro u;rw[show(List.find? (λx=>decide (u=x.1)) (c++[(v,x,k)])).map (·.2.1)=FW (c++[(v,x,k)]) u from rfl,Vm c v u x k h3];unfold BU;split
   .rfl
   .exact E u
 .obtain⟨yv,yb,yk⟩:=y;simp only at hy;subst hy;have C:=MapKept.run_setObj_map (P:=prog) (w:=w) (.map ((a++(yv,x,yk)::d).map mkA).toArray k) l;refine⟨_,?_,⟨s,j,a++(yv,x,yk)::d,k,ChangeMaps.heap_setBlock_same l (.map ((a++(yv,x,yk)::d).map mkA).toArray k),?_,?_,?_,?_⟩,λB T t=>Cg.block l s j t _,by simp[ChangeMaps.setBlock]⟩
  .have hx:((a++(yv,yb,yk)::d).map mkA).toArray[a.length]?=some (mkA (yv,yb,yk)):=by simp
   have z:(((a++(yv,yb,yk)::d).map mkA).toArray.modify a.length λe=>{ e with key:=cmG yv,val:=Ke x })=((a++(yv,x,yk)::d).map mkA).toArray:=by
    apply nK;intro i;rw[oJ];split
    .rename_i hi
     subst hi;simp[mkA,cmG,Ke,cmV]
    .rename_i hi
     simp only[m7,mB,mN];rcases mY i a.length with g|g
     .rw[mt (by simpa using g),mt (by simpa using g)]
     .rw[mx (by simpa using g),mx (by simpa using g)];obtain⟨q,r⟩:∃ q,i-(a.map mkA).length=q+1:=⟨i-a.length-1,by simp;omega⟩;rw[r];rfl
   have D:=ZT yv w;rw[Instr.mapUpdate];simp only[Sem.run_bind,run_underlying underlying90,Result.andThen_ok,F,ET,GI,h1,mT,hx,mZ,pY];rw[Uk,D,Result.andThen_ok,z,C];rfl
  .intro y hy;rcases P'.1 hy with hy|hy
   .exact m y (mi _ hy)
   .rcases mn.1 hy with rfl|hy
    .exact m (yv,yb,yk) (by simp)
    .exact m y (mh _ (I' _ hy))
  .simpa using n
  .simpa using o
  .intro u;rw[show(List.find? (λx=>decide (u=x.1)) (a++(yv,x,yk)::d)).map (·.2.1)=FW (a++(yv,x,yk)::d) u from rfl,XX a d yv u yb x yk h3];unfold BU;split
   .rfl
   .exact E u
theorem bB(h:AskAt g w τ b f)(v:Cmd)(A:TypeId):∃ w',(Builtin.delete_ #[90,49] A #[.map (some b),cmG v]).run prog w=.ok (.tuple #[]) w'/\AskAt g w' τ b (BU f v none)/\(∀ B T,τ∈T->Cg B T g w g w')/\w'.heap.size=w.heap.size:=by
 obtain⟨n,j,c,k,l,p,m,i,s⟩:=h;have t:(getObj b).run prog w=.ok (.map (c.map mkA).toArray k) w:=by simp[getObj,Sem.run,l]
 rcases K9 v c 0 with⟨h1,h2,h3⟩|⟨a,y,d,rfl,hy,h3,h1,h2⟩
 .have q:=MapKept.run_setObj_map (P:=prog) (w:=w) (.map (c.map mkA).toArray k) l;refine⟨_,?_,⟨n,j,c,k,ChangeMaps.heap_setBlock_same l (.map (c.map mkA).toArray k),p,m,i,?_⟩,λB T o=>Cg.block l n j o _,by simp[ChangeMaps.setBlock]⟩
  .simp[Builtin.delete_,run_underlying underlying90,t,ET,GI,h1,q];rfl
  .intro u;unfold BU;split
   .rename_i e;rw[e];exact h2.symm
   .exact s u
 .obtain⟨yv,yb,yk⟩:=y;simp only at hy;subst hy;have q:=MapKept.run_setObj_map (P:=prog) (w:=w) (.map ((a++d).map mkA).toArray k) l;have z:∀ y∈d,yv≠y.1:=by
   intro y hy e;rw[mB,mN,oc]at i
   exact(oe.1 i.2.1).1 (mA.2 ⟨y,hy,e.symm⟩)
  refine⟨_,?_,⟨n,j,a++d,k,ChangeMaps.heap_setBlock_same l (.map ((a++d).map mkA).toArray k),?_,?_,?_,?_⟩,λB T o=>Cg.block l n j o _,by simp[ChangeMaps.setBlock]⟩
  .have he:(((a++(yv,yb,yk)::d).map mkA).toArray.eraseIdxIfInBounds a.length)=((a++d).map mkA).toArray:=by
    rw[Array.eraseIdxIfInBounds,dif_pos (by simp)];simp[List.eraseIdx_append_of_length_le]
   have r:=GI yv w (a++(yv,yb,yk)::d);rw[h1,mT]at r
   simp only[Builtin.delete_,m7,nt,oY,Sem.run_bind,run_underlying underlying90,Result.andThen_ok,t,ET,r,he,q];rfl
  .intro y hy;rcases P'.1 hy with hy|hy
   .exact p y (mi _ hy)
   .exact p y (mh _ (I' _ hy))
  .rw[mB,mN]at m
   rw[mB];exact m.sublist (List.Sublist.append_left (List.sublist_cons_self _ _) _)
  .rw[mB,mN]at i
   rw[mB];exact i.sublist (List.Sublist.append_left (List.sublist_cons_self _ _) _)
  .intro u;rw[show(List.find? (λx=>decide (u=x.1)) (a++d)).map (·.2.1)=FW (a++d) u from rfl,XY a d yv u yb yk h3 z];unfold BU;split
   .rfl
   .exact s u
end
section
variable{fn:Func}{R:Ending->World->Prop}{B:Nat}{T:List Tg}{g:Gh}{w:World}
section
variable{b:Nat}{f:Cmd->Option Bal}{g:Gh}{s:Xs}{w:World}{τ:Tg}
theorem Zs(h:AskAt g w τ b f)(v:Cmd):(Instr.lookup 90 (.map (some b)) (cmG v) true).run prog w=.ok (.tuple #[Ke ((f v).getD Bb),.bool (f v).isSome]) w:=fD h v true
theorem i8(h:AskAt g w τ b f)(v:Cmd):(Instr.lookup 90 (.map (some b)) (cmG v) false).run prog w=.ok (Ke ((f v).getD Bb)) w:=fD h v false
theorem TY(c:Nat){τ:Tg}{b:Nat}{f:Cmd->Option Bal}(v:Cmd)(x:Bal)(h:AskAt g w τ b f)(a:Dw s c=some (Instr.mapUpdate 90 (.map (some b)) (cmG v) (Ke x)>>=λ_=>pure .skip))(d:(nxt s c undef s.L).o.map Ob.l'=(nxt s c undef s.L).o.map Ob.r')(r:s.L.all (λy=>[τ].all λt=>y.t.ne t)=true)(u:∀ w',AskAt g w' τ b (BU f v (some x))->(∀ B T,τ∈T->Cg B T g w g w')->GG prog fn R B T (nxt s c undef s.L).s g w'):GG prog fn R B T s g w:=by
 refine Lq c s.L d (Cj a) λk C i o e=>?_;obtain⟨w',A,p,j,q⟩:=bC h v x;refine⟨undef,w',g,.inr ⟨?_,rfl⟩,k.ch (j _ [τ] (D'.2 rfl)) (λb m=>k.new b (by rw[q]at m;exact m)) r,u w' p j⟩;rw[DB a e,Sem.run_bind,A,Result.andThen_ok];rfl
theorem cD(c:Nat){τ:Tg}{b:Nat}{f:Cmd->Option Bal}(v:Cmd)(p:TypeId)(h:AskAt g w τ b f)(a:Dw s c=some (Builtin.delete_ #[90,49] p #[.map (some b),cmG v]>>=λv=>pure (.value v)))(d:(nxt s c undef s.L).o.map Ob.l'=(nxt s c undef s.L).o.map Ob.r')(u:s.L.all (λy=>[τ].all λt=>y.t.ne t)=true)(x:∀ w',AskAt g w' τ b (BU f v none)->(∀ B T,τ∈T->Cg B T g w g w')->GG prog fn R B T (nxt s c (.tuple #[]) s.L).s g w'):GG prog fn R B T s g w:=by
 refine Lq c s.L d (Cj a) λk C i o e=>?_;obtain⟨w',A,q,j,r⟩:=bB h v p;refine⟨.tuple #[],w',g,.inl ?_,k.ch (j _ [τ] (D'.2 rfl)) (λb m=>k.new b (by rw[r]at m;exact m)) u,x w' q j⟩;rw[DB a e,Sem.run_bind,A,Result.andThen_ok];rfl
end
end
section
def TO:List Tg:=[.n 50 0,.n 51 0,.n 52 0]
variable{b born i j k n nb ob:Nat}{es:Array MapEntry}{g:Gh}{l:Let}{ls:List Let}{p:Nod}{ts:List Tol}{v:Vt}{w w':World}{x:S3}
theorem ZJ{x:NX}{lt t:S3}(C:NodeAt g w i nb ob x p)(s:OutAt g w ob lt t ls ts)(D:IS g w)(Q:ls.length<100000000)(l:Let)(m o:S3)(E:FSv g w m l.lp)(F:Rc g w o l.fa)(to:Nat) :
  Calls prog 84 #[pt nb 0,iv (to:Int),.agg (F7 l m o)] w λe w'=>∃ g' lt',e=.returned (.tuple #[])/\OutAt g' w' ob lt' t (ls++[{ l with src:=i,dst:=to }]) ts/\Cg w.heap.size TO g w g' w'/\IS g' w':=by
 obtain⟨B,u,j⟩:=s.br;have k:lt.n=ls.length:=by have:=u.len;have:=j.len;simp at *;omega
 refine gI (fn:=f84) TO g func84 D (qN C (qO s (qR [] 29 [0,0,0,2,0,2,0,15,0,2,4,6,0,8,10,12,14,0,16,18,20,1,23,0,0] λd N S a=>Kj 12 (x:=lt) 65 65 143 1 8 (.pointer none) ⟨(d 1),0,none⟩ 1 1 [pt (d 0) 0] (u.ch a) (by kernel_rfl) (by kernel_rfl) (by kernel_rfl) underlying65 (by kernel_rfl) (by kernel_rfl) (by decide) (by decide) rfl (by simp[Value.oneCell']) (λK=>BR K 3 (d 1) [pt (d 0) 0] 143 .z true (by kernel_rfl)) (by rw[k];unfold maxLen;omega) (by rw[k];omega) ?_)));intro y O T A R q M;have h:=q w.heap.size [.n 51 0] (D'.2 rfl);refine qR [.n 50 0] 4 [26,28,31,1,1] λs3 P U b=>qE (.tuple #[]) λK=>?_;obtain⟨G,H,I⟩:=K.rh 1 ob (.cells #[S3.v y,S3.v t] 67) 50 0 (by kernel_rfl);obtain⟨J,L⟩:=K.ra 2 (d 0) (.cells (F7 { l with src:=i,dst:=to } m o) 142) false (by kernel_rfl);have c:∀ r,Tg.z∉[Tg.n r 0]:=λr=>by simp
 refine⟨_,y,rfl,⟨G,H,I,⟨B++[(d 0)],?_,?_⟩,(((s.eo.ch a).ch h).ch b)⟩,(((a.nil TO).trans (h.mono (by simp[TO]))).trans (b.mono (by simp[TO]))),K.new⟩
 .rw[mB];exact A.ch b
 .refine(((j.ch a).ch h (c _)).ch b (c _)).snoc ⟨m,o,⟨J,L⟩,(((E.ch a).ch h (c _)).ch b (c _)),(((F.ch a).ch h (c _)).ch b (c _))⟩
theorem AR(h:NS i nb ob g w p ls ts)(L:p.bu.length<100000000)(e:Fn)(d:Array Value)(q:Pend)(C:KK g w nb (.func e #[] d) q) :
  Calls prog 57 #[pt nb 0,.func e #[] d] w (NP i nb ob g w (.tuple #[]) (p.wait q) ls ts):=by
 obtain⟨x,lt,D,b,t,B⟩:=h;obtain⟨E,u,j⟩:=b.bu;have v:x.synced.n=p.bu.length:=by have:=u.len;have:=j.len;simp at *;omega
 refine gI (fn:=f57) (TN i) g func57 B (qN b (qO t (qR [] 9 [0,0,0] λy H N k=>Kj 8 (x:=x.synced) 79 79 1 1 8 (.nilFunc) ⟨(y 0),0,none⟩ 1 1 [.func e #[] d] (u.ch k) (by kernel_rfl) (by kernel_rfl) (by kernel_rfl) underlying79 (by kernel_rfl) (by kernel_rfl) (by decide) (by decide) rfl (by simp[Value.oneCell']) (λK=>BR K 2 (y 0) [.func e #[] d] 1 .z true (by kernel_rfl)) (by rw[v];unfold maxLen;omega) (by rw[v];omega) ?_)));intro F I O A M r G;have s:=r w.heap.size [.n 1 i] (D'.2 rfl);refine qR [.n 0 i] 5 [0,1] λs3 J P o=>qE (.tuple #[]) λK=>?_;have a:=((k.nil ([.n 1 i,.n 0 i]:List Tg)).m s).m o;have c:Tg.z∉([.n 1 i,.n 0 i]:List Tg):=by simp
 exact⟨_,rfl,⟨{ x with synced:=F },lt,D,K.nd 0 (b.tape.ch a c) (b.lp.ch a c) (BA b.an a c) ⟨E++[.func e #[] d],A.ch o,(j.ch a c).snoc (C.ch a c)⟩ (b.ew.ch a) (b.ae.ch a) (b.bn.ch a) (b.bN.ch a) b.rz,t.ch a c (by simp<;>omega),K.new⟩,(((k.nil (TN i)).trans (s.mono (by simp[TN]))).trans (o.mono (by simp[TN])))⟩
theorem Rd(h:NS i nb ob g w p ls ts)(I:ts.length<100000000)(c:Cmd)(b a:Int) :
  Calls prog 54 #[pt nb 0,.agg (cmC c),.agg #[iv b,iv a]] w (NP i nb ob g w (.tuple #[]) p ls (ts++[⟨i,c.c,c.s,b,a⟩])):=by
 obtain⟨x,lt,v,r,d,C⟩:=h;have t:v.n=ts.length:=by have B:=d.eo.len;rw[G1]at B;omega
 refine gI (fn:=f54) (TN i) g func54 C (qN r (qO d (qR [] 28 [0,0,0,0,25,0,2,4,6,0,8,10,12,14,0,16,18,20,1,22,24,26,28,0,30,32,2,34,36,2,38,3,40,43,0,0] λu F L e=>Kj 22 (x:=v) 32 32 103 5 40 (.agg #[iv 0,iv 0,iv 0,iv 0,iv 0]) ⟨(u 2),0,none⟩ 1 1 [iv (i:Int),iv c.c,iv c.s,iv b,iv a] (d.eo.ch e) (by kernel_rfl) (by kernel_rfl) (by kernel_rfl) underlying32 (by kernel_rfl) (by kernel_rfl) (by decide) (by decide) rfl (by simp[Value.oneCell']) (λK=>BR K 4 (u 2) [iv (i:Int),iv c.c,iv c.s,iv b,iv a] 103 .z true (by kernel_rfl)) (by rw[t];unfold maxLen;omega) (by rw[t];omega) ?_)));intro D G M A J k E;have q:=k w.heap.size [.n 52 0] (D'.2 rfl);refine qR [.n 50 0] 4 [46,48,51,1,1] λs3 H N j=>qE (.tuple #[]) λK=>?_;have o:=((e.nil ([.n 52 0,.n 50 0]:List Tg)).m q).m j;have y:Tg.z∉([.n 52 0,.n 50 0]:List Tg):=by simp
 exact⟨_,rfl,⟨x,lt,D,K.si 0 r o,K.od 1 (DV d.br o y (by simp)) (by rw[List.flatMap_append];exact A.ch j),K.new⟩,(((e.nil (TN i)).trans (q.mono (by simp[TN]))).trans (j.mono (by simp[TN])))⟩
theorem Kx(h:NS i nb ob g w p ls ts)(b:Nat)(l:Let)(o:CK g w b l) :
  Calls prog 46 #[pt nb 0,pt b 0] w (NP i nb ob g w (.tuple #[]) { p with cF:=max p.cF l.fv.r } ls ts):=by
 obtain⟨x,lt,t,j,k,m⟩:=h;refine gI (fn:=f46) (TN i) g func46 m (qN j (qO k ?_));obtain⟨B,E,a,q,s⟩:=o;refine Cl ⟨b,_,.z,false⟩ (λ_=>⟨a.r,a.z,λh=>(by cases h),λh=>absurd rfl h⟩) (by kernel_rfl) ?_;refine qR [] 12 [15,0,2,4,6,8,10,0,12,14,16,18,20,2] λy u C d=>qT 11 (iv (max p.cF l.fv.r)) (λ_=>(jY #[3,3] 3 p.cF l.fv.r)) (qR [.n 0 i] 5 [24,26,28,31,0,1] λA v D e=>qE (.tuple #[]) λK=>?_);have c:=(d.nil ([.n 0 i]:List Tg)).trans (e);exact⟨_,rfl,⟨x,lt,t,K.si 0 j c,k.ch c (hn:=by simp<;>omega),K.new⟩,((d.nil (TN i)).trans (e.mono (by simp[TN])))⟩
theorem FI(h:NS i nb ob g w p ls ts)(o:ls.length<100000000)(l:Let)(b c:S3)(s:FSv g w b l.lp)(t:Rc g w c l.fa)(to:Nat) :
  Calls prog 84 #[pt nb 0,iv (to:Int),.agg (F7 l b c)] w (NP i nb ob g w (.tuple #[]) p (ls++[{ l with src:=i,dst:=to }]) ts):=by
 obtain⟨x,lt,u,f,n,q⟩:=h;refine(ZJ f n q o l b c s t to).mono ?_;rintro e y ⟨j,a,rfl,k,d,m⟩;exact⟨j,rfl,⟨x,a,u,f.ch d (by simp[TO]) (λr v=>by simp[TO];omega),k,m⟩,d.mono (by simp[TO,TN])⟩
def BT(i:Nat)(l:Let)(k:Nat):List Let:=((List.range k).filter λj=>decide (j≠i)).map λto=>{ l with src:=i,dst:=to }
theorem ZM(h:k≠i):BT i l (k+1)=BT i l k++[{ l with src:=i,dst:=k }]:=by unfold BT;rw[og,nL,mB];simp[h]
theorem ZK(h:k=i):BT i l (k+1)=BT i l k:=by unfold BT;rw[og,nL,mB];simp[h]
theorem ZL(i:Nat)(l:Let)(k:Nat):(BT i l k).length<=k:=by unfold BT;rw[mw];exact me (oK _ _) (by simp)
theorem Eq(h:NS i nb ob g w p ls ts)(hb:ls.length<90000000)(l:Let)(D E:S3)(hv:FSv g w D l.lp)(hw:Rc g w E l.fa) :
  Calls prog 60 #[pt nb 0,.agg (F7 l D E)] w (NP i nb ob g w (.tuple #[]) p (ls++BT i l 5) ts):=by
 obtain⟨x,lt,tl,V,W,hg⟩:=h;refine gI (fn:=f60) (TN i) g func60 hg (qN V (qO W (qR [] 9 [0,0] λG g1 w1 Q=>BY 19 [(0,pt nb 0),(3,pt (G 0) 0),(5,iv 0)] [false,false,true] [⟨(G 0),.cells #[iv (l.kind:Int),iv (l.src:Int),iv (l.dst:Int),iv l.fv.r,iv l.fv.n,iv l.cl.bt,iv l.cl.b.r,iv l.cl.b.n,iv l.cl.w.k,iv l.cl.w.c,iv l.cl.w.s,iv l.cl.w.n,iv l.cl.w.v,S3.v D,iv (l.bt:Int),S3.v E] 142,.z,false⟩] (λk T X e L=>∃ j:Nat,k=5-j/\j<=5/\e=[(0,pt nb 0),(3,pt (G 0) 0),(5,iv (j:Int))]/\L=[⟨(G 0),.cells #[iv (l.kind:Int),iv (l.src:Int),iv (l.dst:Int),iv l.fv.r,iv l.fv.n,iv l.cl.bt,iv l.cl.b.r,iv l.cl.b.n,iv l.cl.w.k,iv l.cl.w.c,iv l.cl.w.s,iv l.cl.w.n,iv l.cl.w.v,S3.v D,iv (l.bt:Int),S3.v E] 142,.z,false⟩]/\NS i nb ob T X p (ls++BT i l j) ts/\Cg w.heap.size (TN i) g w T X) (by kernel_rfl) (by kernel_rfl) (by kernel_rfl) (by kernel_rfl) 5 (λK=>?_) ?_)))
 .have C2:=Q;refine⟨0,rfl,by omega,rfl,rfl,?_,Q.nil _⟩;rw[show BT i l 0=[]from rfl,mz];exact(nsC V W C2 K)
 .rintro k gr wr _ zr _ ⟨j,rfl,hj,rfl,rfl,hM,hC⟩ J hJ;have hs:=ZL i l j;obtain⟨xr,a4,a9,a,d,a2⟩:=hM;refine qN a (qO d (qR [] 5 [] λs3 g3 w3 m=>?_));by_cases h1:j<5
  .refine qI (decide ((j:Int)<5)) true (O' (by omega)) (qR [] 17 [1] λs4 g4 w4 y=>?_);by_cases U:(j:Int)≠(i:Int)
   .refine qI (((j:Int) != (i:Int))) true (by simpa using U) (qR [] 4 [0] λs5 g5 w5 M=>?_);have P:=(((hC.n m).n y).n M);refine Ag λK=>?_;have Y:NS i nb ob g5 w5 p (ls++BT i l j) ts:=(nsC a d ((m.n y).n M) K);refine qG 3 (TN i) [true,false,false] (FI Y (by simp;omega) l D E (hv.ch P (Bx i)) (hw.ch P (Bx i)) j) ?_;rintro e' w6 ⟨g6,rfl,I,F⟩;refine⟨_,g6,rfl,F,I.new,?_⟩;replace F:=F.ret (B:=w.heap.size);rw[mf,<- ZM (by omega)]at I
    obtain⟨x6,a3,a8,A,C,a1⟩:=I;refine qN A (qO C (qR [] 3 [] λs8 g8 w8 R=>qV 0 (iv ((j:Int)+1)) (AK 5 (j:Int) underlying3 (by omega)) (qR [] 2 [] λs9 g9 w9 S=>qB [true,false,false] λz H K=>hJ (5-(j+1)) _ _ _ z _ (by omega) ⟨j+1,rfl,by omega,rfl,rfl,?_,((((((hC.n m).n y).n M).trans F).n R).n S)⟩ K)));have o:NS i nb ob g9 w9 p (ls++BT i l (j+1)) ts:=(nsC A C (R.n S) H);exact o
   .refine qI (((j:Int) != (i:Int))) false (by simpa using U) (qR [] 3 [] λa5 Z b0 q=>qV 0 (iv ((j:Int)+1)) (AK 5 (j:Int) underlying3 (by omega)) (qR [] 2 [] λa6 N O t=>qB [true,false,false] λz H K=>hJ (5-(j+1)) _ _ _ z _ (by omega) ⟨j+1,rfl,by omega,rfl,rfl,?_,((((hC.n m).n y).n q).n t)⟩ K));have o:NS i nb ob N O p (ls++BT i l j) ts:=(nsC a d (((m.n y).n q).n t) H);exact(by simpa[ZK (show j=i by omega)]using o)
  .refine qI (decide ((j:Int)<5)) false (E' (by omega)) (qR [] 1 [] λa7 a0 b1 u=>?_);obtain rfl:j=5:=by omega
   exact qF a d (m.n u) ((hC.n m).n u)
theorem NG(h:NS i nb ob g w p ls ts) :
  Calls prog 86 #[pt nb 0] w λe w'=>e=.returned (.bool p.leads)/\Bw w w':=by
 obtain⟨x,lt,z,k,l,m⟩:=h;refine gI (fn:=f86) (TN i) g func86 m (qN k (qO l (qR [] 13 [24,0,2,4,6,8,10,0,12] λs n A b=>?_)));by_cases a:p.av.fv=Bb
 .refine qT 7 (.bool false) (λ_=>(I8 (x:=(.tmp 8)) (y:=(.tmp 9)) p.av.fv Bb a)) (qR [] 17 [16,18,20,22,24,26,28,30,32,34,36,38,40,42,44,46] λt o B c=>qE (.bool false) λK=>⟨(by rw[show p.leads=false from E' (λh=>h.1 a)]),Cg.af (b.trans c) (λ_ _=>Q')⟩)
 .refine qT 7 (.bool true) (λ_=>(I9 (x:=(.tmp 8)) (y:=(.tmp 9)) p.av.fv Bb a)) (qR [] 13 [16,18,20,22,24,26,28,0,30,32,34,36,38,40,0] λu q C d=>qT 21 (.bool (decide (p.av.fv=p.vo.p))) (λ_=>(lG (x:=(.tmp 17)) (y:=(.tmp 23)) p.av.fv p.vo.p)) (qR [] 3 [44,46] λv r D j=>qE (.bool (decide (p.av.fv=p.vo.p))) λK=>⟨(by rw[show p.leads=decide (p.av.fv=p.vo.p)from m9.2 ⟨λh=>h.2,λh=>⟨a,h⟩⟩]),Cg.af ((b.trans d).trans j) (λ_ _=>Q')⟩))
theorem LQ(h:NS i nb ob g w p ls ts)(v:p.bu.length<100000000)(to:Nat)(e:Int) :
  Calls prog 82 #[pt nb 0,iv (to:Int),iv e] w (NP i nb ob g w (.tuple #[]) (p.ed to e) ls ts):=by
 obtain⟨x,lt,N,d,k,y⟩:=h;refine gI (fn:=f82) (TN i) g func82 y (qN d (qO k (qR [] 11 [0,0,0,0] λc I O a=>?_)));by_cases b:e=7
 .refine qI (e != 7) false (by simpa using b) (qR [] 15 [2,0,0,0,4,0,2] λq u B m=>Ag λK=>?_);obtain⟨C,D⟩:=K.ra 2 (c 0) (.cells #[pt nb 0] 70) false (by kernel_rfl);obtain⟨E,F⟩:=K.ra 3 (c 1) (.cells #[iv (to:Int)] 3) false (by kernel_rfl);obtain⟨G,H⟩:=K.ra 4 (q 0) (.cells #[iv p.vo.p.r,iv p.vo.p.n] 75) true (by kernel_rfl);have s:NS i nb ob u B p ls ts:=(nsC d k (a.n m) K);refine qS0 2 [false,false,true,true,true] (AR s v _ _ (.ed to p.vo.p) ⟨(c 0),(c 1),(q 0),rfl,⟨C,D⟩,⟨E,F⟩,⟨G,H⟩⟩) λJ P R z A j l t=>qR [] 1 [] λM L Q o=>qE (.tuple #[]) λK=>?_;rw[show p.ed to e=p.wait (.ed to p.vo.p)from if_pos b];exact⟨_,rfl,(nsC j l o K),((((a.nil (TN i)).n m).trans (t)).n o)⟩
 .refine qI (e != 7) true (by simpa using b) (qE (.tuple #[]) λK=>?_);rw[show p.ed to e=p from if_neg b];exact⟨_,rfl,(nsC d k a K),(a.nil (TN i))⟩
def gh0:Gh:=⟨λ_=>.z,λ_=>0⟩
def Qe(l:List Cmd)(c:Cmd):Int:=if c∈l then(l.idxOf c:Int)else -1
theorem Qf{c:Cmd}:∀ {l:List Cmd} {j:Nat},l[j]?=some c->l.idxOf c<=j
 | [],j,h=>by cases h
 | d::l,0,h=>by simp only[nt,Y']at h;subst h;simp
 | d::l,j+1,h=>by
  have:=Qf (l:=l) (j:=j) (by simpa using h);rw[List.idxOf_cons];cases d==c<;>simp<;>omega
theorem cP(l:List Cmd)(c:Cmd):decide (0<=Qe l c)=decide (c∈l):=by
 unfold Qe;by_cases a:c∈l
 .rw[if_pos a,O' a];exact O' (by omega)
 .rw[if_neg a,E' a];rfl
theorem Yp{l:List Cmd}{c:Cmd}(h:l[j]?=some c)(e:∀ i,i<j->l[i]?≠some c):Qe l c=(j:Int):=by
 have b:c∈l:=mG h;have f:j<l.length:=(V'.1 h).1;unfold Qe;rw[if_pos b]
 congr 1
 have a:l.idxOf c<l.length:=List.idxOf_lt_length_iff.2 b;have d:l[l.idxOf c]?=some c:=by rw[G' a,List.getElem_idxOf a]
 rcases pj (l.idxOf c) j with h3|h3|h3
 .exact absurd d (e _ h3)
 .exact h3
 .have:=Qf h;omega
theorem NC{l:List Cmd}(h:RdC w x l)(Z:l.length<100000000)(c:Cmd) :
  Calls prog 97 #[x.v,.agg #[iv c.k,iv c.c,iv c.s,iv c.n,iv c.v]] w λe w'=>e=.returned (iv (Qe l c))/\Bw w w':=by
 have hn:=h.len;refine gI (fn:=f97) [] gh0 func97 (λ_ _=>⟨rfl,rfl⟩) (qR [] 13 [0,0] λo S w1 C=>BY 19 [(0,S3.v x),(3,pt (o 0) 0),(7,iv (x.n:Int)),(8,iv 0)] [true] [⟨(o 0),.cells #[iv c.k,iv c.c,iv c.s,iv c.n,iv c.v] 49,.z,false⟩] (λk G w' e L=>∃ j:Nat,k=l.length-j/\j<=l.length/\e=[(0,S3.v x),(3,pt (o 0) 0),(7,iv (x.n:Int)),(8,iv (j:Int))]/\L=[⟨(o 0),.cells #[iv c.k,iv c.c,iv c.s,iv c.n,iv c.v] 49,.z,false⟩]/\(∀ i,i<j->l[i]?≠some c)/\Cg w.heap.size [] gh0 w G w') (by kernel_rfl) (by kernel_rfl) (by kernel_rfl) (by kernel_rfl) l.length (λK=>?_) ?_)
 .exact⟨0,rfl,by omega,rfl,rfl,λi d=>absurd d (by omega),C⟩
 .rintro k gr wr _ zr _ ⟨j,rfl,hj,rfl,rfl,hI,hC⟩ J hJ;refine qR [] 5 [] λs2 T w2 g=>?_;by_cases B:j<l.length
  .refine qI ((decide ((j:Int)<(x.n:Int)))) true (O' (by omega)) ?_;obtain⟨a,b⟩:∃ a,l[j]?=some a:=⟨_,G' B⟩;rcases h.ex with h2|⟨bx,ox,hxa,hbx,hcell⟩
   .exact absurd B (by rw[h2];simp)
   refine qR [] 13 [6,0,0,2,4] λs3 U w3 r=>qT 3 (pt bx (ox+5*j)) (λ_=>(LM hxa j (by omega))) ?_;have M:=Cg.af (hC.trans (g.trans r)) (λ_ _=>Q');refine qV 4 (.agg #[iv a.k,iv a.c,iv a.s,iv a.n,iv a.v]) (OY a λi u O=>(M.cell (p:=⟨bx,ox+5*j+i,none⟩) hbx).trans (by rw[m8];exact hcell _ u (O6 b O))) (qT 5 (.bool (decide (c=a))) (λ_=>(lH (x:=(.tmp 11)) (y:=(.tmp 15)) c a)) (qR [] 1 [] λs6 V w6 A=>?_));by_cases m:c=a
   .refine qI (decide (c=a)) true (O' m) (qR [] 5 [] λs7 W w7 D=>qE (iv (j:Int)) λK=>⟨by rw[Yp (by rw[m];exact b) hI],Cg.af (hC.trans (((g.trans r).trans A).trans D)) (λ_ _=>Q')⟩)
   .refine qI (decide (c=a)) false (E' m) (qR [] 3 [] λs8 X w8 E=>qV 0 (iv ((j:Int)+1)) (AK 8 (j:Int) underlying3 (by omega)) (qR [] 2 [] λs9 Y w9 F=>qB [true] λz R K=>hJ (l.length-(j+1)) _ _ _ z _ (by omega) ⟨j+1,rfl,by omega,rfl,rfl,λi d=>?_,hC.trans ((((g.trans r).trans A).trans E).trans F)⟩ K));rcases mY i j with h4|h4
    .exact hI i h4
    .rw[show i=j by omega,b];intro I;exact m (by simpa using I.symm)
  .refine qI ((decide ((j:Int)<(x.n:Int)))) false (E' (by omega)) (qR [] 5 [] λP H Q q=>?_);have t:c∉l:=λN=>by obtain⟨i,d⟩:=nr.1 N;exact hI i (by have:=(V'.1 d).1;omega) d
   exact qE (iv (-1)) λK=>⟨by unfold Qe;rw[if_neg t],Cg.af (hC.trans (g.trans q)) (λ_ _=>Q')⟩
theorem Fu{l:List Cmd}(h:RdC w x l)(o:l.length<100000000)(c:Cmd) :
  Calls prog 52 #[x.v,.agg #[iv c.k,iv c.c,iv c.s,iv c.n,iv c.v]] w λe w'=>e=.returned (.bool (decide (c∈l)))/\Bw w w':=by
 refine gI (fn:=f52) [] gh0 func52 (λ_ _=>⟨rfl,rfl⟩) (qR [] 9 [0,0,0] λr m t d=>?_);have a:=Cg.af d (λ_ _=>Q');refine qC 2 (NC (h.af a) o c) ?_;rintro p u ⟨rfl,b⟩;refine⟨_,rfl,b,?_⟩;have i:=Cg.eb (B:=w.heap.size) (T:=[]) (g:=m) b;refine qR [] 3 [] λs3 q y j=>qE (.bool (decide (0<=Qe l c))) λK=>⟨by rw[cP],Cg.af ((d.trans i).trans j) (λ_ _=>Q')⟩
theorem Ug(h:NS i nb ob g w p ls ts)(l:p.done<=p.ae.length) :
  Calls prog 35 #[pt nb 0] w λe w'=>∃ y:S3,e=.returned y.v/\RdC w' y (p.ae.take p.done)/\Bw w w':=by
 obtain⟨x,lt,t,a,k,m⟩:=h;have q:=a.ae.num;have c:=a.ae.rd;refine gI (fn:=f35) (TN i) g func35 m (qN a (qO k (qR [] 16 [12,0,2,4,6,8,0,10,12,14,16,18,0] λr n u d=>qT 10 (S3.v (x.ae.cut 0 p.done)) (λ_=>(ko x.ae p.done (by have:=c.cap;omega))) (qR [] 2 [22] λs o z j=>?_))));have b:=Cg.af (d.trans j) (λ_ _=>Q');exact qE (S3.v (x.ae.cut 0 p.done)) λK=>⟨_,rfl,(c.af b).take l,b⟩
theorem IK(h:NS i nb ob g w p ls ts)(r:ls.length<100000000)(to bt:Nat)(t:bt<=p.ae.length) :
  Calls prog 94 #[pt nb 0,iv (to:Int),iv (bt:Int)] w (NP i nb ob g w (.tuple #[]) p (ls++[{ BC 5 with src:=i,dst:=to,bt:=bt,fa:=p.ae.drop bt }]) ts):=by
 obtain⟨x,lt,H,a,l,s⟩:=h;have D:=a.ae.num;refine gI (fn:=f94) (TN i) g func94 s (qN a (qO l (qR [] 10 [0] λE A I e=>qV 9 (S3.v (x.ae.cut bt x.ae.n)) (iB x.ae bt (by omega)) (qR [] 1 [] λF q z j=>Ag λK=>?_))));have d:=e.n j;have m:NS i nb ob q z p ls ts:=(nsC a l d K);refine qS0 11 [false,false] (FI m r { BC 5 with bt:=bt,fa:=p.ae.drop bt } s30 (x.ae.cut bt x.ae.n) ⟨Sv.nil _,λh=>absurd rfl h⟩ ((a.ae.rc.drop t).ch d) to) λB J M u y b c o=>qR [] 1 [] λG C L k=>qF b c k ((((e.nil (TN i)).n j).trans (o)).n k)
theorem NH(h:NS i nb ob g w p ls ts)(a:Nat)(b:List Cmd)(e:S3)(t:Rc g w e b)(hs:a<=p.ae.length)(Y:p.ae.length<100000000)(L:b.length<100000000) :
  Calls prog 85 #[pt nb 0,iv (a:Int),e.v] w (NP i nb ob g w (.tuple #[]) (p.jv a b) ls ts):=by
 obtain⟨x,lt,O,d,C,M⟩:=h;have N:=d.ae.num;have hm:=t.len;have D:=t.cap;refine gI (fn:=f85) (TN i) g func85 M (qN d (qO C (qR [] 9 [0] λs1 R w1 q=>qV 7 (iv ((x.ae.n-a:Nat):Int)) (kr (x:=(.tmp 12)) (y:=(.tmp 13)) x.ae.n a underlying3 (by omega) (by omega)) (qR [] 9 [] λs2 S w2 r=>?_))));by_cases X:x.ae.n-a<e.n
 .refine qI ((decide (((x.ae.n-a:Nat):Int)<(e.n:Int)))) true (O' (by omega)) ?_;obtain⟨k,Z⟩:∃ k,k=x.ae.n-a:=⟨_,rfl⟩;have E:k<b.length:=by omega
  obtain⟨G,ow,s⟩:=t.addr E;refine qR [] 9 [13,0,2,4,6,8,10,0,12,14] λs3 T w3 u=>qT 8 (.slice (some ⟨G,ow+5*(x.ae.n-a),none⟩) (e.n-(x.ae.n-a)) (e.c-(x.ae.n-a))) (λ_=>(kl s (x.ae.n-a) (by omega) D)) ?_;have F:=(q.n r).n u;refine Kj 9 (x:=x.ae) 38 38 49 5 40 (.agg #[iv 0,iv 0,iv 0,iv 0,iv 0]) ⟨G,ow+5*(x.ae.n-a),none⟩ (e.n-(x.ae.n-a)) (e.c-(x.ae.n-a)) (cmL (b.drop (x.ae.n-a))) (d.ae.ch F) (by kernel_rfl) (by kernel_rfl) (by kernel_rfl) underlying38 (by kernel_rfl) (by kernel_rfl) (by decide) (by omega) (by rw[BI,mm];omega) (O7 _) (λK=>jJ s (t.ch F) _ (by omega)) (by unfold maxLen;omega) (by omega) ?_;intro P U w6 J n6 B Q;have H:=B w.heap.size [.n 3 i] (D'.2 rfl);refine qR [.n 0 i] 5 [20,22,24,27,0,1] λs7 V w7 A=>qE (.tuple #[]) λK=>?_;have j:=((((q.nil ([.n 3 i,.n 0 i]:List Tg)).n r).n u).m H).m A;have o:Tg.z∉([.n 3 i,.n 0 i]:List Tg):=by simp
  exact⟨_,rfl,⟨{ x with ae:=P },lt,O,K.nd 0 (d.tape.ch j o) (d.lp.ch j o) (BA d.an j o) (Cb d.bu j o (by simp)) (d.ew.ch j) (by rw[show(p.jv a b).ae=p.ae++b.drop (x.ae.n-a)from by unfold Nod.jv;rw[N],Cq];exact J.ch A) (d.bn.ch j) (d.bN.ch j) d.rz,C.ch j o (by simp<;>omega),K.new⟩,(((((q.nil (TN i)).n r).n u).trans (H.mono (by simp[TN]))).trans (A.mono (by simp[TN])))⟩
 .refine qI ((decide (((x.ae.n-a:Nat):Int)<(e.n:Int)))) false (E' (by omega)) (qR [] 1 [] λs9 W w9 I=>qE (.tuple #[]) λK=>?_);rw[show p.jv a b=p from by unfold Nod.jv;rw[mP (by omega),mz]];exact⟨_,rfl,(nsC d C ((q.n r).n I) K),(((q.nil (TN i)).n r).n I)⟩
theorem QP(h:NS i nb ob g w p ls ts)(q:ls.length<90000000){a b2 b3:Nat}(j:Box g w a #[pt nb 0] 70) :
  Calls prog 71 #[pt a 0] w (NP i nb ob g w (.tuple #[]) p (ls++BT i (BC 6) 5) ts):=by
 obtain⟨x,lt,D,k,l,s⟩:=h;refine gI (fn:=f71) (TN i) g func71 s (qN k (qO l (Cl ⟨a,.cells #[pt nb 0] 70,.z,false⟩ (λ_=>⟨j.r,j.z,λh=>(by cases h),λh=>absurd rfl h⟩) (by kernel_rfl) ?_)));refine qR [] 3 [2] λB v E d=>qS 2 [false,false,true] k l d (λm=>Eq m q (BC 6) s30 s30 ⟨Sv.nil _,λh=>absurd rfl h⟩ (Rc.nil _ _)) λy F H t u b c o=>qR [] 1 [] λC A G e=>qF b c e (((d.nil (TN i)).trans (o)).n e)
theorem Pb{to:Nat}{b:Bal}(h:NS i nb ob g w p ls ts)(F:ls.length<90000000){a c d:Nat}(m:Box g w a #[pt nb 0] 70)(o:Box g w c #[iv (to:Int)] 3)(q:Box g w d #[iv b.r,iv b.n] 75)  :
  Calls prog 122 #[pt a 0,pt c 0,pt d 0] w (NP i nb ob g w (.tuple #[]) p (ls++[{ BC 2 with fv:=b,src:=i,dst:=to }]) ts):=by
 obtain⟨x,lt,I,s,t,y⟩:=h;refine gI (fn:=f122) (TN i) g func122 y (qN s (qO t (Cl ⟨a,.cells #[pt nb 0] 70,.z,false⟩ (λ_=>⟨m.r,m.z,λh=>(by cases h),λh=>absurd rfl h⟩) (by kernel_rfl) ?_)));refine Cl ⟨c,.cells #[iv (to:Int)] 3,.z,false⟩ (λ_=>⟨o.r,o.z,λh=>(by cases h),λh=>absurd rfl h⟩) (by kernel_rfl) ?_;refine Cl ⟨d,.cells #[iv b.r,iv b.n] 75,.z,false⟩ (λ_=>⟨q.r,q.z,λh=>(by cases h),λh=>absurd rfl h⟩) (by kernel_rfl) ?_;refine qR [] 5 [2,3,4] λG C J k=>qS 4 [false,false,true,true,true] s t k (λu=>FI u (by omega) { BC 2 with fv:=b } s30 s30 ⟨Sv.nil _,λh=>absurd rfl h⟩ (Rc.nil _ _) to) λD K M A B e j v=>qR [] 1 [] λH E L l=>qF e j l (((k.nil (TN i)).trans (v)).n l)
theorem Id(h:NS i nb ob g w p ls ts)(K:ls.length<90000000){c d b3 b:Nat}{l:Let}(o:Box g w c #[pt nb 0] 70)(q:Box g w d #[pt b 0] 143)(A:CK g w b l) :
  Calls prog 89 #[pt c 0,pt d 0] w (NP i nb ob g w (.tuple #[]) p (ls++[{ BC 4 with cl:=l.cl,src:=i,dst:=l.src }]) ts):=by
 obtain⟨x,lt,N,s,t,y⟩:=h;refine gI (fn:=f89) (TN i) g func89 y (qN s (qO t (Cl ⟨c,.cells #[pt nb 0] 70,.z,false⟩ (λ_=>⟨o.r,o.z,λh=>(by cases h),λh=>absurd rfl h⟩) (by kernel_rfl) ?_)));refine Cl ⟨d,.cells #[pt b 0] 143,.z,false⟩ (λ_=>⟨q.r,q.z,λh=>(by cases h),λh=>absurd rfl h⟩) (by kernel_rfl) ?_;obtain⟨F,G,a,B,C⟩:=A;refine Cl ⟨b,.cells (F7 l F G) 142,.z,false⟩ (λ_=>⟨a.r,a.z,λh=>(by cases h),λh=>absurd rfl h⟩) (by kernel_rfl) ?_;refine qR [] 11 [10,0,2,2,3,4,6,8,4,10,3,12,14,16,4,18] λL H O k=>qS 10 [false,false,true,true,true] s t k (λu=>FI u (by omega) { BC 4 with cl:=l.cl } s30 s30 ⟨Sv.nil _,λh=>absurd rfl h⟩ (Rc.nil _ _) l.src) λI P R D E e j v=>qR [] 1 [] λM J Q m=>qF e j m (((k.nil (TN i)).trans (v)).n m)
theorem Mh(h:NS i nb ob g w p ls ts)(L:ls.length<90000000){c d b3 b:Nat}{l:Let}(q:Box g w c #[pt nb 0] 70)(s:Box g w d #[pt b 0] 143)(A:CK g w b l) :
  Calls prog 91 #[pt c 0,pt d 0] w (NP i nb ob g w (.tuple #[]) p (ls++[{ BC 6 with bt:=p.ae.length,src:=i,dst:=l.src }]) ts):=by
 obtain⟨x,lt,O,e,t,y⟩:=h;refine gI (fn:=f91) (TN i) g func91 y (qN e (qO t (Cl ⟨c,.cells #[pt nb 0] 70,.z,false⟩ (λ_=>⟨q.r,q.z,λh=>(by cases h),λh=>absurd rfl h⟩) (by kernel_rfl) ?_)));refine Cl ⟨d,.cells #[pt b 0] 143,.z,false⟩ (λ_=>⟨s.r,s.z,λh=>(by cases h),λh=>absurd rfl h⟩) (by kernel_rfl) ?_;obtain⟨G,H,a,B,C⟩:=A;refine Cl ⟨b,.cells (F7 l G H) 142,.z,false⟩ (λ_=>⟨a.r,a.z,λh=>(by cases h),λh=>absurd rfl h⟩) (by kernel_rfl) ?_;have D:=e.ae.num;refine qR [] 13 [12,0,2,2,3,4,6,8,4,10,2,12,14,16,18,0,20,22] λM I P m=>qS 12 [false,false,true,true,true] e t m (λu=>(show{ BC 6 with bt:=x.ae.n,src:=i,dst:=l.src }=({ BC 6 with bt:=p.ae.length,src:=i,dst:=l.src }:Let)from by rw[D])▸FI u (by omega) { BC 6 with bt:=x.ae.n } s30 s30 ⟨Sv.nil _,λh=>absurd rfl h⟩ (Rc.nil _ _) l.src) λJ Q S E F j k v=>qR [] 1 [] λN K R o=>qF j k o (((m.nil (TN i)).trans (v)).n o)
theorem Jz(h:NS i nb ob g w p ls ts)(L:ls.length<90000000){c d b3 b:Nat}{l:Let}(o:Box g w c #[pt nb 0] 70)(q:Box g w d #[pt b 0] 143)(A:CK g w b l)(D:l.bt<=p.ae.length) :
  Calls prog 93 #[pt c 0,pt d 0] w (NP i nb ob g w (.tuple #[]) p (ls++[{ BC 5 with src:=i,dst:=l.src,bt:=l.bt,fa:=p.ae.drop l.bt }]) ts):=by
 obtain⟨x,lt,O,s,t,y⟩:=h;refine gI (fn:=f93) (TN i) g func93 y (qN s (qO t (Cl ⟨c,.cells #[pt nb 0] 70,.z,false⟩ (λ_=>⟨o.r,o.z,λh=>(by cases h),λh=>absurd rfl h⟩) (by kernel_rfl) ?_)));refine Cl ⟨d,.cells #[pt b 0] 143,.z,false⟩ (λ_=>⟨q.r,q.z,λh=>(by cases h),λh=>absurd rfl h⟩) (by kernel_rfl) ?_;obtain⟨G,H,a,B,C⟩:=A;refine Cl ⟨b,.cells (F7 l G H) 142,.z,false⟩ (λ_=>⟨a.r,a.z,λh=>(by cases h),λh=>absurd rfl h⟩) (by kernel_rfl) ?_;refine qR [] 10 [9,0,2,2,3,4,6,8,4,10,3,12,14,16,4] λM I P k=>qS 9 [false,false,true,true,true] s t k (λu=>IK u (by omega) l.src l.bt D) λJ Q S E F e j v=>qR [] 1 [] λN K R m=>qF e j m (((k.nil (TN i)).trans (v)).n m)
theorem GZ{d:S3}{a:List Vt}(h:NS i nb ob g w p ls ts)(T:ls.length<90000000){j k m c:Nat}{l:Let}(y:Box g w j #[pt nb 0] 70)(A:Box g w k #[pt c 0] 143)(B:Box g w m #[S3.v d] 76)(H:CK g w c l)(L:FSv g w d a) :
  Calls prog 83 #[pt j 0,pt k 0,pt m 0] w (NP i nb ob g w (.tuple #[]) p (ls++[{ BC 1 with fv:=l.fv,lp:=a,fa:=p.ae,src:=i,dst:=l.src }]) ts):=by
 obtain⟨x,lt,W,o,C,G⟩:=h;refine gI (fn:=f83) (TN i) g func83 G (qN o (qO C (Cl ⟨j,.cells #[pt nb 0] 70,.z,false⟩ (λ_=>⟨y.r,y.z,λh=>(by cases h),λh=>absurd rfl h⟩) (by kernel_rfl) ?_)));refine Cl ⟨k,.cells #[pt c 0] 143,.z,false⟩ (λ_=>⟨A.r,A.z,λh=>(by cases h),λh=>absurd rfl h⟩) (by kernel_rfl) ?_;refine Cl ⟨m,.cells #[S3.v d] 76,.z,false⟩ (λ_=>⟨B.r,B.z,λh=>(by cases h),λh=>absurd rfl h⟩) (by kernel_rfl) ?_;obtain⟨O,Q,b,I,J⟩:=H;refine Cl ⟨c,.cells (F7 l O Q) 142,.z,false⟩ (λ_=>⟨b.r,b.z,λh=>(by cases h),λh=>absurd rfl h⟩) (by kernel_rfl) ?_;refine qR [] 17 [16,0,2,2,3,4,6,8,5,10,3,12,14,16,5,18,4,20,2,22,24,26,28,0,30] λU F P t=>Ag λK=>?_;have e:=t;have D:NS i nb ob F P p ls ts:=(nsC o C e K);refine qS0 16 [false,false,true,true,true,true] (FI D (by omega) { BC 1 with fv:=l.fv,lp:=a,fa:=p.ae } d x.ae (L.ch e) (o.ae.rc.ch e) l.src) λR X Z M N q s E=>qR [] 1 [] λV S Y u=>qF q s u (((t.nil (TN i)).trans (E)).n u)
theorem Lt{a:Acc}{l:List Vt}:Dd a (v::l)=Dd (if AX a v=0 then⟨BH a v,Bq a v⟩else a) l:=rfl
theorem TS{l:List Vt}(h:l[j]?=some v):l.drop j=v::l.drop (j+1):=by
 obtain⟨a,b⟩:=V'.1 h;rw[<- b];exact mQ a
theorem Qd(h:NS i nb ob g w p ls ts){w0:World}(hB:Base w0 g w)(hT:Tabs w0)(j:Nat)(hj:j<5)(vs:List Vt)(y:S3)(hy:FSv g w y vs)(hb:(p.av.an j).vs.length<100000000) :
  Calls prog 59 #[pt nb 11,iv (j:Int),y.v] w (NP i nb ob g w (.tuple #[]) { p with av:=p.av.qJ j vs } ls ts):=by
 obtain⟨x,lt,G,m,hO,hg⟩:=h;refine gI (fn:=f59) (TN i) g func59 hg (qN m (qO hO (qR [] 18 [0,1,0,2,0] λD g1 w1 c1=>Cn 50 (λF H e L=>e=[(0,pt nb 11),(1,iv (j:Int)),(6,pt (D 0) 0),(23,S3.v (x.hv j)),(24,iv ((x.hv j).n:Int)),(25,iv 0)]/\L=[⟨nb,.cells (AI i ob p x) 97,.n 0 i,false⟩,⟨ob,.cells #[S3.v lt,S3.v G] 67,.n 50 0,false⟩,⟨(D 0),.cells #[iv p.av.fv.r,iv p.av.fv.n,S3.v y] 78,.l,false⟩]/\True/\Cg w.heap.size ([]:List Tg) g1 w1 F H) (by kernel_rfl) ?_ ?_)))
 .intro J hJ;rcases qq hj with rfl|rfl|rfl|rfl|rfl <;>
  (refine qR [] 6 [0] λs3 g3 w3 c3=>?_;exact qB [true,true,true] λz K0 K=>hJ _ _ _ z _ ⟨rfl,rfl,trivial,(c3.nil ([]:List Tg))⟩ K)
 rintro g2 w2 _ z2 _ ⟨rfl,rfl,_,c2⟩;have hH:=m.an j hj;have hn:(x.hv j).n=(p.av.an j).vs.length:=by obtain⟨a,b6,hh⟩:=hH.s.shape;simp only[Value.slice.injEq]at hh;exact hh.2.1
 obtain⟨l,hl⟩:∃ l,l=(p.av.an j).vs:=⟨_,rfl⟩;rw[<- hl]at hH hn hb
 refine qR [] 1 [] λs4 g4 w4 c4=>BY 50 [(0,pt nb 11),(1,iv (j:Int)),(6,pt (D 0) 0),(23,S3.v (x.hv j)),(24,iv ((x.hv j).n:Int)),(25,iv 0)] [true,true,true] [⟨nb,.cells (AI i ob p x) 97,.n 0 i,false⟩,⟨ob,.cells #[S3.v lt,S3.v G] 67,.n 50 0,false⟩,⟨(D 0),.cells #[iv p.av.fv.r,iv p.av.fv.n,S3.v y] 78,.l,false⟩] (λk F H e L=>∃ (k0:Nat) (a:Acc) (ya:S3),k=l.length-k0/\k0<=l.length/\e=[(0,pt nb 11),(1,iv (j:Int)),(6,pt (D 0) 0),(23,S3.v (x.hv j)),(24,iv ((x.hv j).n:Int)),(25,iv (k0:Int))]/\L=[⟨nb,.cells (AI i ob p x) 97,.n 0 i,false⟩,⟨ob,.cells #[S3.v lt,S3.v G] 67,.n 50 0,false⟩,⟨(D 0),.cells #[iv a.p.r,iv a.p.n,S3.v ya] 78,.l,false⟩]/\Dd a (l.drop k0)=Dd ⟨p.av.fv,vs⟩ l/\FSv F H ya a.vs/\Cg w.heap.size [] g w F H) (by kernel_rfl) (by kernel_rfl) (by kernel_rfl) (by kernel_rfl) l.length (λK=>?_) ?_
 .exact⟨0,⟨p.av.fv,vs⟩,y,rfl,by omega,rfl,rfl,rfl,(((hy.ch c1).ch c2).ch c4),((c1.trans c2).trans c4)⟩
 .rintro k gr wr _ zr _ ⟨k0,a,ya,rfl,hk0,rfl,rfl,hI,hya,hC⟩ J hJ;refine qR [] 5 [] λs5 g5 w5 A=>?_;by_cases h1:k0<l.length
  .refine qI ((decide ((k0:Int)<((x.hv j).n:Int)))) true (O' (by omega)) ?_;obtain⟨v,hv⟩:∃ v,l[k0]?=some v:=⟨_,G' h1⟩;have W:=hH.ch hC;obtain⟨bx,ox,X,d2,a8⟩:=W.s.spot k0 v hv;refine qR [] 5 [] λs6 g6 w6 E=>qV 0 (pt bx (ox+8*k0)) (Uq X k0 (by omega)) ?_;have a9:=((W.ch A).ch E).s.spot k0 v hv;obtain⟨b5,d4,o,b3,u⟩:=a9;rw[X]at o
   simp only[Y',Addr.mk.injEq,and_true]at o;obtain⟨rfl,rfl⟩:=o;refine qV 1 (.agg #[iv v.bt,iv v.b.r,iv v.b.n,iv v.w.k,iv v.w.c,iv v.w.s,iv v.w.n,iv v.w.v]) (dL v u) (qR [] 7 [0,0,3,0,2,3] λs8 g8 w8 V=>Ag λa0=>?_);have a7:=((((hya.ch A).ch E).ch V)).s;have a5:=hB.ch (hC.trans ((A.trans E).trans V)) (by simp);have a6:∀ z,w8.heap.size<=z->g8.t z=.z:=λz hz=>(a0.new z hz).1;refine qC 2 (Cp a.p _ a.vs v w8 a7 (a5.tn hT)) ?_;rintro e' e4 ⟨f3,rfl,Y,b4,M⟩;refine⟨_,rfl,M,?_⟩;have C:=Cg.eb (B:=w.heap.size) (T:=[]) (g:=g8) M;obtain⟨ys,rfl,d3,b0⟩:=DW Y a6 (by omega);refine qR [] 12 [0,0,4,0] λd5 b7 e5 q=>?_;by_cases h2:AX a v=0
   .refine qI (((AX a v)==0)) true (by simpa using h2) (qR [] 6 [4,2,0] λd6 b8 e6 N=>qV 0 (iv ((k0:Int)+1)) (AK 25 (k0:Int) underlying3 (by omega)) (qR [] 2 [] λd7 b9 e7 O=>qB [true,true,true,false,false] λz K0 K=>hJ (l.length-(k0+1)) _ _ _ z _ (by omega) ⟨k0+1,⟨BH a v,Bq a v⟩,ys,rfl,by omega,rfl,rfl,?_,(((b0.ch q).ch N).ch O),hC.trans ((((((A.trans E).trans V).trans C).trans q).trans N).trans O)⟩ K));rw[<- hI,TS hv,Lt,if_pos h2]
   .refine qI (((AX a v)==0)) false (by simpa using h2) (qR [] 3 [] λd8 c0 e8 P=>qV 0 (iv ((k0:Int)+1)) (AK 25 (k0:Int) underlying3 (by omega)) (qR [] 2 [] λd9 c7 e9 Q=>qB [true,true,true,false,false] λz K0 K=>hJ (l.length-(k0+1)) _ _ _ z _ (by omega) ⟨k0+1,a,ya,rfl,by omega,rfl,rfl,?_,(((((((hya.ch A).ch E).ch V).ch C).ch q).ch P).ch Q),hC.trans ((((((A.trans E).trans V).trans C).trans q).trans P).trans Q)⟩ K));rw[<- hI,TS hv,Lt,if_neg h2]
  .refine qI ((decide ((k0:Int)<((x.hv j).n:Int)))) false (E' (by omega)) ?_;obtain rfl:k0=l.length:=by omega
   rw[nN]at hI
   refine qR [] 8 [8,0,2,4,6,10,12] λe0 a3 b1 R=>Cn 50 (λF H e L=>e=[(0,pt nb 11)]/\L=[⟨nb,.cells (AI i ob ({ p with av:={ p.av with qm:=upN p.av.qm j true,an:=upN p.av.an j a } }) ({ x with hv:=upN x.hv j ya })) 97,.n 0 i,false⟩,⟨ob,.cells #[S3.v lt,S3.v G] 67,.n 50 0,false⟩,⟨(D 0),.cells #[iv a.p.r,iv a.p.n,S3.v ya] 78,.l,false⟩]/\True/\Cg w.heap.size ([.n 0 i]:List Tg) a3 b1 F H) (by kernel_rfl) ?_ ?_
   .intro J hJ;rcases qq hj with rfl|rfl|rfl|rfl|rfl <;>
    (refine qR [] 3 [14,18,20] λe1 c9 f0 U=>?_;exact Dm 4 8 (by kernel_rfl) (by(refine qR [.n 0 i] 5 [2,17,0,1,22,25,0,1] λe2 d0 f1 a1=>?_;exact qB [true,true,true] λz K0 K=>hJ _ _ _ z _ ⟨rfl,rfl,trivial,((U.nil ([.n 0 i]:List Tg)).trans a1)⟩ K)) (by(refine qR [.n 0 i] 5 [0,1,9,2,22,25,0,1] λe3 d1 f2 a2=>?_;exact qB [true,true,true] λz K0 K=>hJ _ _ _ z _ ⟨rfl,rfl,trivial,((U.nil ([.n 0 i]:List Tg)).trans a2)⟩ K)))
   rintro a4 b2 _ f4 _ ⟨rfl,rfl,_,S⟩;refine qE (.tuple #[]) λK=>?_;obtain⟨q1,q2,q3⟩:=K.rh 0 nb (.cells (AI i ob { p with av:={ p.av with qm:=upN p.av.qm j true,an:=upN p.av.an j a } } { x with hv:=upN x.hv j ya }) 97) 0 i (by kernel_rfl);obtain⟨q4,q5,q6⟩:=K.rh 1 ob (.cells #[S3.v lt,S3.v G] 67) 50 0 (by kernel_rfl);have hE:p.av.qJ j vs={ p.av with qm:=upN p.av.qm j true,an:=upN p.av.an j a }:=by unfold Rnd.qJ;rw[<- hl,<- hI];rfl
   rw[hE];have d:Cg w.heap.size [.n 0 i] g w a4 b2:=((((hC.nil [.n 0 i]).n A).n R).trans S);have I:Tg.z∉[Tg.n 0 i]:=by simp
   have Z:=(((hya.ch A).ch R).ch S);refine⟨_,rfl,⟨{ x with hv:=upN x.hv j ya },lt,G,⟨q1,q2,q3,m.tape.ch d I,m.lp.ch d I,?_,Cb m.bu d I (by simp),m.ew.ch d,m.ae.ch d,m.bn.ch d,m.bN.ch d,m.rz⟩,⟨q4,q5,q6,DV hO.br d I (by simp),hO.eo.ch d⟩,K.new⟩,d.mono (by simp[TN])⟩;intro k hk;show FSv _ _ (upN x.hv j ya k) (upN p.av.an j a k).vs;unfold upN;split
   .exact Z
   .exact(m.an k hk).ch d I
theorem XV(u v:Vt)(w:World):(Op.equal 140 (.agg (vtA u)) (.agg (vtA v))).run prog w=.ok (decide (u=v)) w:=by
 have a:=XT u.bt u.b.r u.b.n u.w.k u.w.c u.w.s u.w.n u.w.v v.bt v.b.r v.b.n v.w.k v.w.c v.w.s v.w.n v.w.v w;have d:decide (u.bt=v.bt/\u.b.r=v.b.r/\u.b.n=v.b.n/\u.w.k=v.w.k/\u.w.c=v.w.c/\u.w.s=v.w.s/\u.w.n=v.w.n/\u.w.v=v.w.v)=decide (u=v):=by
  apply m9.2;constructor
  .rintro⟨a1,a2,a3,a4,a5,a6,a7,a8⟩;exact(Vt.eq_iff u v).1 ⟨a1,(Bal.eq_iff _ _).1 ⟨a2,a3⟩,(Cmd.eq_iff _ _).1 ⟨a4,a5,a6,a7,a8⟩⟩
  .rintro rfl;exact⟨rfl,rfl,rfl,rfl,rfl,rfl,rfl,rfl⟩
 rw[d]at a
 rw[run_eql_struct]at a
 show(Op.equalIn 10000 _ _ _).run _ _=_;simp only[vtA,vtC];cases hr:(Op.equalIn 10000 140 (.agg #[.int .i64 u.bt,.int .i64 u.b.r,.int .i64 u.b.n,.int .i64 u.w.k,.int .i64 u.w.c,.int .i64 u.w.s,.int .i64 u.w.n,.int .i64 u.w.v]) (.agg #[.int .i64 v.bt,.int .i64 v.b.r,.int .i64 v.b.n,.int .i64 v.w.k,.int .i64 v.w.c,.int .i64 v.w.s,.int .i64 v.w.n,.int .i64 v.w.v])).run prog w with
 | ok b w'=>rw[hr]at a;simp[Result.andThen]at a;rw[a.1,a.2]
 | _=>rw[hr]at a;simp[Result.andThen]at a
abbrev Cnt:=Vt × Nat × Nat
def mkE(x:Cnt):MapEntry:={ key:=.agg (vtA x.1),val:=.int .i64 (x.2.1:Int),born:=x.2.2 }
def Ll(v:Vt):List Cnt->Nat->Option (Nat × Value)
 | [],_=>none
 | x::c,i=>if v=x.1 then some (i,.int .i64 (x.2.1:Int))else Ll v c (i+1)
theorem Nk(v:Vt)(w:World):∀ (c:List Cnt) (i:Nat),(Instr.findAsking 140 (.agg (vtA v)) (c.map mkE) i).run prog w=.ok (Ll v c i) w
 | [],i=>by simp[Instr.findAsking,Ll]
 | x::c,i=>by
  have h:=XV v x.1 w;rw[mN,Instr.findAsking,Sem.run_bind];show((Op.equal 140 (.agg (vtA v)) (.agg (vtA x.1))).run _ w).andThen _=_;rw[h,Result.andThen_ok,Ll];by_cases e:v=x.1
  .rw[O' e,if_pos e];simp[mkE]
  .rw[E' e,if_neg e];simpa using Nk v w c (i+1)
theorem K7(v:Vt)(w:World)(c:List Cnt):(Instr.findKey 140 (.agg (vtA v)) (c.map mkE)).run prog w=.ok (Ll v c 0) w:=by
 rw[Instr.findKey,Sem.run_bind,run_underlying underlying140 w,Result.andThen_ok];cases c with
 | nil=>simp[Instr.findNow,Ll]
 | cons x c =>
  show Sem.run _ (match(none:Option (Option (Nat × Value)))with|some r=>pure r|none=>Instr.findAsking 140 (.agg (vtA v)) ((x::c).map mkE)) w=_;exact Nk v w (x::c) 0
theorem Im(a:Bool)(v:Vt)(w:World):(Instr.checkKey a 10000 140 (.agg (vtA v))).run prog w=.ok () w:=by
 obtain⟨s,⟨r,n⟩,⟨k,c,q,m,x⟩⟩:=v;kernel_rfl
def DE(c:List Cnt)(v:Vt):Nat:=match c.find? (λx=>decide (v=x.1))with|some x=>x.2.1|none=>0
theorem Lm(v:Vt):∀ (c:List Cnt) (i:Nat),(Ll v c i=none/\DE c v=0/\∀ x∈c,v≠x.1)\/∃ a x b,c=a++x::b/\x.1=v/\(∀ y∈a,v≠y.1)/\Ll v c i=some (i+a.length,.int .i64 (x.2.1:Int))/\DE c v=x.2.1
 | [],i=>.inl ⟨rfl,rfl,λx hx=>by cases hx⟩
 | x::c,i=>by
  by_cases e:v=x.1
  .refine .inr ⟨[],x,c,rfl,e.symm,λy hy=>(Q' hy).elim,?_,?_⟩
   .rw[Ll,if_pos e];simp
   .simp[DE,e]
  .rcases Lm v c (i+1)with⟨h1,h2,h3⟩|⟨a,y,b,rfl,hy,h3,h4,h5⟩
   .refine .inl ⟨by rw[Ll,if_neg e,h1],?_,λy hy=>?_⟩
    .rw[<- h2];simp[DE,e]
    .rcases mn.1 hy with rfl|hy
     .exact e
     .exact h3 y hy
   .refine .inr ⟨x::a,y,b,rfl,hy,λz hz=>?_,?_,?_⟩
    .rcases mn.1 hz with rfl|hz
     .exact e
     .exact h3 z hz
    .rw[Ll,if_neg e,h4];simp;omega
    .rw[<- h5];simp[DE,e]
structure CMap(w:World)(b:Nat)(c:List Cnt):Prop where
 ex:∃ clock,w.heap[b]?=some (.map (c.map mkE).toArray clock)/\∀ x∈c,x.2.2<clock
 th:c.Pairwise λx y=>x.2.2≠y.2.2
variable{a c d:List Cnt}
theorem CMap.lt(h:CMap w b c):b<w.heap.size:=by
 obtain⟨⟨k,a,_⟩,_⟩:=h;exact(U'.1 a).1
theorem CMap.ov(h:CMap w b c)(f:w'.heap[b]?=w.heap[b]?):CMap w' b c:=by
 obtain⟨⟨k,a,d⟩,e⟩:=h;exact⟨⟨k,f.trans a,d⟩,e⟩
theorem CMap.af(h:CMap w b c)(a:Bw w w'):CMap w' b c:=h.ov (a.block b h.lt)
theorem CMap.made(w:World):CMap (w.alloc (.map #[] 0)) w.heap.size []:=⟨⟨0,heap_alloc_new _ _,λx a=>by cases a⟩,List.Pairwise.nil⟩
theorem kU(w:World):(zeroValue 3).run prog w=.ok (.int .i64 0) w:=by kernel_rfl
theorem CMap.look(h:CMap w b c)(v:Vt):(Instr.lookup 258 (.map (some b)) (.agg (vtA v)) false).run prog w=.ok (.int .i64 (DE c v:Int)) w:=by
 obtain⟨⟨k,f,_⟩,_⟩:=h;have e:(getObj b).run prog w=.ok (.map (c.map mkE).toArray k) w:=by simp[getObj,Sem.run,f]
 rcases Lm v c 0 with⟨h1,h2,_⟩|⟨a,x,d,_,_,_,h1,h2⟩
 .simp[Instr.lookup,run_underlying underlying258,e,Im,K7,h1,h2]
 .simp[Instr.lookup,run_underlying underlying258,e,Im,K7,h1,h2]
theorem dY(v:Vt)(n:Nat):Instr.sameBits (n+1) (.agg (vtA v)) (.agg (vtA v))=true:=by
 simp[Instr.sameBits,vtA,vtC]
theorem ZU(v:Vt)(w:World):(Instr.keyThatStays (.agg (vtA v)) (.agg (vtA v))).run prog w=.ok (.agg (vtA v)) w:=by
 rw[Instr.keyThatStays,if_pos (dY v 9999)];rfl
theorem Va{u:Vt}{m:Nat}(b:∀ y∈a,v≠y.1):DE (a++(v,m,born)::d) u=if u=v then m else DE (a++(v,n,born)::d) u:=by
 unfold DE;rw[nG,nG,oI,oI];by_cases e:u=v
 .subst e;have c:a.find? (λx=>decide (u=x.1))=none:=by
   rw[nu];intro y f;simp[b y f]
  rw[c];simp
 .rw[if_neg e];simp[e]
theorem Jt(a:w.heap[b]?=some (.map es k))(o:Obj):Below b w (ChangeMaps.setBlock w b o) :=
 ⟨rfl,rfl,rfl,by simp[ChangeMaps.setBlock],λi c=>ChangeMaps.heap_setBlock_other a o (by omega)⟩
theorem Ju(a:w.heap[b]?=some (.map es k))(o:Obj)(i:Nat)(h:i≠b):(ChangeMaps.setBlock w b o).heap[i]?=w.heap[i]?:=ChangeMaps.heap_setBlock_other a o h
theorem CMap.entry(h:CMap w b c)(v:Vt):∃ (a d:List Cnt) (born:Nat) (w':World),(Instr.mapEntry 258 (.map (some b)) (.agg (vtA v))).run prog w=.ok (.tuple #[.int .i64 (DE c v:Int),.int .i64 (born:Int)]) w'/\CMap w' b (a++(v,DE c v,born)::d)/\(∀ y∈a,v≠y.1)/\(∀ u,DE (a++(v,DE c v,born)::d) u=DE c u)/\Below b w w'/\∀ i,i≠b->w'.heap[i]?=w.heap[i]?:=by
 obtain⟨⟨k,f,j⟩,m⟩:=h;have n:(getObj b).run prog w=.ok (.map (c.map mkE).toArray k) w:=by simp[getObj,Sem.run,f]
 rcases Lm v c 0 with⟨h1,h2,h3⟩|⟨a,x,d,rfl,rfl,h3,h1,h2⟩
 .refine⟨c,[],k,ChangeMaps.setBlock w b (.map ((c++[(v,0,k)]).map mkE).toArray (k+1)),?_,⟨⟨k+1,?_,?_⟩,?_⟩,h3,?_,Jt f _,Ju f _⟩
  .have hs:=MapKept.run_setObj_map (P:=prog) (w:=w) (.map ((c++[(v,0,k)]).map mkE).toArray (k+1)) f;have g:((c.map mkE).toArray.push { key:=.agg (vtA v),val:=.int .i64 0,born:=k })=((c++[(v,0,k)]).map mkE).toArray:=by simp[mkE]
   rw[Instr.mapEntry];simp only[Sem.run_bind,run_underlying underlying258,Result.andThen_ok,n,Im,K7,h1,h2,kU,g,hs];rfl
  .rw[h2];exact ChangeMaps.heap_setBlock_same f _
  .intro y hy;rcases P'.1 hy with hy|hy
   .have:=j y hy;omega
   .obtain rfl:y=(v,DE c v,k):=by simpa using hy
    show k<k+1;omega
  .rw[nX];refine⟨m,o0 _ _,λy hy z p=>?_⟩;obtain rfl:z=(v,DE c v,k):=by simpa using p
   have:=j y hy;show y.2.2≠k;omega
  .intro u;rw[h2];unfold DE;rw[nG];cases hf:c.find? (λx=>decide (u=x.1))with
   | some y=>rfl
   | none =>
    by_cases e:u=v
    .subst e;simp
    .simp[e]
 .refine⟨a,d,x.2.2,ChangeMaps.setBlock w b (.map ((a++x::d).map mkE).toArray k),?_,⟨⟨k,?_,?_⟩,?_⟩,h3,?_,Jt f _,Ju f _⟩
  .have hs:=MapKept.run_setObj_map (P:=prog) (w:=w) (.map ((a++x::d).map mkE).toArray k) f;have o:((a++x::d).map mkE).toArray[a.length]?=some (mkE x):=by simp
   have g:(((a++x::d).map mkE).toArray.modify a.length λe=>{ e with key:=.agg (vtA x.1) })=((a++x::d).map mkE).toArray:=by
    apply nK;intro i;rw[oJ];split
    .rename_i hi
     subst hi;rw[o];rfl
    .rfl
   have l:=ZU x.1 w;rw[Instr.mapEntry];simp only[Sem.run_bind,run_underlying underlying258,Result.andThen_ok,n,Im,K7,h1,mT,o,mZ,pY];rw[show(mkE x).key=.agg (vtA x.1)from rfl,l,Result.andThen_ok,g,hs];simp[goInt,ChangeMaps.setBlock,h2,mkE]
  .rw[h2];exact ChangeMaps.heap_setBlock_same f _
  .rw[h2];exact j
  .rw[h2];exact m
  .intro u;rw[h2]
theorem CMap.store(h:CMap w b (a++(v,n,born)::d))(m:Nat):∃ w',(Instr.entryStore 258 (.map (some b)) (.int .i64 (born:Int)) (.int .i64 (m:Int))).run prog w=.ok () w'/\CMap w' b (a++(v,m,born)::d)/\Below b w w'/\∀ i,i≠b->w'.heap[i]?=w.heap[i]?:=by
 obtain⟨⟨k,f,l⟩,c⟩:=h;have r:(getObj b).run prog w=.ok (.map ((a++(v,n,born)::d).map mkE).toArray k) w:=by simp[getObj,Sem.run,f]
 refine⟨ChangeMaps.setBlock w b (.map ((a++(v,m,born)::d).map mkE).toArray k),?_,⟨⟨k,ChangeMaps.heap_setBlock_same f _,?_⟩,?_⟩,Jt f _,Ju f _⟩
 .have hs:=MapKept.run_setObj_map (P:=prog) (w:=w) (.map ((a++(v,m,born)::d).map mkE).toArray k) f;have p:((a++(v,n,born)::d).map mkE).toArray.findIdx? (λe=>(e.born:Int)==(born:Int))=some a.length:=by
   rw[List.findIdx?_toArray,mB,List.findIdx?_append];have o:(a.map mkE).findIdx? (λe=>(e.born:Int)==(born:Int))=none:=by
    rw[List.findIdx?_eq_none_iff];intro e j;obtain⟨y,hy,rfl⟩:=mA.1 j;have:=(nX.1 c).2.2 y hy (v,n,born) (by simp);simp[mkE];intro g;exact this (show y.2.2=born by omega)
   rw[o,mN,List.findIdx?_cons];simp[mkE]
  have j:(((a++(v,n,born)::d).map mkE).toArray.modify a.length λe=>{ e with val:=.int .i64 (m:Int) })=((a++(v,m,born)::d).map mkE).toArray:=by
   apply nK;intro i;rw[oJ];split
   .rename_i hi
    subst hi;simp[mkE]
   .rename_i hi
    simp only[m7,mB,mN];rcases mY i a.length with g|g
    .rw[mt (by simpa using g),mt (by simpa using g)]
    .rw[mx (by simpa using g),mx (by simpa using g)];obtain⟨q,s⟩:∃ q,i-(a.map mkE).length=q+1:=⟨i-a.length-1,by simp;omega⟩;rw[s];rfl
  rw[Instr.entryStore];simp only[Sem.run_bind,r,Result.andThen_ok,asInt,asIntOf,Sem.run_pure,p,j,hs];rfl
 .intro y hy;rcases P'.1 hy with hy|hy
  .exact l y (mi _ hy)
  .rcases mn.1 hy with rfl|hy
   .exact l (v,n,born) (by simp)
   .exact l y (mh _ (I' _ hy))
 .rw[nX,List.pairwise_cons]at c ⊢
  refine⟨c.1,⟨λy hy=>c.2.1.1 y hy,c.2.1.2⟩,λy hy z hz=>?_⟩;rcases mn.1 hz with rfl|hz
  .exact c.2.2 y hy (v,n,born) (by simp)
  .exact c.2.2 y hy z (I' _ hz)
end
section
variable{P:Program}{md:Region.Mode}{ops:Array Oper}{Q:Exit->Act->World->Prop}{S:World->Prop}
section
variable{K:Act->World->Prop}{a:Act}{d i:Nat}{o:Oper}{w w':World}
theorem YW(k:ops[i]?=some o)(l:Region.wanted o (yielded ops a.tmps)=true)(g:o.dst=some d)(t:TypeId)(m x:Operand)(c:o.op=.lookup t m x false)(e f v:Value)(j:a.eval m=e)(n:a.eval x=f)(b:(Instr.lookup t e f false).run P w=.ok v w)(h:K (a.put (some d) v) w):wpOp P ops Q i K a w :=
 YX k l g (by unfold execOp;simp only[c,j,n,Sem.run_bind,b,Result.andThen_ok,Sem.run_pure]) h
theorem Um(k:ops[i]?=some o)(l:Region.wanted o (yielded ops a.tmps)=true)(g:o.dst=some d)(t:TypeId)(m x:Operand)(c:o.op=.mapEntry t m x)(e f v:Value)(j:a.eval m=e)(n:a.eval x=f)(b:(Instr.mapEntry t e f).run P w=.ok v w')(h:K (a.put (some d) v) w'):wpOp P ops Q i K a w :=
 YX k l g (by unfold execOp;simp only[c,j,n,Sem.run_bind,b,Result.andThen_ok,Sem.run_pure]) h
theorem Qx(l:ops[i]?=some o)(n:Region.wanted o (yielded ops a.tmps)=true)(j:o.dst=none)(t:TypeId)(m x y:Operand)(c:o.op=.entryStore t m x y)(d e f:Value)(k:a.eval m=d)(p:a.eval x=e)(q:a.eval y=f)(b:(Instr.entryStore t d e f).run P w=.ok () w')(h:K a w'):wpOp P ops Q i K a w :=
 wpOp_step l λr g=>by
  rw[if_pos n];unfold Oper.wp execOp;simp only[c,k,p,q,Sem.run_bind,b,Result.andThen_ok,Sem.run_pure];exact g _ _ (by rw[j];exact h)
end
end
section
variable{W w:World}{a:Act}{ac:List Acc}{b i j k m nb ob:Nat}{g:Gh}{l:List Vt}{ls:List Let}{ops:Array Oper}{p:Nod}{s:Int}{ts:List Tol}{x:NX}
theorem Ot{S:World->Prop}{op:Oper}(d:Region.wanted op (yielded ops a.tmps)=true)(x:Operand)(c:op.op=.binOp .add 3 x (.const (.int .i64 1)) 3)(n m:Nat)(e:a.eval x=.int .i64 (n:Int))(g:m=n+1)(f:n<=1000) :
  YieldsIf prog ops S op (.int .i64 (m:Int)) a :=
 .inl ⟨d,λw _=>by
  have b:a.eval (.const (.int .i64 1))=.int .i64 1:=rfl;unfold execOp;simp only[c,e,b];simp[go_sem];rw[IntKind.wrap_i64];omega⟩
theorem Zb{P:Program}{d:Nat}{K:Act->World->Prop}{Q:Exit->Act->World->Prop}(R:Nat->World->Prop){A:Nat->Act}(c:∀ K':Act->World->Prop,Hid (∀ x W2,R x W2->K' (A x) W2)->(Code.region d ops true).wp P (Exit.then K' Q) a w)(b:∀ x W2,R x W2->K (A x) W2):(Code.region d ops true).wp P (Exit.then K Q) a w:=c K b
def I2(l:List Vt)(m:Nat):Cmd:=((GS l m).map (·.w)).getD ⟨0,0,0,0,0⟩
def I3(l:List Vt)(m:Nat):Int:=if(GS l m).isSome then 0 else 9
theorem Jm{v:Vt}(h:GS l m=some v):I2 l m=v.w/\I3 l m=0:=by unfold I2 I3;rw[h];exact⟨rfl,rfl⟩
theorem Jl(h:GS l m=none):I2 l m=⟨0,0,0,0,0⟩/\I3 l m=9:=by unfold I2 I3;rw[h];exact⟨rfl,rfl⟩
theorem bI:(prog.info? 49).map (·.size)=some 5:=by kernel_rfl
theorem jj:(prog.info? 78).map (·.size)=some 3:=by kernel_rfl
theorem Qv(l:List Vt)(u v:Vt):BK (l++[u]) v=if v=u then BK l v+1 else BK l v:=by
 unfold BK;rw[nM];by_cases e:v=u
 .subst e;simp
 .rw[if_neg e];simp;exact λg=>e g.symm
theorem YO(x:Value)(ac:List Acc)(s:Int)(w:World)(h:Sac w x ac)(P:ac.length<=5)(a4:∀ a∈ac,Ah a) :
  Calls prog 155 #[x,.int .i64 s] w λe w'=>e=.returned (.tuple #[.agg (cmC (I2 (Dv ac s) ac.length)),.int .i64 (I3 (Dv ac s) ac.length)])/\Bw w w':=by
 have a0:Hid (∀ a∈ac,Ah a):=a4;clear a4;obtain⟨ax,cp,rfl⟩:=h.shape;obtain⟨N,hN⟩:∃ N,ac.length=N:=⟨_,rfl⟩;have HN:Hid (ac.length=N):=hN;rw[hN]at h P ⊢
 clear hN;have f8:(zV5:Array Value).all (·.oneCell')=true:=by simp[Value.oneCell']
 have rr:=heap_alloc_new w (.cells zV5 49);have bb:Bw w (w.alloc (.cells zV5 49)):=(Below.refl _ _).alloc (A' _) _;have z0:(w.alloc (.cells zV5 49)).heap.size=w.heap.size+1:=by simp
 generalize e6:w.alloc (.cells zV5 49)=w1 at rr bb z0;have h0:=h.af bb;clear h;have b0:Below (w.heap.size+1) w1 (w1.alloc (.map #[] 0)):=(Below.refl _ _).alloc (by omega) _;have v0:CMap (w1.alloc (.map #[] 0)) (w.heap.size+1) []:=by rw[<- z0];exact CMap.made _
 generalize e8:w1.alloc (.map #[] 0)=WA at b0 v0;have f4:=@run_makeMap prog;go_enter func155,ntmps155
 go_wp2_with fail
 clear e8 e6 f4;have b7:w.heap.size<w.heap.size+1:=by omega
 generalize hB:w.heap.size+1=B at b0 v0 z0 b7 ⊢;have HB:Hid (B=w1.heap.size):=z0.symm;clear hB z0
 go_loopw [14] (λiv wr=>∃ (j:Nat) (c:List Cnt),j<=N/\iv=.int .i64 (j:Int)/\CMap wr B c/\(∀ v,DE c v=BK (Ae ((ac.take j).map (·.vs)).flatten s) v)/\(∀ v,2*BK (Ae ((ac.take j).map (·.vs)).flatten s) v<=N)/\Below B w1 wr) (λiv _=>((N:Int)-intOf iv).toNat)
 case atStart=>exact⟨0,[],by omega,rfl,v0,λv=>rfl,λv=>by simp[BK,Ae],b0⟩
 case round =>
  clear v0 b0;obtain⟨j,c,hj,rfl,b3,a1,c8,E⟩:=hrel;have HC:Hid (∀ v,DE c v=BK (Ae ((ac.take j).map (·.vs)).flatten s) v):=a1;have HL:Hid (∀ v,2*BK (Ae ((ac.take j).map (·.vs)).flatten s) v<=N):=c8;clear a1 c8;by_cases f3:j<N
  .have hji:(j:Int)<(N:Int):=by omega
   obtain⟨A,hA⟩:∃ A,ac[j]?=some A:=⟨_,G' (by have:=HN.out;omega)⟩;obtain⟨b,e0,y,rfl,g0,d2,R⟩:=h0.spot j A hA;have d0:Ah A:=a0.out A (nr.2 ⟨j,hA⟩);obtain⟨⟨pr,pn⟩,l⟩:=A;simp only at d2 R;have c7:=Wf b e0 N cp j f3;obtain⟨ay,cy,hy⟩:=R.shape;obtain⟨M,hM⟩:∃ M,l.length=M:=⟨_,rfl⟩;have HM:Hid (l.length=M):=hM;rw[hM]at hy
   subst hy;have H:Hid (BL l):=d0.2.2;have HF:Hid (((ac.take (j+1)).map (·.vs)).flatten=((ac.take j).map (·.vs)).flatten++l):=Tw ac j _ hA;clear hA hM d0;have d3:=SP E (show b<B by rw[HB.out];exact g0) d2;have d4:=R.af (E.mono (by rw[HB.out];exact A' _));have F:Bw wr (wr.alloc (.cells #[.int .i64 0,.int .i64 0,.slice none 0 0] 78)):=(Below.refl _ _).alloc (A' _) _;have Z:=heap_alloc_new wr (.cells #[.int .i64 0,.int .i64 0,.slice none 0 0] 78);have d1:(#[.int .i64 pr,.int .i64 pn,.slice ay M cy]:Array Value).all (·.oneCell')=true:=by simp[Value.oneCell']
   generalize a7:wr.alloc (.cells #[.int .i64 0,.int .i64 0,.slice none 0 0] 78)=WN at F Z
   go_upto_region 5 with((with_reducible (refine CX ?_));first|(refine wpList_load_mid rfl 78 _ rfl b (e0+3*j) rfl [.int .i64 pr,.int .i64 pn,.slice ay M cy] _ d3 underlying78 rfl jj ?_)|(refine wpList_store_row rfl 78 (.tmp 8) (.tmp 17) rfl wr.heap.size (#[.int .i64 pr,.int .i64 pn,.slice ay M cy]) rfl rfl 78 _ Z jj rfl d1 ?_))
   clear a7;have q:=setRow_heap WN wr.heap.size _ (#[.int .i64 pr,.int .i64 pn,.slice ay M cy]) 78 _ Z;replace F:=E7 F (A' _) (#[.int .i64 pr,.int .i64 pn,.slice ay M cy]);generalize WN.setRow wr.heap.size (#[.int .i64 pr,.int .i64 pn,.slice ay M cy])=W at q F ⊢;have Y:wr.heap.size<W.heap.size:=(U'.1 q).1;have O:=b3.af F;have d5:=E.size;have f9:B<wr.heap.size:=b3.lt;have eW:=E.trans (F.mono (by omega));have sW:=d4.af F;generalize wr.heap.size=G at q Y f9 ⊢;have c2:W.cell? ⟨G,2,none⟩=some (.slice ay M cy):=cell_of_row _ _ 2 _ _ _ q;clear Z d3 c7 F b3 d4 E d5;go_wp2_with fail
   refine(JO _ l s W H.out sW).mono ?_;rintro e W2 ⟨p,rfl,hp,b2⟩;have HP:Hid (Plc l s p):=hp;have c2:=(b2.cell (p:=⟨G,2,none⟩) Y).trans c2;have V:=O.af b2;have s2:=sW.af b2;have e2:=eW.trans (b2.mono (by omega));have g2:G<W2.heap.size:=j' Y b2.size;clear hp b2 O sW eW q Y;go_wp2_with fail
   refine(JH _ l p s W2 s2).mono ?_;rintro e T ⟨rfl,rfl⟩;generalize hh:Lr l p s=bh;cases bh
   .have HT:Hid (Ae ((ac.take (j+1)).map (·.vs)).flatten s=Ae ((ac.take j).map (·.vs)).flatten s):=by
     unfold Hid;rw[HF.out,DA,Plc.rj H.out HP.out (Ls hh),mz]
    clear hh;go_wp2
    go_roundw
    case rel=>exact⟨j+1,c,by omega,by go_num,V,by rw[HT.out];exact HC.out,by rw[HT.out];exact HL.out,e2⟩
    case measure=>simp[intOf];omega
   .obtain⟨u,hu,hus⟩:=NA hh;have HT:Hid (Ae ((ac.take (j+1)).map (·.vs)).flatten s=Ae ((ac.take j).map (·.vs)).flatten s++[u]):=by
     unfold Hid;rw[HF.out,DA,Plc.rF H.out hu hus]
    have f6:p<M:=by have:=(V'.1 hu).1;have:=HM.out;omega
    obtain⟨b4,o4,f0,d8,c0⟩:=s2.spot p u hu;subst f0;have f2:=Jr b4 o4 M cy p f6;have hi:=ZP u;have c6:DE c u=BK (Ae ((ac.take j).map (·.vs)).flatten s) u:=HC.out u;have f5:=HL.out u;obtain⟨n,X⟩:∃ n,BK (Ae ((ac.take j).map (·.vs)).flatten s) u=n:=⟨_,rfl⟩;rw[X]at c6 f5
    have c3:Hid (BK (Ae ((ac.take (j+1)).map (·.vs)).flatten s) u=n+1):=by unfold Hid;rw[HT.out,Qv,if_pos rfl,X]
    have a5:Hid (∀ v,BK (Ae ((ac.take (j+1)).map (·.vs)).flatten s) v=if v=u then n+1 else BK (Ae ((ac.take j).map (·.vs)).flatten s) v):=λv=>by
     rw[HT.out,Qv];split
     .rename_i g;rw[g,X]
     .rfl
    clear hu hus hh X HT;obtain⟨D,⟨C,z⟩,⟨k,f,o,m,r⟩⟩:=u;simp only[vtC]at c0 hi;have F:Bw T (T.alloc (.cells zV8 140)):=(Below.refl _ _).alloc (A' _) _;have Z:=heap_alloc_new T (.cells zV8 140);have b9:(#[.int .i64 D,.int .i64 C,.int .i64 z,.int .i64 k,.int .i64 f,.int .i64 o,.int .i64 m,.int .i64 r]:Array Value).all (·.oneCell')=true:=by simp[Value.oneCell']
    generalize a7:T.alloc (.cells zV8 140)=WN at F Z
    go_upto_region 8 with((with_reducible (refine CX ?_));first|(refine wpList_load_mid rfl 140 _ rfl b4 (o4+8*p) rfl [.int .i64 D,.int .i64 C,.int .i64 z,.int .i64 k,.int .i64 f,.int .i64 o,.int .i64 m,.int .i64 r] _ c0 underlying140 rfl hi ?_)|(refine wpList_store_row rfl 140 (.tmp 10) (.tmp 32) rfl T.heap.size (#[.int .i64 D,.int .i64 C,.int .i64 z,.int .i64 k,.int .i64 f,.int .i64 o,.int .i64 m,.int .i64 r]) rfl rfl 140 _ Z hi rfl b9 ?_))
    clear a7;have q:=setRow_heap WN T.heap.size _ (#[.int .i64 D,.int .i64 C,.int .i64 z,.int .i64 k,.int .i64 f,.int .i64 o,.int .i64 m,.int .i64 r]) 140 _ Z;replace F:=E7 F (A' _) (#[.int .i64 D,.int .i64 C,.int .i64 z,.int .i64 k,.int .i64 f,.int .i64 o,.int .i64 m,.int .i64 r]);generalize WN.setRow T.heap.size (#[.int .i64 D,.int .i64 C,.int .i64 z,.int .i64 k,.int .i64 f,.int .i64 o,.int .i64 m,.int .i64 r])=W at q F ⊢;have d7:T.heap.size<W.heap.size:=(U'.1 q).1;have O:=V.af F;have d6:B<T.heap.size:=V.lt;have eW:=e2.trans (F.mono (by omega));generalize T.heap.size=G2 at q d7 d6 ⊢;clear Z c0 f2 F V e2 c2 s2 d8;apply Zb (λt W2=>∃ U,CMap W2 B U/\(∀ u,DE U u=if u=⟨D,⟨C,z⟩,⟨k,f,o,m,r⟩⟩then n+1 else DE c u)/\W2.heap[G2]?=some (.cells (vtA ⟨D,⟨C,z⟩,⟨k,f,o,m,r⟩⟩) 140 (0,0))/\Below B W W2)
    .intro K2 HK2;refine wp_region_held (S:=λw':World=>w'.heap[G2]?=some (.cells (vtA ⟨D,⟨C,z⟩,⟨k,f,o,m,r⟩⟩) 140 (0,0))) (by kernel_rfl) ?_;have L:(λw':World=>w'.heap[G2]?=some (.cells (vtA ⟨D,⟨C,z⟩,⟨k,f,o,m,r⟩⟩) 140 (0,0))) W.drew:=q;have c5:CMap W.drew B c:=O.ov rfl;refine Ba (i:=0) 33 (v:=.map (some B)) rfl rfl (by kernel_rfl) (by kernel_rfl) (by kernel_rfl) (λ_ _ _ h=>h) (p8 ⟨by rfl,λ_ _=>by kernel_rfl⟩) L ?_;simp only[Act.put,mj,mo,mp];refine Ba (i:=1) 34 (v:=.agg (vtA ⟨D,⟨C,z⟩,⟨k,f,o,m,r⟩⟩)) rfl rfl (by kernel_rfl) (by kernel_rfl) (by kernel_rfl) (λ_ _ _ h=>h) (fb (by rfl) (.tmp 10) rfl G2 rfl ⟨D,⟨C,z⟩,⟨k,f,o,m,r⟩⟩ (λw' f7=>f7)) L ?_;simp only[Act.put,mj,mo,mp];obtain⟨ca,cd,t,w5,K,J,e9,c1,b5,k5⟩:=c5.entry ⟨D,⟨C,z⟩,⟨k,f,o,m,r⟩⟩;have P:DE c ⟨D,⟨C,z⟩,⟨k,f,o,m,r⟩⟩=n:=c6;rw[P]at K J c1
     have I:w5.heap[G2]?=some (.cells (vtA ⟨D,⟨C,z⟩,⟨k,f,o,m,r⟩⟩) 140 (0,0)):=(k5 G2 (by omega)).trans L;obtain⟨w6,Q,f1,b6,k6⟩:=J.store (n+1);have a6:w6.heap[G2]?=some (.cells (vtA ⟨D,⟨C,z⟩,⟨k,f,o,m,r⟩⟩) 140 (0,0)):=(k6 G2 (by omega)).trans I;have a2:=c5.look ⟨D,⟨C,z⟩,⟨k,f,o,m,r⟩⟩;rw[P]at a2
     have a3:=J.look ⟨D,⟨C,z⟩,⟨k,f,o,m,r⟩⟩;rw[c1,P]at a3
     have c4:Hid (∃ U,CMap w6 B U/\(∀ u,DE U u=if u=⟨D,⟨C,z⟩,⟨k,f,o,m,r⟩⟩then n+1 else DE c u)/\w6.heap[G2]?=some (.cells (vtA ⟨D,⟨C,z⟩,⟨k,f,o,m,r⟩⟩) 140 (0,0))/\Below B W w6):=⟨_,f1,λu=>by rw[Va (n:=n) e9,c1],a6,((Below.refl B W).drew.trans b5).trans b6⟩;refine cN (i:=2) (i':=4) (by kernel_rfl) (YW (i:=2) (d:=35) rfl (by kernel_rfl) rfl 258 (.tmp 33) (.tmp 34) rfl (.map (some B)) (.agg (vtA ⟨D,⟨C,z⟩,⟨k,f,o,m,r⟩⟩)) (.int .i64 (n:Int)) (by kernel_rfl) (by kernel_rfl) a2 ⟨L,?_⟩) (Um (i:=4) (d:=37) rfl (by kernel_rfl) rfl 258 (.tmp 33) (.tmp 34) rfl (.map (some B)) (.agg (vtA ⟨D,⟨C,z⟩,⟨k,f,o,m,r⟩⟩)) (.tuple #[.int .i64 (n:Int),.int .i64 (t:Int)]) (by kernel_rfl) (by kernel_rfl) K ⟨I,?_⟩)
     .simp only[Act.put,mj,mo,mp];refine Ba (i:=3) 36 (v:=.int .i64 ((n+1:Nat):Int)) rfl rfl (by kernel_rfl) (by kernel_rfl) (by kernel_rfl) (λ_ _ _ h=>h) (Ot (by rfl) (.tmp 35) rfl n (n+1) rfl rfl (by omega)) L ?_;simp only[Act.put,mj,mo,mp];refine DU (i:=4) (by kernel_rfl) (Um (i:=4) (d:=37) rfl (by kernel_rfl) rfl 258 (.tmp 33) (.tmp 34) rfl (.map (some B)) (.agg (vtA ⟨D,⟨C,z⟩,⟨k,f,o,m,r⟩⟩)) (.tuple #[.int .i64 (n:Int),.int .i64 (t:Int)]) (by kernel_rfl) (by kernel_rfl) K ⟨I,?_⟩);simp only[Act.put,mj,mo,mp];refine Ba (i:=5) 38 (v:=.int .i64 (t:Int)) rfl rfl (by kernel_rfl) (by kernel_rfl) (by kernel_rfl) (λ_ _ _ h=>h) (p8 ⟨by rfl,λ_ _=>by kernel_rfl⟩) I ?_;simp only[Act.put,mj,mo,mp];refine DU (i:=6) (by kernel_rfl) (Qx (i:=6) rfl (by kernel_rfl) rfl 258 (.tmp 33) (.tmp 38) (.tmp 36) rfl (.map (some B)) (.int .i64 (t:Int)) (.int .i64 ((n+1:Nat):Int)) (by kernel_rfl) (by kernel_rfl) (by kernel_rfl) Q ⟨a6,?_⟩);exact wpAnyH_done (by kernel_rfl) (HK2.out t _ c4.out) _
     .simp only[Act.put,mj,mo,mp];refine Ba (i:=5) 38 (v:=.int .i64 (t:Int)) rfl rfl (by kernel_rfl) (by kernel_rfl) (by kernel_rfl) (λ_ _ _ h=>h) (p8 ⟨by rfl,λ_ _=>by kernel_rfl⟩) I ?_;simp only[Act.put,mj,mo,mp];refine DU (i:=2) (by kernel_rfl) (YW (i:=2) (d:=35) rfl (by kernel_rfl) rfl 258 (.tmp 33) (.tmp 34) rfl (.map (some B)) (.agg (vtA ⟨D,⟨C,z⟩,⟨k,f,o,m,r⟩⟩)) (.int .i64 (n:Int)) (by kernel_rfl) (by kernel_rfl) a3 ⟨I,?_⟩);simp only[Act.put,mj,mo,mp];refine Ba (i:=3) 36 (v:=.int .i64 ((n+1:Nat):Int)) rfl rfl (by kernel_rfl) (by kernel_rfl) (by kernel_rfl) (λ_ _ _ h=>h) (Ot (by rfl) (.tmp 35) rfl n (n+1) rfl rfl (by omega)) I ?_;simp only[Act.put,mj,mo,mp];refine DU (i:=6) (by kernel_rfl) (Qx (i:=6) rfl (by kernel_rfl) rfl 258 (.tmp 33) (.tmp 38) (.tmp 36) rfl (.map (some B)) (.int .i64 (t:Int)) (.int .i64 ((n+1:Nat):Int)) (by kernel_rfl) (by kernel_rfl) (by kernel_rfl) Q ⟨a6,?_⟩);exact wpAnyH_done (by kernel_rfl) (HK2.out t _ c4.out) _
    intro t W5 e7;obtain⟨U,J,b1,q5,b5⟩:=e7;have e5:=eW.trans b5;have c9:=J.look ⟨D,⟨C,z⟩,⟨k,f,o,m,r⟩⟩;rw[b1,if_pos rfl]at c9
    have e3:Hid (∀ v,DE U v=BK (Ae ((ac.take (j+1)).map (·.vs)).flatten s) v):=λv=>by rw[b1,a5.out v,HC.out v]
    have e1:Hid (CMap W5 B U):=J;clear b1 J q eW b5 O HC;have a9:((n+1:Nat):Int)=(n:Int)+1:=by omega
    rw[a9]at c9
    by_cases g1:N<2*(n+1)
    .have HCH:Hid (I2 (Dv ac s) N=⟨k,f,o,m,r⟩/\I3 (Dv ac s) N=0):=by
      refine Jm (v:=⟨D,⟨C,z⟩,⟨k,f,o,m,r⟩⟩) (R3 ?_ ?_)
      .have g:=gk a0.out s;rw[HN.out]at g
       exact g
      .have g:=dm (Ae ((ac.take (j+1)).map (·.vs)).flatten s) (Ae ((ac.drop (j+1)).map (·.vs)).flatten s) ⟨D,⟨C,z⟩,⟨k,f,o,m,r⟩⟩;rw[<- DA,<- List.flatten_append,<- mB,np,c3.out]at g
       show N<2*BK (Dv ac s) ⟨D,⟨C,z⟩,⟨k,f,o,m,r⟩⟩;unfold Dv;omega
     have a8:(N:Int)<2*((n:Int)+1):=by omega
     have x3:W5.cell? ⟨G2,3,none⟩=some (.int .i64 k):=cell_of_row _ _ 3 _ _ _ q5;have x4:W5.cell? ⟨G2,4,none⟩=some (.int .i64 f):=cell_of_row _ _ 4 _ _ _ q5;have x5:W5.cell? ⟨G2,5,none⟩=some (.int .i64 o):=cell_of_row _ _ 5 _ _ _ q5;have x6:W5.cell? ⟨G2,6,none⟩=some (.int .i64 m):=cell_of_row _ _ 6 _ _ _ q5;have x7:W5.cell? ⟨G2,7,none⟩=some (.int .i64 r):=cell_of_row _ _ 7 _ _ _ q5;have rR:=(e5.block w.heap.size b7).trans rr;have b8:(#[.int .i64 k,.int .i64 f,.int .i64 o,.int .i64 m,.int .i64 r]:Array Value).all (·.oneCell')=true:=by simp[Value.oneCell']
     go_wp2_with ((with_reducible (refine CX ?_));first|(refine wpList_load_row rfl 140 (.tmp 10) rfl G2 rfl 140 _ (0,0) _ q5 underlying140 rfl hi ?_)|(refine wpList_store_row rfl 49 (.tmp 4) (.tmp 47) rfl w.heap.size #[.int .i64 k,.int .i64 f,.int .i64 o,.int .i64 m,.int .i64 r] rfl rfl 49 _ rR bI rfl b8 ?_))
     have q9:=setRow_heap W5 w.heap.size _ (#[.int .i64 k,.int .i64 f,.int .i64 o,.int .i64 m,.int .i64 r]) 49 _ rR;have d9:=E7 (bb.trans (e5.mono (by omega))) (A' _) (#[.int .i64 k,.int .i64 f,.int .i64 o,.int .i64 m,.int .i64 r]);refine bodyPost_ret (fw rfl _ _ w.heap.size 49 _ (0,0) _ rfl q9 underlying49 rfl bI) rfl ?_;rw[HCH.out.1,HCH.out.2];exact⟨rfl,d9⟩
    .have a8:¬ (N:Int)<2*((n:Int)+1):=by omega
     have e4:Hid (∀ v,2*BK (Ae ((ac.take (j+1)).map (·.vs)).flatten s) v<=N):=λv=>by
      rw[a5.out v];split
      .omega
      .exact HL.out v
     clear a5 c3 HL;go_wp2_with ((with_reducible (refine CX ?_));(refine wpList_load_row rfl 140 (.tmp 10) rfl G2 rfl 140 _ (0,0) _ q5 underlying140 rfl hi ?_))
     go_roundw
     case rel=>exact⟨j+1,U,by omega,by go_num,e1.out,e3.out,e4.out,e5⟩
     case measure=>simp[intOf];omega
  .have HCH:Hid (I2 (Dv ac s) N=⟨0,0,0,0,0⟩/\I3 (Dv ac s) N=9):=by
    refine Jl (Xv λv=>?_);have g:=HL.out v;rw[mq (by have:=HN.out;omega)]at g
    exact g
   have rR:=(E.block w.heap.size b7).trans rr;go_wp2_with ((with_reducible (refine CX ?_));(refine wpList_store_row rfl 49 (.tmp 4) (.tmp 49) rfl w.heap.size zV5 rfl rfl 49 _ rR bI rfl f8 ?_))
   have q9:=setRow_heap wr w.heap.size _ (zV5) 49 _ rR;have d9:=E7 (bb.trans (E.mono (by omega))) (A' _) (zV5);refine bodyPost_ret (fw rfl _ _ w.heap.size 49 _ (0,0) _ rfl q9 underlying49 rfl bI) rfl ?_;rw[HCH.out.1,HCH.out.2];exact⟨rfl,d9⟩
theorem jW{x:S3}{c:Nat}(d:x.a=some ⟨b,c,none⟩)(j:Nat)(f:j<x.n):(Instr.indexAt 200 x.v (iv (j:Int))).run prog W=.ok (pt b (c+3*j)) W:=by
 unfold S3.v;rw[d];exact MV (P:=prog) (e:=78) (z:=3) underlying200 (by kernel_rfl) (by kernel_rfl) f _ rfl
theorem fC{a:Acc}{y:S3}(h:W.rangeAt b k [iv a.p.r,iv a.p.n,S3.v y]):(Instr.loadAt 78 (pt b k)).run prog W=.ok (.agg #[iv a.p.r,iv a.p.n,S3.v y]) W:=by
 have c:=run_loadVar_mid (P:=prog) W b k 78 _ _ h underlying78 rfl (by kernel_rfl);simp only[Instr.loadAt,Instr.sureAddr,Sem.run_bind,Sem.run_pure,Result.andThen_ok];exact c
theorem Xx(h:(0<=s/\s<=39)/\(1<=(ac.length:Int)/\(ac.length:Int)<=5))(b:∀ a∈ac,Ah a):CM ac s=I2 (Dv ac s) ac.length/\CV ac s=I3 (Dv ac s) ac.length:=by
 cases ho:GS (Dv ac s) ac.length with
 | none=>rw[(Jl ho).1,(Jl ho).2];exact Xy h b ho
 | some v=>rw[(Jm ho).1,(Jm ho).2];exact Xz h b ho
theorem KS(x:Value)(ac:List Acc)(s:Int)(w:World)(h:Sac w x ac)(ht:NTab w) :
  Calls prog 123 #[x,.int .i64 s] w λe w'=>e=.returned (.tuple #[.agg (cmC (CM ac s)),.int .i64 (CV ac s)])/\Bw w w':=by
 have a1:=h.len;obtain⟨a,i,rfl⟩:=h.shape;obtain⟨y,H⟩:∃ y:S3,y=⟨a,ac.length,i⟩:=⟨_,rfl⟩;have a2:y.n=ac.length:=by rw[H]
 rw[show(.slice a ac.length i:Value)=y.v by rw[H]]at h ⊢
 clear H;refine tIn [] func123 trivial (tR 9 [1,0] λb _ _=>?_);by_cases L:0<=s/\s<=39
 .refine tC1 1 (λF C=>Eb (r:=true) (O' L)) λ_=>tR 4 [] λa3 _ _=>?_;by_cases h2:y.n<1
  .refine tV 6 (.bool true) (λF C=>(rLt (t:=3) (m:=(y.n:Int)) (n:=1) (x:=(.tmp 14)) (y:=(.const (iv 1))) (O' (by omega)))) ?_;refine tR 14 [0,0] λa4 _ _=>tX λF C=>qE2 4 5 49 0 (b 0) #[iv 0,iv 0,iv 0,iv 0,iv 0] (iv 2) λ_=>by rw[(Dz (ac:=ac) (s:=s) (by omega)).1,(Dz (ac:=ac) (s:=s) (by omega)).2];exact⟨rfl,CgQ.af C⟩
  .refine tV 6 (.bool false) (λF C=>(rLt (t:=3) (m:=(y.n:Int)) (n:=1) (x:=(.tmp 14)) (y:=(.const (iv 1))) (E' (by omega)))) (tR 4 [] λa5 _ _=>?_);by_cases h3:5<y.n
   .refine tV 11 (.bool true) (λF C=>(rGt (t:=3) (m:=(y.n:Int)) (n:=5) (x:=(.tmp 19)) (y:=(.const (iv 5))) (O' (by omega)))) ?_;refine tR 9 [0,0] λa6 _ _=>tX λF C=>qE2 4 5 49 0 (b 0) #[iv 0,iv 0,iv 0,iv 0,iv 0] (iv 2) λ_=>by rw[(Dz (ac:=ac) (s:=s) (by omega)).1,(Dz (ac:=ac) (s:=s) (by omega)).2];exact⟨rfl,CgQ.af C⟩
   .refine tV 11 (.bool false) (λF C=>(rGt (t:=3) (m:=(y.n:Int)) (n:=5) (x:=(.tmp 19)) (y:=(.const (iv 5))) (E' (by omega)))) ?_;have N:(0<=s/\s<=39)/\(1<=(ac.length:Int)/\(ac.length:Int)<=5):=by omega
    refine tR 12 [] λa7 _ _=>Dx 41 [(0,S3.v y),(1,iv s),(4,pt (b 0) 0),(23,S3.v y),(24,iv (y.n:Int)),(25,iv 0)] [true] [⟨(b 0),.cells #[iv 0,iv 0,iv 0,iv 0,iv 0] 49,.l,false⟩] [] (λkk ee LL o=>∃ (j:Nat),kk=y.n-j/\ee=[(0,S3.v y),(1,iv s),(4,pt (b 0) 0),(23,S3.v y),(24,iv (y.n:Int)),(25,iv (j:Int))]/\LL=[⟨(b 0),.cells #[iv 0,iv 0,iv 0,iv 0,iv 0] 49,.l,false⟩]/\o=[]/\j<=ac.length/\∀ a∈ac.take j,Ah a) (y.n) ⟨0,rfl,rfl,rfl,rfl,by omega,λa u=>(by simp at u)⟩ (λF=>trivial) ?_;rintro k _ _ _ ⟨j,rfl,rfl,rfl,rfl,hj,d⟩ _ _ _ J hJ;refine tR 5 [] λa8 _ _=>?_;by_cases h4:j<y.n
    .refine tI ((decide ((j:Int)<(y.n:Int)))) true (O' (by omega)) ?_;obtain⟨A,B⟩:∃ A,ac[j]?=some A:=⟨_,G' (by omega)⟩;obtain⟨bb,K,yl,I,G,hr,P⟩:=h.spot j A B;obtain⟨z,rfl⟩:=P.s3;refine tR 5 [] λa9 _ _=>tV 0 (pt bb (K+3*j)) (λF C=>(jW I j (by omega))) (tV 1 (.agg #[iv A.p.r,iv A.p.n,S3.v z]) (λF C=>(fC (a:=A) (SP (CgQ.af C) G hr))) (tR 6 [0,0,1,0,1] λR _ _=>tC1 1 (λF C=>IY A.p z.v A.vs _ (P.af (CgQ.af C)) (ht.af (CgQ.af C))) λ_=>tR 7 [] λS _ _=>?_));by_cases q:Ah A
     .have f:Fr ⟨A.p,A.vs⟩=0:=if_pos q;refine tI (((Fr ⟨A.p,A.vs⟩) != 0)) false (by rw[f];decide) (tR 3 [] λT _ _=>tV 0 (iv ((j:Int)+1)) (λF C=>(AK 25 (j:Int) underlying3 (by omega))) (tR 2 [] λU _ _=>tB hJ (y.n-(j+1)) (by omega) [true,false] ⟨j+1,rfl,rfl,rfl,rfl,by omega,λa u=>by rw[oh,B]at u;exact(P'.1 u).elim (d a) λg=>by rw[show a=A by simpa using g];exact q⟩ (λF=>trivial)))
     .have f:Fr ⟨A.p,A.vs⟩=5:=if_neg q;have M:=UV N λg=>q (g A (mG B));refine tI (((Fr ⟨A.p,A.vs⟩) != 0)) true (by rw[f];decide) ?_;refine tR 7 [0,0] λV _ _=>tX λF C=>qE2 4 5 49 0 (b 0) #[iv 0,iv 0,iv 0,iv 0,iv 0] (iv (Fr ⟨A.p,A.vs⟩)) λ_=>by rw[f,M.1,M.2];exact⟨rfl,CgQ.af C⟩
    .refine tI ((decide ((j:Int)<(y.n:Int)))) false (E' (by omega)) ?_;rw[mq (show ac.length<=j by omega)]at d
     obtain⟨X,O⟩:∃ X,I2 (Dv ac s) ac.length=X:=⟨_,rfl⟩;obtain⟨E,f⟩:∃ E,I3 (Dv ac s) ac.length=E:=⟨_,rfl⟩;have Q:=λW g=>YO y.v ac s W g (by omega) d;have D:=Xx N d;rw[O,f]at D
     simp only[O,f]at Q;refine tR 5 [] λY _ _=>tC1 2 (λF C=>Q _ (h.af (CgQ.af C))) λ_=>tR 5 [0,0] λZ _ _=>tX λF C=>qE2 4 5 49 0 (b 0) #[iv X.k,iv X.c,iv X.s,iv X.n,iv X.v] (iv E) λ_=>by rw[D.1,D.2];exact⟨rfl,CgQ.af C⟩
 .refine tC1 1 (λF C=>Eb (r:=false) (E' L)) λ_=>tR 19 [0,0] λa0 _ _=>tX λF C=>qE2 4 5 49 0 (b 0) #[iv 0,iv 0,iv 0,iv 0,iv 0] (iv 2) λ_=>by rw[(Dz (ac:=ac) (s:=s) (by omega)).1,(Dz (ac:=ac) (s:=s) (by omega)).2];exact⟨rfl,CgQ.af C⟩
theorem L9{g:Gh}(b:w.heap[nb]?=some (.cells (AI i ob p x) 97))(a:j<5):w.rangeAt nb (18+3*j) [iv (p.av.an j).p.r,iv (p.av.an j).p.n,S3.v (x.hv j)]:=by
 rcases qq a with rfl|rfl|rfl|rfl|rfl<;>exact QE b _ _ rfl
theorem Qr(h:NodeAt g w i nb ob x p):Sac w (.slice (some ⟨nb,18,none⟩) 5 5) p.av.hU:=by
 refine⟨⟨some ⟨nb,18,none⟩,5,rfl,.inr ⟨nb,18,rfl,rl h.row,λj A a=>?_⟩⟩,by show 5<=3518437208780;decide⟩;have b:j<5:=by have:=(V'.1 a).1;exact this
 refine⟨S3.v (x.hv j),?_⟩;have c:=L9 (g:=g) h.row b;have d:=(h.an j b).s;rcases qq b with rfl|rfl|rfl|rfl|rfl<;>(simp[Rnd.hU]at a;subst a;exact⟨c,d⟩)
theorem Xt(h:40<=s):CV ac s≠0:=by rw[(Dz (by omega)).2];decide
theorem Xw{n:Nat}(h:CV ac (n:Int)=0):n<=39:=by
 rcases mY 39 n with h2|h2
 .exact absurd h (Xt (by omega))
 .exact h2
theorem AV.at{L:List Sh}(h:AV L W)(k b:Nat)(o:Obj)(t:Tg)(a:L[k]?=some ⟨b,o,t,false⟩):W.heap[b]?=some o:=h _ (mG a)
theorem FT(h:NS i nb ob g w p ls ts){w0:World}(hB:Base w0 g w)(hT:Tabs w0)(hb:p.ae.length<=40) :
  Calls prog 87 #[pt nb 0] w (NP i nb ob g w (.tuple #[]) p.qv ls ts):=by
 obtain⟨x,lt,tl,hN,hO,hg⟩:=h;refine gI (fn:=f87) (TN i) g func87 hg (qN hN (qO hO (qR [] 1 [] λs1 g1 w1 c1=>BY 34 [(0,pt nb 0)] [false,false] [] (λk O Q e L=>∃ l:List Cmd,e=[(0,pt nb 0)]/\L=[]/\NS i nb ob O Q { p with ae:=l } ls ts/\F8 k p.av l=F8 41 p.av p.ae/\41<=l.length+k/\l.length<=41/\Cg w.heap.size (TN i) g w O Q) (by kernel_rfl) (by kernel_rfl) (by kernel_rfl) (by kernel_rfl) 41 (λK=>?_) ?_)))
 .have C2:=c1;exact⟨p.ae,rfl,rfl,(nsC hN hO C2 K),rfl,by omega,by omega,(c1.nil (TN i))⟩
 .rintro k gr wr _ zr _ ⟨l,rfl,rfl,hM,hI,hk1,hk2,hC⟩ J hJ;obtain⟨b,H,M,a,u,a7⟩:=hM;refine qN a (qO u ?_);have q:b.ae.n=l.length:=a.ae.num;refine qR [] 15 [19,0,2,4,6,8,10,12,14,16,18,20,0,22] λs3 g3 w3 y=>Cn 34 (λO Q e L=>∃ (bA:Nat),e=[(0,pt nb 0),(2,pt bA 0),(3,iv (CV p.av.hU (b.ae.n:Int)))]/\L=[⟨nb,.cells (AI i ob ({ p with ae:=l }) b) 97,.n 0 i,false⟩,⟨ob,.cells #[S3.v H,S3.v M] 67,.n 50 0,false⟩,⟨bA,.cells #[iv (CM p.av.hU (b.ae.n:Int)).k,iv (CM p.av.hU (b.ae.n:Int)).c,iv (CM p.av.hU (b.ae.n:Int)).s,iv (CM p.av.hU (b.ae.n:Int)).n,iv (CM p.av.hU (b.ae.n:Int)).v] 49,.l,false⟩]/\Cg w.heap.size [] gr wr O Q) (by kernel_rfl) ?_ ?_
  .intro J hJ;refine Dm 12 16 (by kernel_rfl) ?_ ?_
   .have hS6:=Qr (a.ch y);have W:=hB.ch (((hC.n y))) (Bx i);refine qC 12 (KS _ _ (b.ae.n:Int) w3 hS6 (W.tn hT)) ?_;rintro e' w7 ⟨rfl,Z⟩;refine⟨_,rfl,Z,?_⟩;have c7:=Cg.eb (B:=w.heap.size) (T:=[]) (g:=g3) Z;refine qR [] 7 [26,28,30,33,1,0,35,2,0,36] λs8 g8 w8 c8=>qB [true,true,true] λz N K=>hJ _ _ _ z _ ⟨(s8 0),rfl,rfl,((y.trans c7).trans c8)⟩ K
   .refine qR [] 1 [1,0] λs9 g9 w9 V=>?_;have G:=Qr (a.ch (y.trans V));have F:=hB.ch (hC.trans ((y.trans V).nil _)) (Bx i);refine qC 12 (KS _ _ (b.ae.n:Int) w9 G (F.tn hT)) ?_;rintro e' b2 ⟨rfl,A⟩;refine⟨_,rfl,A,?_⟩;have S:=Cg.eb (B:=w.heap.size) (T:=[]) (g:=g9) A;refine qR [] 6 [26,28,30,35,2,0,36] λa9 a2 b3 U=>qB [true,true,true] λz N K=>hJ _ _ _ z _ ⟨(s9 0),rfl,rfl,(((y.trans V).trans S).trans U)⟩ K
  .rintro g4 w4 _ z4 _ ⟨bA,rfl,rfl,hc⟩;refine qR [] 6 [] λb0 a3 b4 o=>?_;by_cases P:CV p.av.hU (b.ae.n:Int)≠0
   .refine qI (((CV p.av.hU (b.ae.n:Int)) != 0)) true (by simpa using P) (qE (.tuple #[]) λK=>?_);have hE:p.qv={ p with ae:=l }:=by unfold Nod.qv;rw[<- hI];cases k with|zero=>rfl|succ k=>rw[F8,if_neg (by rw[<- q];exact P)]
    rw[hE];exact⟨_,rfl,(nsC a u (hc.n o) K),((hC.n hc).n o)⟩
   .refine qI (((CV p.av.hU (b.ae.n:Int)) != 0)) false (by simpa using P) ?_;have E:CV p.av.hU (b.ae.n:Int)=0:=by simpa using P
    have a0:l.length<=39:=by rw[<- q];exact Xw E
    obtain⟨k,rfl⟩:∃ k1,k=k1+1:=⟨k-1,by omega⟩;refine qR [] 10 [12,0,2,4,6,8,10,0,12,2,15,0,0] λI a4 b5 r=>Kj 8 (x:=b.ae) 38 38 49 5 40 (.agg #[iv 0,iv 0,iv 0,iv 0,iv 0]) ⟨(I 0),0,none⟩ 1 1 [iv (CM p.av.hU (b.ae.n:Int)).k,iv (CM p.av.hU (b.ae.n:Int)).c,iv (CM p.av.hU (b.ae.n:Int)).s,iv (CM p.av.hU (b.ae.n:Int)).n,iv (CM p.av.hU (b.ae.n:Int)).v] (a.ae.ch ((hc.trans o).trans r) (by simp) (by simp)) (by kernel_rfl) (by kernel_rfl) (by kernel_rfl) underlying38 (by kernel_rfl) (by kernel_rfl) (by decide) (by decide) rfl (by simp[Value.oneCell']) (λK=>BR K 3 (I 0) [iv (CM p.av.hU (b.ae.n:Int)).k,iv (CM p.av.hU (b.ae.n:Int)).c,iv (CM p.av.hU (b.ae.n:Int)).s,iv (CM p.av.hU (b.ae.n:Int)).n,iv (CM p.av.hU (b.ae.n:Int)).v] 49 .z true (by kernel_rfl)) (by unfold maxLen;omega) (by omega) ?_;intro Y a5 b6 R a8 D a1;have C:=D w.heap.size [.n 3 i] (D'.2 rfl);refine qR [.n 0 i] 6 [18,20,22,25,0,1] λb1 a6 b8 t=>E5 J 34 [(0,pt nb 0)] [false,false,false,false] [] (by kernel_rfl) (by kernel_rfl) (by kernel_rfl) (by kernel_rfl) (by kernel_rfl) (λz N K=>?_);have X:CM p.av.hU (b.ae.n:Int)=CM p.av.hU (l.length:Int):=by rw[q]
    refine hJ k _ _ _ z _ (by omega) ⟨l++[CM p.av.hU (l.length:Int)],rfl,rfl,?_,?_,by simp;omega,by simp;omega,(((((hC.n hc).n o).n r).trans (C.mono (by simp[TN]))).trans (t.mono (by simp[TN])))⟩ K
    skip
    have d:=((((hc.nil ([.n 3 i,.n 0 i]:List Tg)).n o).n r).m C).m t;have j:Tg.z∉([.n 3 i,.n 0 i]:List Tg):=by simp
    .rw[<- X];exact⟨{ b with ae:=Y },H,M,N.nd 0 (a.tape.ch d j) (a.lp.ch d j) (BA a.an d j) (Cb a.bu d j (by simp)) (a.ew.ch d) (by rw[Cq];exact R.ch t) (a.bn.ch d) (a.bN.ch d) a.rz,u.ch d j (by simp<;>omega),N.new⟩
    .rw[<- hI,F8,if_pos (by rw[<- q];exact E)]
theorem Nr(h:NS i nb ob g w p ls ts){w0:World}(hB:Base w0 g w)(hT:Tabs w0)(j:Nat)(hj:j<5)(v:Vt)(hb:p.ae.length<=40) :
  Calls prog 90 #[pt nb 0,iv (j:Int),.agg #[iv v.bt,iv v.b.r,iv v.b.n,iv v.w.k,iv v.w.c,iv v.w.s,iv v.w.n,iv v.w.v]] w (NP i nb ob g w (.tuple #[]) (p.count j v) ls ts):=by
 obtain⟨x,lt,tl,d,hO,hg⟩:=h;refine gI (fn:=f90) (TN i) g func90 hg (qN d (qO hO (qR [] 15 [0,0,9,0,2,2,4,6,8,10,12,14,0] λs1 g1 w1 C=>?_)));by_cases S:v.b≠p.av.fv
 .refine qT 8 (.bool true) (λ_=>(I9 (x:=(.tmp 9)) (y:=(.tmp 15)) v.b p.av.fv S)) (qR [] 2 [] λs2 g2 w2 c2=>qE (.tuple #[]) λK=>?_);rw[show p.count j v=p from if_pos S];exact⟨_,rfl,(nsC d hO (C.n c2) K),((C.nil (TN i)).n c2)⟩
 .have h10:v.b=p.av.fv:=by simpa using S
  refine qT 8 (.bool false) (λ_=>(I8 (x:=(.tmp 9)) (y:=(.tmp 15)) v.b p.av.fv h10)) (qR [] 11 [16,0,2,4,6,8,10] λs4 g4 w4 G=>?_);refine PY 6 (pt nb (18+3*j)) false (λW hW=>by rcases qq hj with rfl|rfl|rfl|rfl|rfl<;>kernel_rfl) (by kernel_rfl) ?_;refine qU 7 (.agg #[iv (p.av.an j).p.r,iv (p.av.an j).p.n,S3.v (x.hv j)]) (λW hW=>(fC (L9 (g:=g) (AV.at (hW rfl) 0 nb (.cells (AI i ob p x) 97) (.n 0 i) (by kernel_rfl)) hj))) (qR [] 1 [16,2] λs6 g6 w6 H=>Cn 42 (λg' w' e L=>∃ (ys:S3) (bA:Nat),e=[(0,pt nb 0),(1,iv (j:Int)),(6,pt bA 0),(7,iv (AX (p.av.an j) v))]/\L=[⟨nb,.cells (AI i ob p x) 97,.n 0 i,false⟩,⟨ob,.cells #[S3.v lt,S3.v tl] 67,.n 50 0,false⟩,⟨(s1 0),.cells #[iv v.bt,iv v.b.r,iv v.b.n,iv v.w.k,iv v.w.c,iv v.w.s,iv v.w.n,iv v.w.v] 140,.z,false⟩,⟨bA,.cells #[iv (BH (p.av.an j) v).r,iv (BH (p.av.an j) v).n,S3.v ys] 78,.l,false⟩]/\FSv g' w' ys (Bq (p.av.an j) v)/\Cg w.heap.size [] g w g' w') (by kernel_rfl) ?_ ?_)
  .intro J hJ;refine Dm 9 13 (by kernel_rfl) ?_ ?_
   .refine Ag λa5=>?_;have b5:=((d.an j hj).ch ((C.trans G).trans H) (by simp)).s;have b3:=hB.ch ((C.trans G).trans H) (by simp);have b4:∀ z,w6.heap.size<=z->g6.t z=.z:=λz hz=>(a5.new z hz).1;refine qC 9 (Cp (p.av.an j).p _ (p.av.an j).vs v w6 b5 (b3.tn hT)) ?_;rintro e' e3 ⟨f3,rfl,a0,c5,M⟩;refine⟨_,rfl,M,?_⟩;have a7:=Cg.eb (B:=w.heap.size) (T:=[]) (g:=g6) M;obtain⟨a3,rfl,b6,E⟩:=DW a0 b4 (by omega);refine qR [] 7 [20,22,24,27,1,0,29,3,0,30] λb8 d0 e4 O=>qB [true,true,true,true] λz K0 K=>hJ _ _ _ z _ ⟨a3,(b8 0),rfl,rfl,(E.ch O),((((C.trans G).trans H).trans a7).trans O)⟩ K
   .refine qR [] 1 [1,0] λb9 R a2 D=>Ag λI=>?_;have Z:=((d.an j hj).ch (((C.trans G).trans H).trans D) (by simp)).s;have U:=hB.ch (((C.trans G).trans H).trans D) (by simp);have V:∀ z,a2.heap.size<=z->R.t z=.z:=λz hz=>(I.new z hz).1;refine qC 9 (Cp (p.av.an j).p _ (p.av.an j).vs v a2 Z (U.tn hT)) ?_;rintro e' e5 ⟨f4,rfl,a1,c7,N⟩;refine⟨_,rfl,N,?_⟩;have a8:=Cg.eb (B:=w.heap.size) (T:=[]) (g:=R) N;obtain⟨a4,rfl,b7,F⟩:=DW a1 V (by omega);refine qR [] 6 [20,22,24,29,3,0,30] λd7 d1 e6 P=>qB [true,true,true,true] λz K0 K=>hJ _ _ _ z _ ⟨a4,(b9 0),rfl,rfl,(F.ch P),(((((C.trans G).trans H).trans D).trans a8).trans P)⟩ K
  .rintro g7 w7 _ z7 _ ⟨ys,bA,rfl,rfl,hys,hc⟩;refine qR [] 6 [] λd8 d2 e7 m=>?_;by_cases h2:AX (p.av.an j) v≠0
   .refine qI (((AX (p.av.an j) v) != 0)) true (by simpa using h2) (qE (.tuple #[]) λK=>?_);rw[show p.count j v=p from by unfold Nod.count;rw[if_neg S,if_pos h2]];exact⟨_,rfl,(nsC d hO (hc.n m) K),((hc.nil (TN i)).n m)⟩
   .refine qI (((AX (p.av.an j) v) != 0)) false (by simpa using h2) (qR [] 10 [8,0,2,4,3,6,8,10,12] λd9 b1 c0 q=>Cn 42 (λg' w' e L=>e=[(0,pt nb 0)]/\L=[⟨nb,.cells (AI i ob ({ p with av:={ p.av with an:=upN p.av.an j ⟨BH (p.av.an j) v,Bq (p.av.an j) v⟩ } }) ({ x with hv:=upN x.hv j ys })) 97,.n 0 i,false⟩,⟨ob,.cells #[S3.v lt,S3.v tl] 67,.n 50 0,false⟩,⟨(s1 0),.cells #[iv v.bt,iv v.b.r,iv v.b.n,iv v.w.k,iv v.w.c,iv v.w.s,iv v.w.n,iv v.w.v] 140,.z,false⟩,⟨bA,.cells #[iv (BH (p.av.an j) v).r,iv (BH (p.av.an j) v).n,S3.v ys] 78,.l,false⟩]/\True/\Cg w.heap.size ([.n 0 i]:List Tg) b1 c0 g' w') (by kernel_rfl) ?_ ?_)
    .intro J hJ;rcases qq hj with rfl|rfl|rfl|rfl|rfl <;>
     (refine qR [.n 0 i] 3 [14,17,0,1] λe0 d4 e9 a9=>?_;exact qB [true,true,true,true] λz K0 K=>hJ _ _ _ z _ ⟨rfl,rfl,trivial,a9⟩ K)
    rintro d3 e8 _ f5 _ ⟨rfl,rfl,_,u⟩;refine qR [] 2 [] λe1 b2 c3 A=>?_;rw[show p.count j v=Nod.qv { p with av:={ p.av with an:=upN p.av.an j ⟨BH (p.av.an j) v,Bq (p.av.an j) v⟩ } }from by unfold Nod.count;rw[if_neg S,if_neg h2]];refine Ag λK=>?_;have a:=((((hc.nil ([.n 0 i]:List Tg)).n m).n q).trans (u)).n A;have o:Tg.z∉([.n 0 i]:List Tg):=by simp
    have a6:NS i nb ob b2 c3 ({ p with av:={ p.av with an:=upN p.av.an j ⟨BH (p.av.an j) v,Bq (p.av.an j) v⟩ } }) ls ts:=⟨{ x with hv:=upN x.hv j ys },lt,tl,K.nd 0 (d.tape.ch a o) (d.lp.ch a o) (λk hk=>(by show FSv _ _ (upN x.hv j ys k) (upN p.av.an j ⟨BH (p.av.an j) v,Bq (p.av.an j) v⟩ k).vs;unfold upN;split;exact((((hys.ch m).ch q).ch u).ch A);exact(d.an k hk).ch a o)) (Cb d.bu a o (by simp)) (d.ew.ch a) (d.ae.ch a) (d.bn.ch a) (d.bN.ch a) d.rz,hO.ch a o (by simp<;>omega),K.new⟩;refine qS0 1 [false,false,true,true] (FT a6 (hB.ch (((((hc.nil (TN i)).n m).n q).trans (u.mono (by simp[TN]))).n A) (Bx i)) hT hb) λd5 f0 f2 c8 c9 X Y b0=>qR [] 1 [] λe2 d6 f1 Q=>qF X Y Q (((((((hc.nil (TN i)).n m).n q).trans (u.mono (by simp[TN]))).n A).trans (b0)).n Q)
theorem Pn(h:NS i nb ob g w p ls ts){o:World}(t:Base o g w)(u:Tabs o)(e:Nat)(l:Let)(A:CK g w e l)(D:l.src<5)(v:p.ae.length<=40) :
  Calls prog 48 #[pt nb 0,pt e 0] w (NP i nb ob g w (.tuple #[]) (p.count l.src l.cl) ls ts):=by
 obtain⟨x,lt,N,k,m,y⟩:=h;refine gI (fn:=f48) (TN i) g func48 y (qN k (qO m ?_));obtain⟨G,H,a,B,C⟩:=A;refine Cl ⟨e,.cells (F7 l G H) 142,.z,false⟩ (λ_=>⟨a.r,a.z,λh=>(by cases h),λh=>absurd rfl h⟩) (by kernel_rfl) ?_;refine qR [] 10 [9,0,2,4,6,8,2,10,12,14,16,2] λL I O b=>qS 9 [false,false,true] k m b (λq=>Nr q (t.ch (b.nil (TN i)) (Bx i)) u l.src D l.cl v) λJ P R E F c d s=>qR [] 1 [] λM K Q j=>qF c d j (((b.nil (TN i)).trans (s)).n j)
theorem GH(q:List Cmd)(c:Cmd)(l:List Cmd):GU q (c::l)=GU (if q.length<40/\c∉q then q++[c]else q) l:=rfl
theorem DH{l:List Cmd}{c:Cmd}(h:l[j]?=some c):l.drop j=c::l.drop (j+1):=by
 obtain⟨a,b⟩:=V'.1 h;rw[<- b];exact mQ a
theorem bY(q l:List Cmd)(h:q.length<=40):(GU q l).length<=40:=by
 induction l generalizing q with
 | nil=>exact h
 | cons c l ih =>
  rw[GH];refine ih _ ?_;split
  .rw[H'];show _+1<=_;omega
  .exact h
theorem JD(h:NS i nb ob g w p ls ts)(a:List Cmd)(I:S3)(hw:Rc g w I a)(hb:a.length<100000000)(hq:p.av.ew.length<=40) :
  Calls prog 92 #[pt nb 0,I.v] w (NP i nb ob g w (.tuple #[]) (p.dT a) ls ts):=by
 have c3:=h;obtain⟨x,lt,tl,hN,hO,hg⟩:=h;have d1:=hw.len;refine gI (fn:=f92) (TN i) g func92 hg (qN hN (qO hO (qR [] 4 [] λs1 g1 w1 R=>Ag λK=>?_)));have N3:NS i nb ob g1 w1 p ls ts:=(nsC hN hO R K);refine qC 1 (NG N3) ?_;rintro e' w4 ⟨rfl,b4⟩;refine⟨_,rfl,b4,?_⟩;have c4:=Cg.eb (B:=w.heap.size) (T:=[]) (g:=g1) b4;refine qR [] 2 [] λs5 g5 w5 c5=>?_;by_cases h1:p.leads=true
 .refine qI ((!p.leads)) false (by simpa using h1) ?_;rw[show p.dT a={ p with av:={ p.av with ew:=GU p.av.ew a } }from if_pos h1];refine qR [] 8 [] λs6 g6 w6 c6=>BY 49 [(0,pt nb 0),(9,S3.v I),(10,iv (I.n:Int)),(11,iv 0)] [false,false] [] (λk g' w' e L=>∃ (j:Nat) (q:List Cmd),k=a.length-j/\j<=a.length/\e=[(0,pt nb 0),(9,S3.v I),(10,iv (I.n:Int)),(11,iv (j:Int))]/\L=[]/\NS i nb ob g' w' { p with av:={ p.av with ew:=q } } ls ts/\GU q (a.drop j)=GU p.av.ew a/\q.length<=40/\Cg w.heap.size (TN i) g w g' w') (by kernel_rfl) (by kernel_rfl) (by kernel_rfl) (by kernel_rfl) a.length (λK=>?_) ?_
  .have C7:=((R.n c4).n c5).n c6;exact⟨0,p.av.ew,rfl,by omega,rfl,rfl,(nsC hN hO C7 K),rfl,hq,((((R.nil (TN i)).n c4).n c5).n c6)⟩
  .rintro k gr wr _ zr _ ⟨j,q,rfl,hj,rfl,rfl,hM,hI,hq1,hC⟩ J hJ;obtain⟨xr,a6,a7,b,F,c7⟩:=hM;refine qN b (qO F ?_);have d0:xr.ew.n=q.length:=b.ew.num;refine qR [] 5 [] λs8 g8 w8 E=>?_;by_cases h2:j<a.length
   .refine qI ((decide ((j:Int)<(I.n:Int)))) true (O' (by omega)) ?_;obtain⟨c,H⟩:∃ c,a[j]?=some c:=⟨_,G' h2⟩;have a4:=hw.ch hC (Bx i);obtain⟨bx,ox,a0⟩:=hw.addr h2;refine qR [] 5 [] λs9 g9 w9 G=>qV 0 (pt bx (ox+5*j)) (LM a0 j (by omega)) ?_;have a5:=a4.ch (E.trans G);refine qV 1 (.agg #[iv c.k,iv c.c,iv c.s,iv c.n,iv c.v]) (OY c λq_ u hu=>a5.cellAt a0 H hu) (qR [] 12 [0,0,2,0,19,0,2,4,6,8,10,0,12] λd3 b0 e3 o=>?_);by_cases h3:(xr.ew.n:Int)<40
    .refine qT 7 (.bool true) (λ_=>(rLt (t:=3) (x:=(.tmp 21)) (y:=(.const (iv 40))) (O' h3))) (qR [] 8 [16,18,20,22,24,26,28,0,30,2] λd4 a3 e4 r=>qC 16 (Fu (l:=q) (b.ew.ch (((E.trans G).trans o).trans r) (by simp) (by simp)).rd (by omega) c) ?_);rintro e' e5 ⟨rfl,Q⟩;refine⟨_,rfl,Q,?_⟩;have C:=Cg.eb (B:=w.heap.size) (T:=[]) (g:=a3) Q;refine qR [] 3 [34,36] λd5 b1 e6 D=>?_;by_cases h4:c∈q
     .refine qI ((!(decide (c∈q)))) false (by simpa using h4) (qR [] 3 [] λd6 b2 e7 S=>qV 0 (iv ((j:Int)+1)) (AK 11 (j:Int) underlying3 (by omega)) (qR [] 2 [] λd7 b3 e8 U=>qB [false,false,false] λz P K=>hJ (a.length-(j+1)) _ _ _ z _ (by omega) ⟨j+1,q,rfl,by omega,rfl,rfl,?_,?_,by omega,((((((((hC.n E).n G).n o).n r).n C).n D).n S).n U)⟩ K))
      .exact(nsC b F (((((((E.n G).n o).n r).n C).n D).n S).n U) P)
      .rw[<- hI,DH H,GH,if_neg (λh=>h.2 h4)]
     .refine qI ((!(decide (c∈q)))) true (by simpa using h4) (qR [] 10 [14,0,2,4,6,8,10,12,0,14,2,17,0,0] λa1 b5 e9 M=>Kj 9 (x:=xr.ew) 38 38 49 5 40 (.agg #[iv 0,iv 0,iv 0,iv 0,iv 0]) ⟨(a1 0),0,none⟩ 1 1 [iv c.k,iv c.c,iv c.s,iv c.n,iv c.v] (b.ew.ch ((((((E.trans G).trans o).trans r).trans C).trans D).trans M) (by simp) (by simp)) (by kernel_rfl) (by kernel_rfl) (by kernel_rfl) underlying38 (by kernel_rfl) (by kernel_rfl) (by decide) (by decide) rfl (by simp[Value.oneCell']) (λK=>BR K 3 (a1 0) [iv c.k,iv c.c,iv c.s,iv c.n,iv c.v] 49 .z true (by kernel_rfl)) (by unfold maxLen;omega) (by omega) ?_);intro a8 b6 f0 a2 d2 Z a9;have V:=Z w.heap.size [.n 2 i] (D'.2 rfl);refine qR [.n 0 i] 8 [20,22,24,26,29,0,1] λd8 b7 f1 N=>qV 0 (iv ((j:Int)+1)) (AK 11 (j:Int) underlying3 (by omega)) (qR [] 2 [] λd9 b8 f2 O=>qB [false,false,false,false] λz P K=>hJ (a.length-(j+1)) _ _ _ z _ (by omega) ⟨j+1,(q++[c]),rfl,by omega,rfl,rfl,?_,?_,by simp;omega,((((((((((hC.n E).n G).n o).n r).n C).n D).n M).trans (V.mono (by simp[TN]))).trans (N.mono (by simp[TN]))).n O)⟩ K);have d:=(((((((((E.nil ([.n 2 i,.n 0 i]:List Tg)).n G).n o).n r).n C).n D).n M).m V).m N).n O;have A:Tg.z∉([.n 2 i,.n 0 i]:List Tg):=by simp
      .exact⟨{ xr with ew:=a8 },a6,a7,P.nd 0 (b.tape.ch d A) (b.lp.ch d A) (BA b.an d A) (Cb b.bu d A (by simp)) (by rw[Cq];exact((a2.ch N).ch O)) (b.ae.ch d) (b.bn.ch d) (b.bN.ch d) b.rz,F.ch d A (by simp<;>omega),P.new⟩
      .rw[<- hI,DH H,GH,if_pos ⟨by omega,h4⟩]
    .refine qT 7 (.bool false) (λ_=>(rLt (t:=3) (x:=(.tmp 21)) (y:=(.const (iv 40))) (E' h3))) (qR [] 16 [16,18,20,22,24,26,28,30,32,34,36] λe0 b9 f3 W=>qV 0 (iv ((j:Int)+1)) (AK 11 (j:Int) underlying3 (by omega)) (qR [] 2 [] λe1 c0 f4 X=>qB [false,false,false] λz P K=>hJ (a.length-(j+1)) _ _ _ z _ (by omega) ⟨j+1,q,rfl,by omega,rfl,rfl,?_,?_,by omega,(((((hC.n E).n G).n o).n W).n X)⟩ K))
     .exact(nsC b F ((((E.n G).n o).n W).n X) P)
     .rw[<- hI,DH H,GH,if_neg (by omega)]
   .refine qI ((decide ((j:Int)<(I.n:Int)))) false (E' (by omega)) (qR [] 1 [] λe2 c2 f5 Y=>?_);obtain rfl:j=a.length:=by omega
    rw[nN]at hI
    refine qE (.tuple #[]) λK=>?_;rw[<- hI];exact⟨_,rfl,(nsC b F (E.n Y) K),((hC.n E).n Y)⟩
 .refine qI ((!p.leads)) true (by simpa using h1) (qE (.tuple #[]) λK=>?_);rw[show p.dT a=p from if_neg h1];exact⟨_,rfl,(nsC hN hO ((R.n c4).n c5) K),(((R.nil (TN i)).n c4).n c5)⟩
theorem EZ(h:NS i nb ob g w p ls ts){b:Bool}(a:p.leads=b) :
  Calls prog 86 #[pt nb 0] w λe w'=>e=.returned (.bool b)/\Bw w w':=by subst a;exact NG h
theorem XS(p:Nod)(l:List Cmd):(p.dT l).bu=p.bu:=by unfold Nod.dT;split<;>rfl
theorem Mf(h:NS i nb ob g w p ls ts)(k:Nat)(l:Let)(F:CK g w k l)(E:l.kind=6)(O:p.bu.length<100000000)(v:l.fa.length<100000000)(R:p.av.ew.length<=40) :
  Calls prog 50 #[pt nb 0,pt k 0] w (NP i nb ob g w (.tuple #[]) (p.take l) ls ts):=by
 obtain⟨x,lt,tl,C,D,P⟩:=h;refine gI (fn:=f50) (TN i) g func50 P (qN C (qO D ?_));have s:=F;obtain⟨X,G,j,Q,y⟩:=F;refine Cl ⟨k,.cells (F7 l X G) 142,.z,false⟩ (λ_=>⟨j.r,j.z,λh=>(by cases h),λh=>absurd rfl h⟩) (by kernel_rfl) ?_;refine qR [] 12 [0,0,0,0,5,0,3,2,4,4,6,8,2] λm g1 w1 b=>qS 5 [false,false,true,true,true] C D b (λI=>JD I l.fa G (y.ch (b.nil (TN i)) (Bx i)) v R) λg2 w2 H S V a e o=>?_;have hn:=a.ae.num;refine qR [] 15 [11,0,2,2,4,6,0,8,1,10,12,14,16,3,18,20] λs4 g4 w4 d=>?_;by_cases B:l.bt<(p.dT l.fa).ae.length
 .refine qI ((decide ((l.bt:Int)<(H.ae.n:Int)))) true (O' (by omega)) (qR [] 3 [1] λs5 N Z q=>?_);rw[show p.take l=(p.dT l.fa).wait (.tell l.src l.bt)from by unfold Nod.take;rw[E];exact if_pos B];refine Ag λK=>?_;obtain⟨z1,z2⟩:=K.ra 1 (m 0) (.cells #[pt nb 0] 70) false (by kernel_rfl);obtain⟨z3,z4⟩:=K.ra 2 (m 1) (.cells #[pt k 0] 143) false (by kernel_rfl);have J:NS i nb ob N Z (p.dT l.fa) ls ts:=(nsC a e (d.n q) K);refine qS0 2 [true,true,true,false,false] (AR J (by rw[XS];exact O) _ _ (.tell l.src l.bt) ⟨(m 0),(m 1),k,l,rfl,⟨z1,z2⟩,⟨z3,z4⟩,s.ch ((((b.nil (TN i)).trans (o)).n d).n q) (Bx i),rfl,rfl⟩) λg6 w6 x6 T W t u L=>qR [] 1 [] λs8 g8 w8 A=>qF t u A ((((((b.nil (TN i)).trans (o)).n d).n q).trans (L)).n A)
 .refine qI ((decide ((l.bt:Int)<(H.ae.n:Int)))) false (E' (by omega)) (qR [] 1 [] λU M Y c=>qE (.tuple #[]) λK=>?_);rw[show p.take l=(p.dT l.fa)from by unfold Nod.take;rw[E];exact if_neg B];exact⟨_,rfl,(nsC a e (d.n c) K),((((b.nil (TN i)).trans (o)).n d).n c)⟩
theorem Kw(h:NS i nb ob g w p ls ts){w0:World}(hB:Base w0 g w)(hT:Tabs w0)(M:Nat)(l:Let)(hl:CK g w M l)(Z:l.kind=1)(hs:l.src<5)(hb:(p.jv 0 l.fa).ae.length<=40)(b2:l.fa.length<=40)(Y:(p.av.an l.src).vs.length<100000000) :
  Calls prog 45 #[pt nb 0,pt M 0] w (NP i nb ob g w (.tuple #[]) (p.take l) ls ts):=by
 obtain⟨I,src,q,b,cl,a,c,fa⟩:=l;simp only at Z hs hb b2 Y;obtain⟨x,lt,tl,hN,hO,hg⟩:=h;refine gI (fn:=f45) (TN i) g func45 hg (qN hN (qO hO ?_));obtain⟨vs,wh,a0,b3,a1⟩:=hl;obtain⟨wa,wn,wc⟩:=wh;obtain rfl:wn=fa.length:=a1.len;have d8:p.ae.length<=40:=me (by unfold Nod.jv;rw[H'];omega) hb;refine Cl ⟨M,.cells (F7 (Let.mk I src q b cl a c fa) vs (S3.mk wa fa.length wc)) 142,.z,false⟩ (λ_=>⟨a0.r,a0.z,λh=>(by cases h),λh=>absurd rfl h⟩) (by kernel_rfl) ?_;refine qR [] 7 [2] λs1 g1 w1 A=>qS 5 [false,false,true] hN hO A (λN2=>NH N2 0 fa (S3.mk wa fa.length wc) (a1.ch (A.nil (TN i)) (Bx i)) (by omega) (by omega) (by omega)) λg2 w2 x2 b4 b5 s t E=>?_;by_cases h1:(p.jv 0 fa).leads=false
 .refine qR [] 5 [29,0] λs4 g4 w4 c4=>Ag λK=>?_;have N6:NS i nb ob g4 w4 (p.jv 0 fa) ls ts:=(nsC s t c4 K);refine qC 1 (EZ N6 h1) ?_;rintro e' w7 ⟨rfl,b7⟩;refine⟨_,rfl,b7,?_⟩;have c7:=Cg.eb (B:=w.heap.size) (T:=[]) (g:=g4) b7;refine qR [] 29 [4,6,8,10,12,14,16,18,20,22,24,26,28,30,32,34,36,38,40,42,44,46,48,50,52,54,56] λs8 g8 w8 c8=>qE (.tuple #[]) λK=>?_;rw[show p.take (Let.mk I src q b cl a c fa)=(p.jv 0 fa)from by unfold Nod.take;rw[Z];exact if_pos (.inl h1)];exact⟨_,rfl,(nsC s t ((c4.n c7).n c8) K),(((((A.nil (TN i)).trans (E)).n c4).n c7).n c8)⟩
 .have h10:(p.jv 0 fa).leads=true:=by simpa using h1
  refine qR [] 5 [29,0] λd9 S b6 d=>Ag λK=>?_;have a3:NS i nb ob S b6 (p.jv 0 fa) ls ts:=(nsC s t d K);refine qC 1 (EZ a3 h10) ?_;rintro e' e9 ⟨rfl,O⟩;refine⟨_,rfl,O,?_⟩;have j:=Cg.eb (B:=w.heap.size) (T:=[]) (g:=S) O;refine qR [] 12 [4,6,8,10,12,14,0,16,18,20,22,24,26,1] λe0 c6 f0 k=>?_;by_cases h2:b≠(p.jv 0 fa).av.fv
  .refine qT 14 (.bool true) (λ_=>(I9 (x:=(.tmp 17)) (y:=(.tmp 23)) b (p.jv 0 fa).av.fv h2)) (qR [] 16 [30,32,34,36,38,40,42,44,46,48,50,52,54,56] λe1 c9 f1 P=>qE (.tuple #[]) λK=>?_);rw[show p.take (Let.mk I src q b cl a c fa)=(p.jv 0 fa)from by unfold Nod.take;rw[Z];exact if_pos (.inr (.inl h2))];exact⟨_,rfl,(nsC s t (((d.n j).n k).n P) K),((((((A.nil (TN i)).trans (E)).n d).n j).n k).n P)⟩
  .have h20:b=(p.jv 0 fa).av.fv:=by simpa using h2
   refine qT 14 (.bool false) (λ_=>(I8 (x:=(.tmp 17)) (y:=(.tmp 23)) b (p.jv 0 fa).av.fv h20)) (qR [] 11 [30,32,34,36,38,40,42,0,44,46,48,50] λe2 a9 b8 m=>Cn 69 (λg' w' e L=>e=[(0,pt nb 0),(1,pt M 0),(38,.bool ((p.jv 0 fa).av.qm src))]/\L=[⟨M,.cells (F7 (Let.mk I src q b cl a c fa) vs (S3.mk wa fa.length wc)) 142,.z,false⟩,⟨nb,.cells (AI i ob (p.jv 0 fa) x2) 97,.n 0 i,false⟩,⟨ob,.cells #[S3.v b4,S3.v b5] 67,.n 50 0,false⟩]/\True/\Cg w.heap.size ([]:List Tg) a9 b8 g' w') (by kernel_rfl) ?_ ?_)
   .intro J hJ;rcases qq hs with rfl|rfl|rfl|rfl|rfl <;>
    (refine qR [] 4 [52,54,1,56] λe3 d1 f3 a6=>?_;exact qB [true,true,true] λz K0 K=>hJ _ _ _ z _ ⟨rfl,rfl,trivial,(a6.nil ([]:List Tg))⟩ K)
   rintro d0 f2 _ g3 _ ⟨rfl,rfl,_,o⟩;by_cases h3:(p.jv 0 fa).av.qm src=true
   .refine qI (((p.jv 0 fa).av.qm src)) true h3 (qE (.tuple #[]) λK=>?_);rw[show p.take (Let.mk I src q b cl a c fa)=(p.jv 0 fa)from by unfold Nod.take;rw[Z];exact if_pos (.inr (.inr h3))];exact⟨_,rfl,(nsC s t ((((d.n j).n k).n m).n o) K),(((((((A.nil (TN i)).trans (E)).n d).n j).n k).n m).n o)⟩
   .refine qI (((p.jv 0 fa).av.qm src)) false (by simpa using h3) (qR [] 15 [12,0,2,4,6,8,10,12,14,0,16,18,20,22,0] λe4 d2 f4 u=>qS 12 [true,false,false] s t (((((d.n j).n k).n m).n o).n u) (λa4=>Qd a4 (hB.ch ((((((((A.nil (TN i)).trans (E)).n d).n j).n k).n m).n o).n u) (Bx i)) hT src hs a vs (b3.ch ((((((((A.nil (TN i)).trans (E)).n d).n j).n k).n m).n o).n u) (Bx i)) Y) λd3 f5 a2 C D U W Q=>qR [] 17 [15,0,2,4,6,8,0,10,12,14,16,0,18,20,22,24,26] λe5 b0 b9 F=>Cn 69 (λg' w' e L=>e=[(0,pt nb 0)]/\L=[⟨M,.cells (F7 (Let.mk I src q b cl a c fa) vs (S3.mk wa fa.length wc)) 142,.z,false⟩,⟨nb,.cells (AI i ob ({ (p.jv 0 fa)with av:={ (p.jv 0 fa).av.qJ src a with bw:=upN (p.jv 0 fa).av.bw src fa.length } }) a2) 97,.n 0 i,false⟩,⟨ob,.cells #[S3.v C,S3.v D] 67,.n 50 0,false⟩]/\True/\Cg w.heap.size ([.n 0 i]:List Tg) b0 b9 g' w') (by kernel_rfl) ?_ ?_)
    .intro J hJ;rcases qq hs with rfl|rfl|rfl|rfl|rfl <;>
     (refine qR [.n 0 i] 3 [28,31,1,1] λe6 d5 f7 a7=>?_;exact qB [true,true,true] λz K0 K=>hJ _ _ _ z _ ⟨rfl,rfl,trivial,a7⟩ K)
    rintro d4 f6 _ g5 _ ⟨rfl,rfl,_,G⟩;refine qR [] 2 [] λe7 b1 c0 H=>?_;rw[show p.take (Let.mk I src q b cl a c fa)=Nod.qv { (p.jv 0 fa)with av:={ (p.jv 0 fa).av.qJ src a with bw:=upN (p.jv 0 fa).av.bw src fa.length } }from by unfold Nod.take;rw[Z];exact if_neg (by rintro(h|h|h);exact h1 h;exact h2 h;exact h3 h)];refine Ag λK=>?_;have N:=((F.nil ([.n 0 i]:List Tg)).trans (G)).n H;have a5:NS i nb ob b1 c0 ({ (p.jv 0 fa)with av:={ (p.jv 0 fa).av.qJ src a with bw:=upN (p.jv 0 fa).av.bw src fa.length } }) ls ts:=⟨a2,C,D,K.si 1 U N,W.ch N (hn:=by simp<;>omega),K.new⟩;refine qS0 1 [true,false,false] (FT a5 (hB.ch ((((((((((((A.nil (TN i)).trans (E)).n d).n j).n k).n m).n o).n u).trans (Q)).n F).trans (G.mono (by simp[TN]))).n H) (Bx i)) hT hb) λd6 f8 g0 c3 c5 V X a8=>qR [] 1 [] λe8 d7 f9 R=>qF V X R ((((((((((((((A.nil (TN i)).trans (E)).n d).n j).n k).n m).n o).n u).trans (Q)).n F).trans (G.mono (by simp[TN]))).n H).trans (a8)).n R)
def tkG:Nat->FuncId
 | 0=>44
 | 1=>45
 | 2=>46
 | 3=>47
 | 4=>48
 | 5=>49
 | _=>50
def tkV(k:Nat):Value:=.func (.func (tkG k)) #[] #[]
def tkL(j:Nat):List MapEntry:=(List.range j).map λ(k:Nat)=>{ key:=iv (k:Int),val:=tkV k,born:=k }
structure TkAt(g:Gh)(w:World)(b j:Nat):Prop where
 t:g.t b=.n 70 0
 k:g.k b=0
 row:w.heap[b]?=some (.map (tkL j).toArray j)
theorem TkAt.ch{B:Nat}{T:List Tg}{d:Gh}{e:World}(h:TkAt g w b j)(c:Cg B T g w d e)(hn:Tg.n 70 0∉T:=by simp):TkAt d e b j :=
 have a:=c.rc h.row h.t hn
 ⟨a.2.1,a.2.2.trans h.k,a.1⟩
theorem ZO(h:k<7):k=0\/k=1\/k=2\/k=3\/k=4\/k=5\/k=6:=by omega
theorem Re(a:Bool)(k:Nat)(w:World):(Instr.checkKey a 10000 124 (iv (k:Int))).run prog w=.ok () w:=by kernel_rfl
theorem eC(h:j<7)(w:World):(Instr.findKey 124 (iv (j:Int)) (tkL j)).run prog w=.ok none w:=by
 rcases ZO h with rfl|rfl|rfl|rfl|rfl|rfl|rfl<;>kernel_rfl
theorem eB(h:j<7)(w:World):(Instr.findKey 124 (iv (j:Int)) (tkL 7)).run prog w=.ok (some (j,tkV j)) w:=by
 rcases ZO h with rfl|rfl|rfl|rfl|rfl|rfl|rfl<;>kernel_rfl
theorem iV(h:TkAt g w b j)(e:j<7):∃ w',(Instr.mapUpdate 68 (.map (some b)) (iv (j:Int)) (tkV j)).run prog w=.ok () w'/\TkAt g w' b (j+1)/\(∀ B T,Tg.n 70 0∈T->Cg B T g w g w')/\w'.heap.size=w.heap.size:=by
 have d:(getObj b).run prog w=.ok (.map (tkL j).toArray j) w:=by simp[getObj,Sem.run,h.row]
 have f:=MapKept.run_setObj_map (P:=prog) (w:=w) (.map (tkL (j+1)).toArray (j+1)) h.row;have c:((tkL j).toArray.push { key:=iv (j:Int),val:=tkV j,born:=j })=(tkL (j+1)).toArray:=by simp[tkL,List.range_succ]
 refine⟨_,?_,⟨h.t,h.k,ChangeMaps.heap_setBlock_same h.row (.map (tkL (j+1)).toArray (j+1))⟩,λB T a=>Cg.block h.row h.t h.k a _,by simp[ChangeMaps.setBlock]⟩;rw[Instr.mapUpdate];simp only[Sem.run_bind,run_underlying underlying68,Result.andThen_ok,d,Re,eC e,c,f];rfl
theorem rTk(a:w.heap[b]?=some (.map (tkL 7).toArray 7))(d:k<7):(Instr.lookup 68 (.map (some b)) (iv (k:Int)) false).run prog w=.ok (tkV k) w:=by
 have c:(getObj b).run prog w=.ok (.map (tkL 7).toArray 7) w:=by simp[getObj,Sem.run,a]
 simp[Instr.lookup,run_underlying underlying68,c,Re,eB d]
end
section
variable{fn:Func}{R:Ending->World->Prop}{B:Nat}{T:List Tg}{g:Gh}{w:World}
theorem j5{s:Xs}(d:Nat)(c:Dw s d=some (Instr.makeMap 68 none>>=λv=>pure (.value v)))
  (e:(nxt s d undef s.L).o.map Ob.l'=(nxt s d undef s.L).o.map Ob.r')
  (p:∀ b g' w',w.heap.size<=b->TkAt g' w' b 0->(∀ B T,Cg B T g w g' w')->(∀ b,w'.heap.size<=b->g'.t b=.z/\g'.k b=0)->GG prog fn R B T (nxt s d (.map (some b)) s.L).s g' w'):GG prog fn R B T s g w:=by
 refine Lq d s.L e (Cj c) λl r j o f=>?_;have q:(Instr.makeMap 68 none).run prog w=.ok (.map (some w.heap.size)) (w.alloc (.map #[] 0)):=by
  simp[Instr.makeMap,go_sem]
 have h:∀ B T,Cg B T g w (OE g w (.n 70 0) 0) (w.alloc (.map #[] 0)):=λB T =>
  ⟨rfl,rfl,rfl,by simp,λb a=>.inl (if_neg (by omega)),λb a=>by show _<=(if b=w.heap.size then _ else g.k b);rw[if_neg (by omega)];exact A' _,λb a _ _=>if_neg (by omega),λb a _ _=>heap_alloc_old w _ a,λb a j u=>World.cell?_of_block (w:=w) (heap_alloc_old w _ a)⟩
 have i:∀ b,(w.alloc (.map #[] 0)).heap.size<=b->(OE g w (.n 70 0) 0).t b=.z/\(OE g w (.n 70 0) 0).k b=0:=λb a=>by
  have m:w.heap.size+1<=b:=by simpa using a
  show(if b=w.heap.size then _ else g.t b)=.z/\(if b=w.heap.size then _ else g.k b)=0;rw[if_neg (by omega),if_neg (by omega)];exact l.new b (by omega)
 refine⟨.map (some w.heap.size),_,OE g w (.n 70 0) 0,.inl ?_,l.ch (h _ []) i (by simp),p _ _ _ (A' _) ⟨if_pos rfl,if_pos rfl,heap_alloc_new _ _⟩ h i⟩;rw[DB c f,Sem.run_bind,q,Result.andThen_ok];rfl
theorem Hu{s:Xs}(c:Nat){b j:Nat}(h:TkAt g w b j)(u:j<7)(a:Dw s c=some (Instr.mapUpdate 68 (.map (some b)) (iv (j:Int)) (tkV j)>>=λ_=>pure .skip))
  (d:(nxt s c undef s.L).o.map Ob.l'=(nxt s c undef s.L).o.map Ob.r')(r:s.L.all (λy=>[Tg.n 70 0].all λt=>y.t.ne t)=true)
  (v:∀ w',TkAt g w' b (j+1)->(∀ B T,Tg.n 70 0∈T->Cg B T g w g w')->GG prog fn R B T (nxt s c undef s.L).s g w'):GG prog fn R B T s g w:=by
 refine Lq c s.L d (Cj a) λk A i o e=>?_;obtain⟨w',x,p,f,q⟩:=iV h u;refine⟨undef,w',g,.inr ⟨?_,rfl⟩,k.ch (f _ [Tg.n 70 0] (D'.2 rfl)) (λb m=>k.new b (by rw[q]at m;exact m)) r,v w' p f⟩;rw[DB a e,Sem.run_bind,x,Result.andThen_ok];rfl
end
def TM:List Tg:=[0,1,2,3,4].flatMap TN
theorem Fq:Tg.z∉TM:=by simp[TM,TN]
theorem jg{i:Nat}(a:i<5):∀ t∈TN i,t∈TM:=λt b=>oO.2 ⟨i,by rcases qq a with rfl|rfl|rfl|rfl|rfl<;>simp,b⟩
theorem jh{i j r:Nat}(h:j≠i)(a:r<6):Tg.n r j∉TN i:=by simp[TN];omega
def mtA(nb:Nat->Nat)(ob tb:Nat):Array Value:=#[pt (nb 0) 0,pt (nb 1) 0,pt (nb 2) 0,pt (nb 3) 0,pt (nb 4) 0,pt ob 0,.map (some tb)]
structure MS(mb tb ob:Nat)(nb:Nat->Nat)(g:Gh)(w:World)(M:Meet):Prop where
 box:Box g w mb (mtA nb ob tb) 73
 tk:TkAt g w tb 7
 ab:∀ i,i<5->∃ x,NodeAt g w i (nb i) ob x (M.ab i)
 out:∃ lt tl,OutAt g w ob lt tl M.br M.eo
 new:IS g w
def MP(mb tb ob:Nat)(nb:Nat->Nat)(g:Gh)(w:World)(v:Value)(M:Meet):Ending->World->Prop:=λe w'=>∃ g',e=.returned v/\MS mb tb ob nb g' w' M/\Cg w.heap.size TM g w g' w'
section
variable{mb tb ob i:Nat}{nb:Nat->Nat}{g g':Gh}{w w':World}{M:Meet}
theorem MS.ns(h:MS mb tb ob nb g w M)(a:i<5):NS i (nb i) ob g w (M.ab i) M.br M.eo :=
 let ⟨x,hx⟩:=h.ab i a
 let ⟨lt,tl,ho⟩:=h.out
 ⟨x,lt,tl,hx,ho,h.new⟩
theorem MS.qH{B:Nat}(h:MS mb tb ob nb g w M)(c:Cg B [] g w g' w')(b:IS g' w'):MS mb tb ob nb g' w' M :=
 ⟨h.box.ch c,h.tk.ch c,λi a=>let ⟨x,hx⟩:=h.ab i a;⟨x,hx.ch c⟩,let ⟨lt,tl,ho⟩:=h.out;⟨lt,tl,ho.ch c⟩,b⟩
theorem MS.of{B:Nat}(h:MS mb tb ob nb g w M)(q:i<5){p:Nod}{a:List Let}{b:List Tol}(m:NS i (nb i) ob g' w' p a b)(c:Cg B (TN i) g w g' w'):MS mb tb ob nb g' w' ⟨upN M.ab i p,a,b⟩:=by
 obtain⟨x,lt,o,d,f,k⟩:=m;refine⟨h.box.ch c (Bx i),h.tk.ch c (by simp[TN]),λj l=>?_,⟨lt,o,f⟩,k⟩;by_cases e:j=i
 .subst e;exact⟨x,by show NodeAt g' w' j (nb j) ob x (upN M.ab j p j);rw[Da];exact d⟩
 .obtain⟨y,hy⟩:=h.ab j l;exact⟨y,by show NodeAt g' w' j (nb j) ob y (upN M.ab i p j);rw[Ds _ _ e];exact hy.ch c (Bx i) λr n=>jh e n⟩
theorem MS.call(h:MS mb tb ob nb g w M)(b:i<5){f:FuncId}{a:Array Value}{v:Value}{p:Nod}{d:List Let}{j:List Tol}(l:Calls prog f a w (NP i (nb i) ob g w v p d j)):Calls prog f a w (MP mb tb ob nb g w v ⟨upN M.ab i p,d,j⟩) :=
 l.mono λe o ⟨k,m,n,c⟩=>⟨k,m,h.of b n c,c.mono (jg b)⟩
theorem Ul{W:World}(b:W.heap[mb]?=some (.cells (mtA nb ob tb) 73)){j:Nat}(a:j<5):W.cell? ⟨mb,j,none⟩=some (pt (nb j) 0):=by
 rcases qq a with rfl|rfl|rfl|rfl|rfl<;>(rw[cell_of_row _ _ _ _ _ _ b];rfl)
end
end Go.Proofs.YtgbabbapcibnlabGreatDoor
