/- Part 19 of the walk: what the functions of the program do, one by one. -/
import Derived.Test.YtakgfdbjgeopdaaGreatDoorZ18
set_option maxRecDepth 100000
set_option maxHeartbeats 4000000
open Go.Proofs.Tryz
set_option linter.unusedVariables false
namespace Go.Proofs.YtakgfdbjgeopdaaGreatDoor
open Go.RowKit
structure RdC(w:World)(x:S3)(l:List Cmd):Prop where
 len:x.n=l.length
 cap:x.n≤x.c
 nul:x.a=none→x.c=0
 ex:l=[]∨∃ b off,x.a=some ⟨b,off,none⟩∧b<w.heap.size∧∀ j u,(cmL l)[j]?=some u→w.cell? ⟨b,off+j,none⟩=some u
theorem OwnS.rd{g:Gh}{w:World}{τ:Tg}{kp:Bool}{e:TypeId}{x:S3}{l:List Cmd}(h:OwnS g w τ kp e 5 x (cmL l)):RdC w x l:=by
 have hn:=h.num;rcases h.ex with⟨h1,h2,h3⟩|⟨b,cur,h1,h2,h3,h4,h5,h6,h7,h8⟩
 ·exact⟨hn,by omega,fun _=>h3,.inl (List.eq_nil_of_length_eq_zero (by omega))⟩
 ·refine⟨hn,h3,fun h=>(by rw[h1]at h;cases h),.inr ⟨b,0,h1,rl h2,fun j u hj=>?_⟩⟩;obtain⟨b',hb',_,hc⟩:=h.cell hj;rw[h1]at hb'
  simp only[Option.some.injEq,Addr.mk.injEq,and_true]at hb';subst hb';rw[Nat.zero_add];exact hc
theorem RdC.below{w w':World}{x:S3}{l:List Cmd}(h:RdC w x l)(b:Below w.heap.size w w'):RdC w' x l :=
 ⟨h.len,h.cap,h.nul,h.ex.imp id fun⟨k,off,h1,h2,h3⟩=>⟨k,off,h1,Nat.lt_of_lt_of_le h2 b.size,fun j u hj=>(b.cell (p:=⟨k,off+j,none⟩) h2).trans (h3 j u hj)⟩⟩
def S3.cut(x:S3)(l h:Nat):S3:=⟨if x.c=l then x.a else x.a.map (·.add (l*5)),h-l,x.c-l⟩
theorem Rc.drop{g:Gh}{w:World}{x:S3}{l:List Cmd}(h:Rc g w x l){k:Nat}(hk:k≤l.length):Rc g w (x.cut k x.n) (l.drop k):=by
 have hl:=h.len;have hc:=h.cap;refine⟨by simp[S3.cut,hl],by simp only[S3.cut];omega,fun hn=>?_,?_⟩
 ·simp only[S3.cut]at hn ⊢;split at hn
  ·omega
  ·cases ha:x.a with
   | none=>have:=h.nul ha;omega
   | some a=>rw[ha]at hn;cases hn
 ·rcases h.ex with rfl|⟨b,off,h1,h2,h3,h4⟩
  ·exact .inl (by simp)
  ·by_cases he:k=l.length
   ·exact .inl (by rw[he];simp)
   ·refine .inr ⟨b,off+k*5,?_,h2,fun j u hj=>?_,?_⟩
    ·simp only[S3.cut];rw[if_neg (by omega),h1];simp only[Option.map_some,Option.some.injEq];unfold Addr.add;split
     ·rename_i h0;rw[show k=0 by omega];simp
     ·simp
    ·rw[← Jl,List.getElem?_drop]at hj
     have:=h3 _ u hj;rw[show off+k*5+j=off+(5*k+j)by omega];exact this
    ·rcases h4 with h4|h4
     ·exact .inl h4
     ·right;rw[List.length_drop];omega
theorem Rc.addr{g:Gh}{w:World}{x:S3}{l:List Cmd}(h:Rc g w x l){k:Nat}(hk:k<l.length):∃ b off,x.a=some ⟨b,off,none⟩:=by
 rcases h.ex with rfl|⟨b,off,h2,_⟩
 ·simp at hk
 ·exact⟨b,off,h2⟩
theorem Rc.cellAt{g:Gh}{w:World}{x:S3}{l:List Cmd}(h:Rc g w x l){b off j q:Nat}{c:Cmd}{u:Value}(ha:x.a=some ⟨b,off,none⟩)(hc:l[j]?=some c)(hu:(cmV c)[q]?=some u):w.cell? ⟨b,off+5*j+q,none⟩=some u:=by
 rcases h.ex with rfl|⟨b',off',h1,h2,h3,_⟩
 ·cases hc
 ·rw[ha]at h1
  simp only[Option.some.injEq,Addr.mk.injEq,and_true]at h1;obtain⟨rfl,rfl⟩:=h1;rw[Nat.add_assoc];exact h3 _ u (LX hc hu)
theorem RdC.cellAt{w:World}{x:S3}{l:List Cmd}(h:RdC w x l){b off j q:Nat}{c:Cmd}{u:Value}(ha:x.a=some ⟨b,off,none⟩)(hc:l[j]?=some c)(hu:(cmV c)[q]?=some u):w.cell? ⟨b,off+5*j+q,none⟩=some u:=by
 rcases h.ex with rfl|⟨b',off',h1,h2,h3⟩
 ·cases hc
 ·rw[ha]at h1
  simp only[Option.some.injEq,Addr.mk.injEq,and_true]at h1;obtain⟨rfl,rfl⟩:=h1;rw[Nat.add_assoc];exact h3 _ u (LX hc hu)
theorem RdC.addr{w:World}{x:S3}{l:List Cmd}(h:RdC w x l){k:Nat}(hk:k<l.length):∃ b off,x.a=some ⟨b,off,none⟩:=by
 rcases h.ex with rfl|⟨b,off,h2,_⟩
 ·simp at hk
 ·exact⟨b,off,h2⟩
theorem Tv(l:List Cmd)(k:Nat){j:Nat}{u:Value}(h:(cmL (l.take k))[j]?=some u):(cmL l)[j]?=some u:=by
 have h1:cmL l=cmL (l.take k)++cmL (l.drop k):=by rw[← BJ,List.take_append_drop]
 rw[h1,List.getElem?_append_left (List.getElem?_eq_some_iff.1 h).1];exact h
theorem RdC.take{w:World}{x:S3}{l:List Cmd}(h:RdC w x l){k:Nat}(hk:k≤l.length):RdC w (x.cut 0 k) (l.take k):=by
 have hl:=h.len;have hc:=h.cap;have ha:(x.cut 0 k).a=x.a:=by
  simp only[S3.cut];split
  ·rfl
  ·cases x.a with
   | none=>rfl
   | some a=>simp[Addr.add]
 refine⟨by simp[S3.cut];omega,by simp only[S3.cut];omega,fun hn=>?_,?_⟩
 ·rw[ha]at hn
  have:=h.nul hn;simp only[S3.cut];omega
 ·rcases h.ex with rfl|⟨b,off,h1,h2,h3⟩
  ·exact .inl (by simp)
  ·exact .inr ⟨b,off,by rw[ha];exact h1,h2,fun j u hj=>h3 j u (Tv l k hj)⟩
section
variable{W:World}
theorem sz5:(Go.sizeOf (prog.elem 118)).run prog W=.ok 5 W:=by kernel_rfl
theorem unC:prog.underlying 118=some (.slice (prog.elem 118)):=by kernel_rfl
theorem YM(x:S3)(k:Nat)(hk:k≤x.n):(Instr.sliceAt 118 x.v (some (iv (k:Int))) none none).run prog W=.ok (S3.v (x.cut k x.n)) W:=by
 rw[run_sliceAt_slice _ _ _ _ _ _ unC,run_slice_l (P:=prog) (w:=W) _ _ _ _ unC .i64 k (by omega) (by omega),sz5];simp[Result.andThen,sliced,S3.cut]
theorem aF(x:S3)(k:Nat)(hk:k≤x.c):(Instr.sliceAt 118 x.v none (some (iv (k:Int))) none).run prog W=.ok (S3.v (x.cut 0 k)) W:=by
 rw[run_sliceAt_slice _ _ _ _ _ _ unC,run_slice_h (P:=prog) (w:=W) _ _ _ _ unC .i64 k (by omega) (by omega),sz5];simp[Result.andThen,sliced,S3.cut]
theorem aC{x:S3}{b off:Nat}(ha:x.a=some ⟨b,off,none⟩)(k:Nat)(hk:k<x.n)(hc:x.n≤x.c):(Instr.sliceAt 118 x.v (some (iv (k:Int))) none none).run prog W=.ok (.slice (some ⟨b,off+5*k,none⟩) (x.n-k) (x.c-k)) W:=by
 rw[YM x k (by omega)];unfold S3.v S3.cut;simp only;rw[if_neg (by omega),ha];simp only[Option.map_some,Addr.add];split
 ·rename_i h0;rw[show k=0 by omega];rfl
 ·simp only[Nat.mul_comm]
theorem aG{P:Program}{x y:Operand}(a b:Nat)(hk:P.underlying 3=some (.int .i64))(h:b≤a)(ha:a<4611686018427387904):(do Go.eqGuard .sub 3 x y (iv (a:Int)) (iv (b:Int));Go.binOp .sub 3 (iv (a:Int)) (iv (b:Int)):Sem Value).run P W=.ok (iv ((a-b:Nat):Int)) W:=by
 rw[bP _ _ hk (by omega)]
 congr 3
 omega
theorem ZU{g:Gh}{x:S3}{l:List Cmd}{b off:Nat}(ha:x.a=some ⟨b,off,none⟩)(h:Rc g W x l)(k:Nat)(hl:k<l.length):∀ j u,(cmL (l.drop k))[j]?=some u→W.cell? ((⟨b,off+5*k,none⟩:Addr).add j)=some u:=by
 intro j u hj;rcases h.ex with rfl|⟨b',off',h1,h2,h3,h4⟩
 ·simp at hl
 ·rw[ha]at h1
  simp only[Option.some.injEq,Addr.mk.injEq,and_true]at h1;obtain⟨rfl,rfl⟩:=h1;rw[← Jl,List.getElem?_drop]at hj
  have:=h3 _ u hj;have hadd:(⟨b,off+5*k,none⟩:Addr).add j=⟨b,off+5*k+j,none⟩:=by unfold Addr.add;split<;>simp_all
  rw[hadd,show off+5*k+j=off+(5*k+j)by omega];exact this
theorem Og{x:S3}{b off:Nat}(ha:x.a=some ⟨b,off,none⟩)(j:Nat)(hj:j<x.n):(Instr.indexAt 118 x.v (iv (j:Int))).run prog W=.ok (pt b (off+5*j)) W:=by
 unfold S3.v;rw[ha];exact Sq (P:=prog) (e:=25) (z:=5) underlying118 (by kernel_rfl) (by kernel_rfl) hj _ rfl
theorem UR{b k:Nat}(c:Cmd)(h:∀ j u,(cmV c)[j]?=some u→W.cell? ⟨b,k+j,none⟩=some u):(Instr.loadAt 25 (pt b k)).run prog W=.ok (.agg #[iv c.k,iv c.c,iv c.s,iv c.n,iv c.v]) W:=by
 have h1:=run_loadVar_mid (P:=prog) W b k 25 (cmV c) _ (fun j u hj=>h j u hj) underlying25 rfl (by kernel_rfl);simp only[Instr.loadAt,Instr.sureAddr,Sem.run_bind,Sem.run_pure,Result.andThen_ok];exact h1
theorem XK{x:S3}{b off:Nat}(ha:x.a=some ⟨b,off,none⟩)(j:Nat)(hj:j<x.n):(Instr.indexAt 113 x.v (iv (j:Int))).run prog W=.ok (pt b (off+8*j)) W:=by
 unfold S3.v;rw[ha];exact Sq (P:=prog) (e:=175) (z:=8) underlying113 (by kernel_rfl) (by kernel_rfl) hj _ rfl
theorem aq{b k:Nat}(v:Vt)(h:W.rangeAt b k (vtC v)):(Instr.loadAt 175 (pt b k)).run prog W=.ok (.agg #[iv v.slot,iv v.b.r,iv v.b.n,iv v.w.k,iv v.w.c,iv v.w.s,iv v.w.n,iv v.w.v]) W:=by
 have h1:=run_loadVar_mid (P:=prog) W b k 175 (vtC v) _ h underlying175 rfl (by kernel_rfl);simp only[Instr.loadAt,Instr.sureAddr,Sem.run_bind,Sem.run_pure,Result.andThen_ok];exact h1
theorem Zl(u v:Vt):decide (u.slot=v.slot∧u.b.r=v.b.r∧u.b.n=v.b.n∧u.w.k=v.w.k∧u.w.c=v.w.c∧u.w.s=v.w.s∧u.w.n=v.w.n∧u.w.v=v.w.v)=decide (u=v):=by
 apply decide_eq_decide.2;constructor
 ·rintro⟨a1,a2,a3,a4,a5,a6,a7,a8⟩;exact(Vt.eq_iff u v).1 ⟨a1,(Bal.eq_iff _ _).1 ⟨a2,a3⟩,(Cmd.eq_iff _ _).1 ⟨a4,a5,a6,a7,a8⟩⟩
 ·rintro rfl;exact⟨rfl,rfl,rfl,rfl,rfl,rfl,rfl,rfl⟩
theorem aj{x y:Operand}(a b:Vt):(do Go.eqGuard .eql 175 x y (.agg #[iv a.slot,iv a.b.r,iv a.b.n,iv a.w.k,iv a.w.c,iv a.w.s,iv a.w.n,iv a.w.v]) (.agg #[iv b.slot,iv b.b.r,iv b.b.n,iv b.w.k,iv b.w.c,iv b.w.s,iv b.w.n,iv b.w.v]);Go.binOp .eql 175 (.agg #[iv a.slot,iv a.b.r,iv a.b.n,iv a.w.k,iv a.w.c,iv a.w.s,iv a.w.n,iv a.w.v]) (.agg #[iv b.slot,iv b.b.r,iv b.b.n,iv b.w.k,iv b.w.c,iv b.w.s,iv b.w.n,iv b.w.v]):Sem Value).run prog W=.ok (.bool (decide (a=b))) W:=by
 have h1:=TD a.slot a.b.r a.b.n a.w.k a.w.c a.w.s a.w.n a.w.v b.slot b.b.r b.b.n b.w.k b.w.c b.w.s b.w.n b.w.v W;rw[Zl]at h1
 have hg:(Go.eqGuard .eql 175 x y (.agg #[iv a.slot,iv a.b.r,iv a.b.n,iv a.w.k,iv a.w.c,iv a.w.s,iv a.w.n,iv a.w.v]) (.agg #[iv b.slot,iv b.b.r,iv b.b.n,iv b.w.k,iv b.w.c,iv b.w.s,iv b.w.n,iv b.w.v])).run prog W=.ok () W:=by kernel_rfl
 rw[Sem.run_bind,hg,Result.andThen_ok];exact h1
end
def gh0:Gh:=⟨fun _=>.z,fun _=>0⟩
def Nq(l:List Cmd)(c:Cmd):Int:=if c∈l then(l.idxOf c:Int)else -1
theorem Nr{c:Cmd}:∀ {l:List Cmd} {j:Nat},l[j]?=some c→l.idxOf c≤j
 | [],j,h=>by cases h
 | d::l,0,h=>by simp only[List.getElem?_cons_zero,Option.some.injEq]at h;subst h;simp
 | d::l,j+1,h=>by
  have:=Nr (l:=l) (j:=j) (by simpa using h);rw[List.idxOf_cons];cases d==c<;>simp<;>omega
theorem Ws(l:List Cmd)(c:Cmd):decide (0≤Nq l c)=decide (c∈l):=by
 unfold Nq;by_cases hm:c∈l
 ·rw[if_pos hm,decide_eq_true hm];exact decide_eq_true (by omega)
 ·rw[if_neg hm,decide_eq_false hm];rfl
theorem TV{l:List Cmd}{c:Cmd}{j:Nat}(h:l[j]?=some c)(hb:∀ i,i<j→l[i]?≠some c):Nq l c=(j:Int):=by
 have hm:c∈l:=List.mem_of_getElem? h;have hj:j<l.length:=(List.getElem?_eq_some_iff.1 h).1;unfold Nq;rw[if_pos hm]
 congr 1
 have h1:l.idxOf c<l.length:=List.idxOf_lt_length_iff.2 hm;have h2:l[l.idxOf c]?=some c:=by rw[List.getElem?_eq_getElem h1,List.getElem_idxOf h1]
 rcases Nat.lt_trichotomy (l.idxOf c) j with h3|h3|h3
 ·exact absurd h2 (hb _ h3)
 ·exact h3
 ·have:=Nr h;omega
theorem Le{w:World}{x:S3}{l:List Cmd}(h:RdC w x l)(hb:l.length<100000000)(c:Cmd) :
  Calls prog 160 #[x.v,.agg #[iv c.k,iv c.c,iv c.s,iv c.n,iv c.v]] w fun e w'=>e=.returned (iv (Nq l c))∧Below w.heap.size w w':=by
 have hn:=h.len;refine gIn (fn:=f160) [] gh0 func160 (by kernel_rfl) (by kernel_rfl) (fun _ _=>⟨rfl,rfl⟩) ?_;refine qR [] 13 [0,0] fun s1 g1 w1 c1=>?_;refine BE 19 [(0,S3.v x),(3,pt (s1 0) 0),(7,iv (x.n:Int)),(8,iv 0)] [true] [⟨(s1 0),.cells #[iv c.k,iv c.c,iv c.s,iv c.n,iv c.v] 25,.z,false⟩] (fun k g' w' e L=>∃ j:Nat,k=l.length-j∧j≤l.length∧e=[(0,S3.v x),(3,pt (s1 0) 0),(7,iv (x.n:Int)),(8,iv (j:Int))]∧L=[⟨(s1 0),.cells #[iv c.k,iv c.c,iv c.s,iv c.n,iv c.v] 25,.z,false⟩]∧(∀ i,i<j→l[i]?≠some c)∧Cg w.heap.size [] gh0 w g' w') (by kernel_rfl) (by kernel_rfl) (by kernel_rfl) (by kernel_rfl) l.length (fun K=>?_) ?_
 ·exact⟨0,rfl,by omega,rfl,rfl,fun i hi=>absurd hi (by omega),c1⟩
 ·rintro k gr wr _ zr _ ⟨j,rfl,hj,rfl,rfl,hI,hC⟩ J hJ;refine qR [] 5 [] fun s2 g2 w2 c2=>?_;by_cases h1:j<l.length
  ·refine qI ((decide ((j:Int)<(x.n:Int)))) true (decide_eq_true (by omega)) ?_;obtain⟨cj,hcj⟩:∃ cj,l[j]?=some cj:=⟨_,List.getElem?_eq_getElem h1⟩;rcases h.ex with h2|⟨bx,ox,hxa,hbx,hcell⟩
   ·exact absurd h1 (by rw[h2];simp)
   refine qR [] 13 [6,0,0,2,4] fun s3 g3 w3 c3=>?_;refine qT 3 (pt bx (ox+5*j)) (fun _=>(Og hxa j (by omega))) ?_;have hW:=Cg.below (hC.trans (c2.trans c3)) (fun _ _=>List.not_mem_nil);refine qV 4 (.agg #[iv cj.k,iv cj.c,iv cj.s,iv cj.n,iv cj.v]) (UR cj fun i u hu=>(hW.cell (p:=⟨bx,ox+5*j+i,none⟩) hbx).trans (by rw[Nat.add_assoc];exact hcell _ u (LX hcj hu))) ?_;refine qT 5 (.bool (decide (c=cj))) (fun _=>(bG (x:=(.tmp 11)) (y:=(.tmp 15)) c cj)) ?_;refine qR [] 1 [] fun s6 g6 w6 c6=>?_;by_cases h3:c=cj
   ·refine qI (decide (c=cj)) true (decide_eq_true h3) ?_;refine qR [] 5 [] fun s7 g7 w7 c7=>?_;exact qE (iv (j:Int)) fun K=>⟨by rw[TV (by rw[h3];exact hcj) hI],Cg.below (hC.trans (((c2.trans c3).trans c6).trans c7)) (fun _ _=>List.not_mem_nil)⟩
   ·refine qI (decide (c=cj)) false (decide_eq_false h3) ?_;refine qR [] 3 [] fun s8 g8 w8 c8=>?_;refine qV 0 (iv ((j:Int)+1)) (B7 (x:=(.tmp 8)) (y:=(.const (iv 1))) (j:Int) 1 underlying3 (by omega)) ?_;refine qR [] 2 [] fun s9 g9 w9 c9=>?_;refine qB [true] fun z K0 K=>hJ (l.length-(j+1)) _ _ _ z _ (by omega) ⟨j+1,rfl,by omega,rfl,rfl,fun i hi=>?_,hC.trans ((((c2.trans c3).trans c6).trans c8).trans c9)⟩ K;rcases Nat.lt_or_ge i j with h4|h4
    ·exact hI i h4
    ·rw[show i=j by omega,hcj];intro h5;exact h3 (by simpa using h5.symm)
  ·refine qI ((decide ((j:Int)<(x.n:Int)))) false (decide_eq_false (by omega)) ?_;refine qR [] 5 [] fun s10 g10 w10 c10=>?_;have hne:c∉l:=fun hm=>by obtain⟨i,hi⟩:=List.mem_iff_getElem?.1 hm;exact hI i (by have:=(List.getElem?_eq_some_iff.1 hi).1;omega) hi
   exact qE (iv (-1)) fun K=>⟨by unfold Nq;rw[if_neg hne],Cg.below (hC.trans (c2.trans c10)) (fun _ _=>List.not_mem_nil)⟩
theorem Eg{w:World}{x:S3}{l:List Cmd}(h:RdC w x l)(hb:l.length<100000000)(c:Cmd) :
  Calls prog 109 #[x.v,.agg #[iv c.k,iv c.c,iv c.s,iv c.n,iv c.v]] w fun e w'=>e=.returned (.bool (decide (c∈l)))∧Below w.heap.size w w':=by
 refine gIn (fn:=f109) [] gh0 func109 (by kernel_rfl) (by kernel_rfl) (fun _ _=>⟨rfl,rfl⟩) ?_;refine qR [] 9 [0,0,0] fun s1 g1 w1 c1=>?_;have hB1:=Cg.below c1 (fun _ _=>List.not_mem_nil);refine qC 2 (Le (h.below hB1) hb c) ?_;rintro e' w2 ⟨rfl,b2⟩;refine⟨_,rfl,b2,?_⟩;have c2:=Cg.ofBelow (B:=w.heap.size) (T:=[]) (g:=g1) b2;refine qR [] 3 [] fun s3 g3 w3 c3=>?_;exact qE (.bool (decide (0≤Nq l c))) fun K=>⟨by rw[Ws],Cg.below ((c1.trans c2).trans c3) (fun _ _=>List.not_mem_nil)⟩
theorem Ft{g:Gh}{w:World}{i nb ob:Nat}{p:Nod}{ls:List Let}{ts:List Tol}(h:NS i nb ob g w p ls ts)(hd:p.done≤p.agreed.length) :
  Calls prog 79 #[pt nb 0] w fun e w'=>∃ y:S3,e=.returned y.v∧RdC w' y (p.agreed.take p.done)∧Below w.heap.size w w':=by
 obtain⟨x,lt,tl,hN,hO,hg⟩:=h;have hn:=hN.agreed.num;have hr:=hN.agreed.rd;refine gIn (fn:=f79) (TN i) g func79 (by kernel_rfl) (by kernel_rfl) hg ?_;refine qN hN ?_;refine qO hO ?_;refine qR [] 16 [12,0,2,4,6,8,0,10,12,14,16,18,0] fun s1 g1 w1 c1=>?_;refine qT 10 (S3.v (x.agreed.cut 0 p.done)) (fun _=>(aF x.agreed p.done (by have:=hr.cap;omega))) ?_;refine qR [] 2 [22] fun s2 g2 w2 c2=>?_;have hB:=Cg.below (c1.trans c2) (fun _ _=>List.not_mem_nil);exact qE (S3.v (x.agreed.cut 0 p.done)) fun K=>⟨_,rfl,(hr.below hB).take hd,hB⟩
theorem GT{g:Gh}{w:World}{i nb ob:Nat}{p:Nod}{ls:List Let}{ts:List Tol}(h:NS i nb ob g w p ls ts)(hb:ls.length<100000000)(to slot:Nat)(hs:slot≤p.agreed.length) :
  Calls prog 159 #[pt nb 0,iv (to:Int),iv (slot:Int)] w (NP i nb ob g w (.tuple #[]) p (ls++[{ Ca 5 with src:=i,dst:=to,slot:=slot,what:=p.agreed.drop slot }]) ts):=by
 obtain⟨x,lt,tl,hN,hO,hg⟩:=h;have hn:=hN.agreed.num;refine gIn (fn:=f159) (TN i) g func159 (by kernel_rfl) (by kernel_rfl) hg ?_;refine qN hN ?_;refine qO hO ?_;refine qR [] 10 [0] fun s1 g1 w1 c1=>?_;refine qV 9 (S3.v (x.agreed.cut slot x.agreed.n)) (YM x.agreed slot (by omega)) ?_;refine qR [] 1 [] fun s2 g2 w2 c2=>?_;refine Ae fun K=>?_;have C4:Cg w.heap.size ([]:List Tg) g w g2 w2:=((c1.nil ([]:List Tg)).trans (c2.nil ([]:List Tg)));have Z4:Tg.z∉([]:List Tg):=by simp
 have N3:NS i nb ob g2 w2 p ls ts:=⟨x,lt,tl,hN.ch C4 Z4 (by simp),hO.ch C4 Z4 (by simp),K.new⟩;refine qG 11 (TN i) [false,false] (Ez N3 hb { Ca 5 with slot:=slot,what:=p.agreed.drop slot } s30 (x.agreed.cut slot x.agreed.n) ⟨Sv.nil _,fun h=>absurd rfl h⟩ ((hN.agreed.rc.drop hs).ch C4 Z4) to) ?_;rintro e' w3 ⟨g3,rfl,M3,c3⟩;refine⟨_,g3,rfl,c3,M3.new,?_⟩;replace c3:=c3.ret (B:=w.heap.size);obtain⟨x3,lt3,tl3,hN3,hO3,hg3⟩:=M3;refine qN hN3 ?_;refine qO hO3 ?_;refine qR [] 1 [] fun s5 g5 w5 c5=>?_;refine qE (.tuple #[]) fun K=>?_;have C6:Cg w.heap.size ([]:List Tg) g3 w3 g5 w5:=(c5.nil ([]:List Tg));have Z6:Tg.z∉([]:List Tg):=by simp
 exact⟨_,rfl,⟨x3,lt3,tl3,hN3.ch C6 Z6 (by simp),hO3.ch C6 Z6 (by simp),K.new⟩,((((c1.nil (TN i)).trans (c2.nil (TN i))).trans (c3)).trans (c5.nil (TN i)))⟩
theorem Ll{g:Gh}{w:World}{i nb ob:Nat}{p:Nod}{ls:List Let}{ts:List Tol}(h:NS i nb ob g w p ls ts)(slot:Nat)(what:List Cmd)(wh:S3)(hw:Rc g w wh what)(hs:slot≤p.agreed.length)(hb:p.agreed.length<100000000)(hb2:what.length<100000000) :
  Calls prog 150 #[pt nb 0,iv (slot:Int),wh.v] w (NP i nb ob g w (.tuple #[]) (p.learn slot what) ls ts):=by
 obtain⟨x,lt,tl,hN,hO,hg⟩:=h;have hn:=hN.agreed.num;have hm:=hw.len;have hcp:=hw.cap;refine gIn (fn:=f150) (TN i) g func150 (by kernel_rfl) (by kernel_rfl) hg ?_;refine qN hN ?_;refine qO hO ?_;refine qR [] 9 [0] fun s1 g1 w1 c1=>?_;refine qV 7 (iv ((x.agreed.n-slot:Nat):Int)) (aG (x:=(.tmp 12)) (y:=(.tmp 13)) x.agreed.n slot underlying3 (by omega) (by omega)) ?_;refine qR [] 9 [] fun s2 g2 w2 c2=>?_;by_cases h1:x.agreed.n-slot<wh.n
 ·refine qI ((decide (((x.agreed.n-slot:Nat):Int)<(wh.n:Int)))) true (decide_eq_true (by omega)) ?_;obtain⟨k,hk⟩:∃ k,k=x.agreed.n-slot:=⟨_,rfl⟩;have hkl:k<what.length:=by omega
  obtain⟨bw,ow,hwa⟩:=hw.addr hkl;refine qR [] 9 [13,0,2,4,6,8,10,0,12,14] fun s3 g3 w3 c3=>?_;refine qT 8 (.slice (some ⟨bw,ow+5*(x.agreed.n-slot),none⟩) (wh.n-(x.agreed.n-slot)) (wh.c-(x.agreed.n-slot))) (fun _=>(aC hwa (x.agreed.n-slot) (by omega) hcp)) ?_;have C5:Cg w.heap.size ([]:List Tg) g w g3 w3:=(((c1.nil ([]:List Tg)).trans (c2.nil ([]:List Tg))).trans (c3.nil ([]:List Tg)));have Z5:Tg.z∉([]:List Tg):=by simp
  refine F4 9 (x:=x.agreed) 118 118 25 5 40 (.agg #[iv 0,iv 0,iv 0,iv 0,iv 0]) ⟨bw,ow+5*(x.agreed.n-slot),none⟩ (wh.n-(x.agreed.n-slot)) (wh.c-(x.agreed.n-slot)) (cmL (what.drop (x.agreed.n-slot))) (hN.agreed.ch C5 (by simp) (by simp)) (by kernel_rfl) (by kernel_rfl) (by kernel_rfl) underlying118 (by kernel_rfl) (by kernel_rfl) (by decide) (by omega) (by rw[Bi,List.length_drop];omega) (Ef _) (fun K=>ZU hwa (hw.ch C5 Z5) _ (by omega)) (by unfold maxLen;omega) (by omega) ?_;intro y6 g6 w6 a6 n6 cc6 G6;have c6:=cc6 w.heap.size [.n 3 i] (List.mem_singleton.2 rfl);refine qR [.n 0 i] 5 [20,22,24,27,0,1] fun s7 g7 w7 c7=>?_;refine qE (.tuple #[]) fun K=>?_;have C8:Cg w.heap.size ([.n 3 i,.n 0 i]:List Tg) g w g7 w7:=(((((c1.nil ([.n 3 i,.n 0 i]:List Tg)).trans (c2.nil ([.n 3 i,.n 0 i]:List Tg))).trans (c3.nil ([.n 3 i,.n 0 i]:List Tg))).trans (c6.mono (by simp))).trans (c7.mono (by simp)));have Z8:Tg.z∉([.n 3 i,.n 0 i]:List Tg):=by simp
  exact⟨_,rfl,⟨{ x with agreed:=y6 },lt,tl,K.nd 0 (hN.tape.ch C8 Z8) (hN.votes.ch C8 Z8) (AZ hN.heard C8 Z8) (B2 hN.pend C8 Z8 (by simp)) (hN.queue.ch C8 (by simp) (by simp)) (by rw[show(p.learn slot what).agreed=p.agreed++what.drop (x.agreed.n-slot)from by unfold Nod.learn;rw[hn],BJ];exact a6.ch c7 (by simp) (by simp)) (hN.wants.ch C8 (by simp) (by simp)) (hN.asked.ch C8 (by simp)) hN.upm,hO.ch C8 Z8 (by simp<;>omega),K.new⟩,(((((c1.nil (TN i)).trans (c2.nil (TN i))).trans (c3.nil (TN i))).trans (c6.mono (by simp[TN]))).trans (c7.mono (by simp[TN])))⟩
 ·refine qI ((decide (((x.agreed.n-slot:Nat):Int)<(wh.n:Int)))) false (decide_eq_false (by omega)) ?_;refine qR [] 1 [] fun s9 g9 w9 c9=>?_;refine qE (.tuple #[]) fun K=>?_;rw[show p.learn slot what=p from by unfold Nod.learn;rw[List.drop_eq_nil_of_le (by omega),List.append_nil]];have C10:Cg w.heap.size ([]:List Tg) g w g9 w9:=(((c1.nil ([]:List Tg)).trans (c2.nil ([]:List Tg))).trans (c9.nil ([]:List Tg)));have Z10:Tg.z∉([]:List Tg):=by simp
  exact⟨_,rfl,⟨x,lt,tl,hN.ch C10 Z10 (by simp),hO.ch C10 Z10 (by simp),K.new⟩,(((c1.nil (TN i)).trans (c2.nil (TN i))).trans (c9.nil (TN i)))⟩
theorem Ou{g:Gh}{w:World}{i nb ob:Nat}{p:Nod}{ls:List Let}{ts:List Tol}(h:NS i nb ob g w p ls ts)(hb:ls.length<90000000){b1 b2 b3:Nat}(h1:Box g w b1 #[pt nb 0] 107) :
  Calls prog 128 #[pt b1 0] w (NP i nb ob g w (.tuple #[]) p (ls++BG i (Ca 6) 5) ts):=by
 obtain⟨x,lt,tl,hN,hO,hg⟩:=h;refine gIn (fn:=f128) (TN i) g func128 (by kernel_rfl) (by kernel_rfl) hg ?_;refine qN hN ?_;refine qO hO ?_;refine Bj ⟨b1,.cells #[pt nb 0] 107,.z,false⟩ (fun _=>⟨h1.r,h1.z,fun h=>(by cases h),fun h=>absurd rfl h⟩) (by kernel_rfl) ?_;refine qR [] 3 [2] fun s1 g1 w1 c1=>?_;refine Ae fun K=>?_;have C3:Cg w.heap.size ([]:List Tg) g w g1 w1:=(c1.nil ([]:List Tg));have Z3:Tg.z∉([]:List Tg):=by simp
 have N2:NS i nb ob g1 w1 p ls ts:=⟨x,lt,tl,hN.ch C3 Z3 (by simp),hO.ch C3 Z3 (by simp),K.new⟩;refine qG 2 (TN i) [false,false,true] (Dw N2 hb (Ca 6) s30 s30 ⟨Sv.nil _,fun h=>absurd rfl h⟩ (Rc.nil _ _)) ?_;rintro e' w2 ⟨g2,rfl,M2,c2⟩;refine⟨_,g2,rfl,c2,M2.new,?_⟩;replace c2:=c2.ret (B:=w.heap.size);obtain⟨x2,lt2,tl2,hN2,hO2,hg2⟩:=M2;refine qN hN2 ?_;refine qO hO2 ?_;refine qR [] 1 [] fun s4 g4 w4 c4=>?_;refine qE (.tuple #[]) fun K=>?_;have C5:Cg w.heap.size ([]:List Tg) g2 w2 g4 w4:=(c4.nil ([]:List Tg));have Z5:Tg.z∉([]:List Tg):=by simp
 exact⟨_,rfl,⟨x2,lt2,tl2,hN2.ch C5 Z5 (by simp),hO2.ch C5 Z5 (by simp),K.new⟩,(((c1.nil (TN i)).trans (c2)).trans (c4.nil (TN i)))⟩
theorem Mu{to:Nat}{b:Bal}{g:Gh}{w:World}{i nb ob:Nat}{p:Nod}{ls:List Let}{ts:List Tol}(h:NS i nb ob g w p ls ts)(hb:ls.length<90000000){b1 b2 b3:Nat}(h1:Box g w b1 #[pt nb 0] 107)(h2:Box g w b2 #[iv (to:Int)] 3)(h3:Box g w b3 #[iv b.r,iv b.n] 112)  :
  Calls prog 200 #[pt b1 0,pt b2 0,pt b3 0] w (NP i nb ob g w (.tuple #[]) p (ls++[{ Ca 2 with bal:=b,src:=i,dst:=to }]) ts):=by
 obtain⟨x,lt,tl,hN,hO,hg⟩:=h;refine gIn (fn:=f200) (TN i) g func200 (by kernel_rfl) (by kernel_rfl) hg ?_;refine qN hN ?_;refine qO hO ?_;refine Bj ⟨b1,.cells #[pt nb 0] 107,.z,false⟩ (fun _=>⟨h1.r,h1.z,fun h=>(by cases h),fun h=>absurd rfl h⟩) (by kernel_rfl) ?_;refine Bj ⟨b2,.cells #[iv (to:Int)] 3,.z,false⟩ (fun _=>⟨h2.r,h2.z,fun h=>(by cases h),fun h=>absurd rfl h⟩) (by kernel_rfl) ?_;refine Bj ⟨b3,.cells #[iv b.r,iv b.n] 112,.z,false⟩ (fun _=>⟨h3.r,h3.z,fun h=>(by cases h),fun h=>absurd rfl h⟩) (by kernel_rfl) ?_;refine qR [] 5 [2,3,4] fun s1 g1 w1 c1=>?_;refine Ae fun K=>?_;have C3:Cg w.heap.size ([]:List Tg) g w g1 w1:=(c1.nil ([]:List Tg));have Z3:Tg.z∉([]:List Tg):=by simp
 have N2:NS i nb ob g1 w1 p ls ts:=⟨x,lt,tl,hN.ch C3 Z3 (by simp),hO.ch C3 Z3 (by simp),K.new⟩;refine qG 4 (TN i) [false,false,true,true,true] (Ez N2 (by omega) { Ca 2 with bal:=b } s30 s30 ⟨Sv.nil _,fun h=>absurd rfl h⟩ (Rc.nil _ _) to) ?_;rintro e' w2 ⟨g2,rfl,M2,c2⟩;refine⟨_,g2,rfl,c2,M2.new,?_⟩;replace c2:=c2.ret (B:=w.heap.size);obtain⟨x2,lt2,tl2,hN2,hO2,hg2⟩:=M2;refine qN hN2 ?_;refine qO hO2 ?_;refine qR [] 1 [] fun s4 g4 w4 c4=>?_;refine qE (.tuple #[]) fun K=>?_;have C5:Cg w.heap.size ([]:List Tg) g2 w2 g4 w4:=(c4.nil ([]:List Tg));have Z5:Tg.z∉([]:List Tg):=by simp
 exact⟨_,rfl,⟨x2,lt2,tl2,hN2.ch C5 Z5 (by simp),hO2.ch C5 Z5 (by simp),K.new⟩,(((c1.nil (TN i)).trans (c2)).trans (c4.nil (TN i)))⟩
theorem Gi{g:Gh}{w:World}{i nb ob:Nat}{p:Nod}{ls:List Let}{ts:List Tol}(h:NS i nb ob g w p ls ts)(hb:ls.length<90000000){b1 b2 b3 lb:Nat}{l:Let}(h1:Box g w b1 #[pt nb 0] 107)(h2:Box g w b2 #[pt lb 0] 178)(hl:BW g w lb l) :
  Calls prog 154 #[pt b1 0,pt b2 0] w (NP i nb ob g w (.tuple #[]) p (ls++[{ Ca 4 with vote:=l.vote,src:=i,dst:=l.src }]) ts):=by
 obtain⟨x,lt,tl,hN,hO,hg⟩:=h;refine gIn (fn:=f154) (TN i) g func154 (by kernel_rfl) (by kernel_rfl) hg ?_;refine qN hN ?_;refine qO hO ?_;refine Bj ⟨b1,.cells #[pt nb 0] 107,.z,false⟩ (fun _=>⟨h1.r,h1.z,fun h=>(by cases h),fun h=>absurd rfl h⟩) (by kernel_rfl) ?_;refine Bj ⟨b2,.cells #[pt lb 0] 178,.z,false⟩ (fun _=>⟨h2.r,h2.z,fun h=>(by cases h),fun h=>absurd rfl h⟩) (by kernel_rfl) ?_;obtain⟨vs,wh,hl1,hl2,hl3⟩:=hl;refine Bj ⟨lb,.cells (Ek l vs wh) 177,.z,false⟩ (fun _=>⟨hl1.r,hl1.z,fun h=>(by cases h),fun h=>absurd rfl h⟩) (by kernel_rfl) ?_;refine qR [] 11 [10,0,2,2,3,4,6,8,4,10,3,12,14,16,4,18] fun s1 g1 w1 c1=>?_;refine Ae fun K=>?_;have C3:Cg w.heap.size ([]:List Tg) g w g1 w1:=(c1.nil ([]:List Tg));have Z3:Tg.z∉([]:List Tg):=by simp
 have N2:NS i nb ob g1 w1 p ls ts:=⟨x,lt,tl,hN.ch C3 Z3 (by simp),hO.ch C3 Z3 (by simp),K.new⟩;refine qG 10 (TN i) [false,false,true,true,true] (Ez N2 (by omega) { Ca 4 with vote:=l.vote } s30 s30 ⟨Sv.nil _,fun h=>absurd rfl h⟩ (Rc.nil _ _) l.src) ?_;rintro e' w2 ⟨g2,rfl,M2,c2⟩;refine⟨_,g2,rfl,c2,M2.new,?_⟩;replace c2:=c2.ret (B:=w.heap.size);obtain⟨x2,lt2,tl2,hN2,hO2,hg2⟩:=M2;refine qN hN2 ?_;refine qO hO2 ?_;refine qR [] 1 [] fun s4 g4 w4 c4=>?_;refine qE (.tuple #[]) fun K=>?_;have C5:Cg w.heap.size ([]:List Tg) g2 w2 g4 w4:=(c4.nil ([]:List Tg));have Z5:Tg.z∉([]:List Tg):=by simp
 exact⟨_,rfl,⟨x2,lt2,tl2,hN2.ch C5 Z5 (by simp),hO2.ch C5 Z5 (by simp),K.new⟩,(((c1.nil (TN i)).trans (c2)).trans (c4.nil (TN i)))⟩
theorem Kb{g:Gh}{w:World}{i nb ob:Nat}{p:Nod}{ls:List Let}{ts:List Tol}(h:NS i nb ob g w p ls ts)(hb:ls.length<90000000){b1 b2 b3 lb:Nat}{l:Let}(h1:Box g w b1 #[pt nb 0] 107)(h2:Box g w b2 #[pt lb 0] 178)(hl:BW g w lb l) :
  Calls prog 156 #[pt b1 0,pt b2 0] w (NP i nb ob g w (.tuple #[]) p (ls++[{ Ca 6 with slot:=p.agreed.length,src:=i,dst:=l.src }]) ts):=by
 obtain⟨x,lt,tl,hN,hO,hg⟩:=h;refine gIn (fn:=f156) (TN i) g func156 (by kernel_rfl) (by kernel_rfl) hg ?_;refine qN hN ?_;refine qO hO ?_;refine Bj ⟨b1,.cells #[pt nb 0] 107,.z,false⟩ (fun _=>⟨h1.r,h1.z,fun h=>(by cases h),fun h=>absurd rfl h⟩) (by kernel_rfl) ?_;refine Bj ⟨b2,.cells #[pt lb 0] 178,.z,false⟩ (fun _=>⟨h2.r,h2.z,fun h=>(by cases h),fun h=>absurd rfl h⟩) (by kernel_rfl) ?_;obtain⟨vs,wh,hl1,hl2,hl3⟩:=hl;refine Bj ⟨lb,.cells (Ek l vs wh) 177,.z,false⟩ (fun _=>⟨hl1.r,hl1.z,fun h=>(by cases h),fun h=>absurd rfl h⟩) (by kernel_rfl) ?_;have hn:=hN.agreed.num;refine qR [] 13 [12,0,2,2,3,4,6,8,4,10,2,12,14,16,18,0,20,22] fun s1 g1 w1 c1=>?_;refine Ae fun K=>?_;have C3:Cg w.heap.size ([]:List Tg) g w g1 w1:=(c1.nil ([]:List Tg));have Z3:Tg.z∉([]:List Tg):=by simp
 have N2:NS i nb ob g1 w1 p ls ts:=⟨x,lt,tl,hN.ch C3 Z3 (by simp),hO.ch C3 Z3 (by simp),K.new⟩;refine qG 12 (TN i) [false,false,true,true,true] ((show{ Ca 6 with slot:=x.agreed.n,src:=i,dst:=l.src }=({ Ca 6 with slot:=p.agreed.length,src:=i,dst:=l.src }:Let)from by rw[hn])▸Ez N2 (by omega) { Ca 6 with slot:=x.agreed.n } s30 s30 ⟨Sv.nil _,fun h=>absurd rfl h⟩ (Rc.nil _ _) l.src) ?_;rintro e' w2 ⟨g2,rfl,M2,c2⟩;refine⟨_,g2,rfl,c2,M2.new,?_⟩;replace c2:=c2.ret (B:=w.heap.size);obtain⟨x2,lt2,tl2,hN2,hO2,hg2⟩:=M2;refine qN hN2 ?_;refine qO hO2 ?_;refine qR [] 1 [] fun s4 g4 w4 c4=>?_;refine qE (.tuple #[]) fun K=>?_;have C5:Cg w.heap.size ([]:List Tg) g2 w2 g4 w4:=(c4.nil ([]:List Tg));have Z5:Tg.z∉([]:List Tg):=by simp
 exact⟨_,rfl,⟨x2,lt2,tl2,hN2.ch C5 Z5 (by simp),hO2.ch C5 Z5 (by simp),K.new⟩,(((c1.nil (TN i)).trans (c2)).trans (c4.nil (TN i)))⟩
theorem Ia{g:Gh}{w:World}{i nb ob:Nat}{p:Nod}{ls:List Let}{ts:List Tol}(h:NS i nb ob g w p ls ts)(hb:ls.length<90000000){b1 b2 b3 lb:Nat}{l:Let}(h1:Box g w b1 #[pt nb 0] 107)(h2:Box g w b2 #[pt lb 0] 178)(hl:BW g w lb l)(hs:l.slot≤p.agreed.length) :
  Calls prog 158 #[pt b1 0,pt b2 0] w (NP i nb ob g w (.tuple #[]) p (ls++[{ Ca 5 with src:=i,dst:=l.src,slot:=l.slot,what:=p.agreed.drop l.slot }]) ts):=by
 obtain⟨x,lt,tl,hN,hO,hg⟩:=h;refine gIn (fn:=f158) (TN i) g func158 (by kernel_rfl) (by kernel_rfl) hg ?_;refine qN hN ?_;refine qO hO ?_;refine Bj ⟨b1,.cells #[pt nb 0] 107,.z,false⟩ (fun _=>⟨h1.r,h1.z,fun h=>(by cases h),fun h=>absurd rfl h⟩) (by kernel_rfl) ?_;refine Bj ⟨b2,.cells #[pt lb 0] 178,.z,false⟩ (fun _=>⟨h2.r,h2.z,fun h=>(by cases h),fun h=>absurd rfl h⟩) (by kernel_rfl) ?_;obtain⟨vs,wh,hl1,hl2,hl3⟩:=hl;refine Bj ⟨lb,.cells (Ek l vs wh) 177,.z,false⟩ (fun _=>⟨hl1.r,hl1.z,fun h=>(by cases h),fun h=>absurd rfl h⟩) (by kernel_rfl) ?_;refine qR [] 10 [9,0,2,2,3,4,6,8,4,10,3,12,14,16,4] fun s1 g1 w1 c1=>?_;refine Ae fun K=>?_;have C3:Cg w.heap.size ([]:List Tg) g w g1 w1:=(c1.nil ([]:List Tg));have Z3:Tg.z∉([]:List Tg):=by simp
 have N2:NS i nb ob g1 w1 p ls ts:=⟨x,lt,tl,hN.ch C3 Z3 (by simp),hO.ch C3 Z3 (by simp),K.new⟩;refine qG 9 (TN i) [false,false,true,true,true] (GT N2 (by omega) l.src l.slot hs) ?_;rintro e' w2 ⟨g2,rfl,M2,c2⟩;refine⟨_,g2,rfl,c2,M2.new,?_⟩;replace c2:=c2.ret (B:=w.heap.size);obtain⟨x2,lt2,tl2,hN2,hO2,hg2⟩:=M2;refine qN hN2 ?_;refine qO hO2 ?_;refine qR [] 1 [] fun s4 g4 w4 c4=>?_;refine qE (.tuple #[]) fun K=>?_;have C5:Cg w.heap.size ([]:List Tg) g2 w2 g4 w4:=(c4.nil ([]:List Tg));have Z5:Tg.z∉([]:List Tg):=by simp
 exact⟨_,rfl,⟨x2,lt2,tl2,hN2.ch C5 Z5 (by simp),hO2.ch C5 Z5 (by simp),K.new⟩,(((c1.nil (TN i)).trans (c2)).trans (c4.nil (TN i)))⟩
theorem F6{x3:S3}{vs0:List Vt}{g:Gh}{w:World}{i nb ob:Nat}{p:Nod}{ls:List Let}{ts:List Tol}(h:NS i nb ob g w p ls ts)(hb:ls.length<90000000){b1 b2 b3 lb:Nat}{l:Let}(h1:Box g w b1 #[pt nb 0] 107)(h2:Box g w b2 #[pt lb 0] 178)(h3:Box g w b3 #[S3.v x3] 113)(hl:BW g w lb l)(hv:FSv g w x3 vs0) :
  Calls prog 148 #[pt b1 0,pt b2 0,pt b3 0] w (NP i nb ob g w (.tuple #[]) p (ls++[{ Ca 1 with bal:=l.bal,votes:=vs0,what:=p.agreed,src:=i,dst:=l.src }]) ts):=by
 obtain⟨x,lt,tl,hN,hO,hg⟩:=h;refine gIn (fn:=f148) (TN i) g func148 (by kernel_rfl) (by kernel_rfl) hg ?_;refine qN hN ?_;refine qO hO ?_;refine Bj ⟨b1,.cells #[pt nb 0] 107,.z,false⟩ (fun _=>⟨h1.r,h1.z,fun h=>(by cases h),fun h=>absurd rfl h⟩) (by kernel_rfl) ?_;refine Bj ⟨b2,.cells #[pt lb 0] 178,.z,false⟩ (fun _=>⟨h2.r,h2.z,fun h=>(by cases h),fun h=>absurd rfl h⟩) (by kernel_rfl) ?_;refine Bj ⟨b3,.cells #[S3.v x3] 113,.z,false⟩ (fun _=>⟨h3.r,h3.z,fun h=>(by cases h),fun h=>absurd rfl h⟩) (by kernel_rfl) ?_;obtain⟨vs,wh,hl1,hl2,hl3⟩:=hl;refine Bj ⟨lb,.cells (Ek l vs wh) 177,.z,false⟩ (fun _=>⟨hl1.r,hl1.z,fun h=>(by cases h),fun h=>absurd rfl h⟩) (by kernel_rfl) ?_;refine qR [] 17 [16,0,2,2,3,4,6,8,5,10,3,12,14,16,5,18,4,20,2,22,24,26,28,0,30] fun s1 g1 w1 c1=>?_;refine Ae fun K=>?_;have C3:Cg w.heap.size ([]:List Tg) g w g1 w1:=(c1.nil ([]:List Tg));have Z3:Tg.z∉([]:List Tg):=by simp
 have N2:NS i nb ob g1 w1 p ls ts:=⟨x,lt,tl,hN.ch C3 Z3 (by simp),hO.ch C3 Z3 (by simp),K.new⟩;refine qG 16 (TN i) [false,false,true,true,true,true] (Ez N2 (by omega) { Ca 1 with bal:=l.bal,votes:=vs0,what:=p.agreed } x3 x.agreed (hv.ch C3 Z3) (hN.agreed.rc.ch C3 Z3) l.src) ?_;rintro e' w2 ⟨g2,rfl,M2,c2⟩;refine⟨_,g2,rfl,c2,M2.new,?_⟩;replace c2:=c2.ret (B:=w.heap.size);obtain⟨x2,lt2,tl2,hN2,hO2,hg2⟩:=M2;refine qN hN2 ?_;refine qO hO2 ?_;refine qR [] 1 [] fun s4 g4 w4 c4=>?_;refine qE (.tuple #[]) fun K=>?_;have C5:Cg w.heap.size ([]:List Tg) g2 w2 g4 w4:=(c4.nil ([]:List Tg));have Z5:Tg.z∉([]:List Tg):=by simp
 exact⟨_,rfl,⟨x2,lt2,tl2,hN2.ch C5 Z5 (by simp),hO2.ch C5 Z5 (by simp),K.new⟩,(((c1.nil (TN i)).trans (c2)).trans (c4.nil (TN i)))⟩
end Go.Proofs.YtakgfdbjgeopdaaGreatDoor
