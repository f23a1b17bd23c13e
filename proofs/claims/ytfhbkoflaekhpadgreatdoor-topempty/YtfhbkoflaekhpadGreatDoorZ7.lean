/- Part 7 of the walk. -/
import Derived.Test.YtfhbkoflaekhpadGreatDoorZ6
set_option maxRecDepth 100000
set_option maxHeartbeats 4000000
open Go.Proofs.Tryz
set_option linter.unusedVariables false
namespace Go.Proofs.YtfhbkoflaekhpadGreatDoor
section
open Go.RowKit
theorem Sv.cells{w:World}{ad:Addr}{n cap:Nat}{m:List Vt}(h:Sv w (.slice (some ad) n cap) m):∀ j u,(vtL m)[j]?=some u→w.cell? (ad.add j)=some u:=by
 intro j u hj;obtain⟨⟨a,cp,e,hc,hn,h1⟩,_⟩:=h;simp only[Value.slice.injEq]at e;obtain⟨rfl,rfl,rfl⟩:=e;rcases h1 with rfl|⟨b,off,hab,_,hcell⟩
 ·simp[vtL]at hj
 ·obtain rfl:ad=⟨b,off,none⟩:=by simpa using hab
  obtain⟨v,h2,h3⟩:=Yq m j u hj;have hadd:(⟨b,off,none⟩:Addr).add j=⟨b,off+j,none⟩:=by unfold Addr.add;split<;>simp_all
  rw[hadd];have h4:=hcell (j/8) v h2 (j%8) u h3
  rwa [show off+8*(j/8)+j%8=off+j by omega]at h4
theorem P9{P:Program}(w:World)(base dT sT ty e:Nat)(hu:P.underlying dT=some (.slice e))(hs:(P.info? e).map (·.size)=some 8)(g n:Nat)(xs:List Value)(hown:w.ownsRow base e 8 (.slice (some ⟨g,0,none⟩) n n) n xs)(u:Value)(m:List Vt)(hm:m.length=n)(hv:Sv w u m) :
  ∃ w',(Builtin.copy_ #[dT,sT] ty #[.slice (some ⟨g,0,none⟩) n n,u]).run P w=.ok (goInt n) w'∧w'.ownsRow base e 8 (.slice (some ⟨g,0,none⟩) n n) n (vtL m)∧Below g w w':=by
 obtain⟨i,hq,hi⟩:∃ i,P.info? e=some i∧i.size=8:=by
  cases hq:P.info? e with
  | none=>rw[hq]at hs;cases hs
  | some i=>rw[hq]at hs;exact⟨i,rfl,by simpa using hs⟩
 rcases hown.2 with⟨h0,_⟩|⟨g',cap,cur,hvv,hbg,hg,hnc,hcm,hcs,ht⟩
 ·cases h0
 ·simp only[Value.slice.injEq,Option.some.injEq,Addr.mk.injEq]at hvv;obtain⟨⟨rfl,_⟩,_,rfl⟩:=hvv;have hv2:=hv;obtain⟨⟨a,cp,rfl,hc,hn,h1⟩,_⟩:=hv;rw[hm]at hv2 ⊢
  cases a with
  | none =>
   have hc0:=hn rfl;subst hc0;have hm0:n=0:=by omega
   subst hm0;have hmn:m=[]:=List.eq_nil_of_length_eq_zero hm;subst hmn;refine⟨w,?_,⟨rfl,.inr ⟨g,0,cur,rfl,hbg,hg,hnc,hcm,hcs,by simp[vtL]⟩⟩,Below.refl _ _⟩;simp[Builtin.copy_,run_underlying hu,Builtin.lenOf,Builtin.firstCells,sizeOf,typeInfo,hq,storeCells]
  | some ad =>
   have hl:=run_firstCells_some (P:=P) w 8 n ad n cp (vtL m) (by rw[Cw,hm]) hv2.cells;have hst:=run_storeCells_at P g 0 e (vtL m) 0 cur w hg (by rw[Cw,hm];omega) (Tb m);have hfull:(cur.toList.take (0+0)++vtL m++cur.toList.drop (0+0+(vtL m).length))=vtL m:=by
    rw[Cw,hm,List.drop_eq_nil_of_le (by rw[Array.length_toList];omega)];simp
   rw[hfull]at hst
   refine⟨w.setRow g (vtL m).toArray,?_,⟨by rw[Cw,hm],.inr ⟨g,n,(vtL m).toArray,rfl,hbg,setRow_heap w g cur _ e _ hg,Nat.le_refl _,hcm,by simp[Cw,hm],?_⟩⟩,?_⟩
   ·simp[Builtin.copy_,run_underlying hu,Builtin.lenOf,sizeOf,typeInfo,hq,hi,hl,hst]
   ·rw[List.take_of_length_le (by simp[Cw,hm])]
   ·exact⟨rfl,rfl,rfl,by simp,fun k hk=>setRow_other w g k _ (by omega)⟩
theorem L9{P:Program}(w:World){ops:Array Oper}{rest:List Oper}{o:Oper}{a:Act}{Q:Exit→Act→World→Prop}(hgd:o.guard=none)(d s:Operand)(dT sT:TypeId)
  (ho:o.op=.call { callee:=.builtin .copy,args:=#[d,s],argTypes:=#[dT,sT] })
  (base e:Nat)(hu:P.underlying dT=some (.slice e))(hs:(P.info? e).map (·.size)=some 8)(g n:Nat)(xs:List Value)(hd:a.eval d=.slice (some ⟨g,0,none⟩) n n)(hown:w.ownsRow base e 8 (.slice (some ⟨g,0,none⟩) n n) n xs)(u:Value)(hu':a.eval s=u)(m:List Vt)(hm:m.length=n)(hv:Sv w u m)
  (h:∀ w',w'.ownsRow base e 8 (.slice (some ⟨g,0,none⟩) n n) n (vtL m)→Below g w w'→wpList P ops Q rest (a.put o.dst (goInt n)) w'):wpList P ops Q (o::rest) a w:=by
 refine wpList_plain hgd fun K hK=>?_;obtain⟨w',hrun,r1,r2⟩:=P9 (P:=P) w base dT sT o.type e hu hs g n xs hown u m hm hv;unfold Oper.wp execOp;simp only[ho,resolve,invoke,builtin,Sem.run_bind,Sem.run_pure,Result.andThen_ok,List.map_toArray,List.map_cons,List.map_nil,hd,hu',hrun];exact hK _ _ (h w' r1 r2)
theorem LB{P:Program}(w:World){ops:Array Oper}{rest:List Oper}{o:Oper}{a:Act}{Q:Exit→Act→World→Prop}
  (hg:o.guard=none)(l c:Operand)(t:TypeId)(hop:o.op=Op.makeSlice t l c)(base:Nat)(e:TypeId)(h1:P.underlying t=some (.slice e))(hinfo:(P.info? e).map (fun i=>(i.zero,i.size,i.bytes))=some (some zVt,8,64))
  (n:Nat)(hl:a.eval l=.int .i64 (n:Int))(hc:a.eval c=.int .i64 (n:Int))(hn:n≤2199023255488)(b4:base≤w.heap.size)
  (hK:∀ w',Hid (∃ xs,w'.ownsRow base e 8 (.slice (some ⟨w.heap.size,0,none⟩) n n) n xs)→w.grownBy w' none→wpList P ops Q rest (a.put o.dst (.slice (some ⟨w.heap.size,0,none⟩) n n)) w'):wpList P ops Q (o::rest) a w:=by
 obtain⟨i0,hi,hz0,hz1,hz2⟩:=info_parts hinfo;refine wpList_make_full w hg l c t hop base e i0 zVt 8 h1 hi hz0 hz1 _ _ _ _ n hl hc rfl rfl (by rw[hz2];omega) (by unfold maxLen;omega) b4 (fun w' o1 g1=>hK w' ⟨_,o1⟩ g1)
theorem Bo{w:World}{b b' e k8:Nat}{v:Value}{n:Nat}{xs:List Value}(h:w.ownsRow b e k8 v n xs)(hb:b'≤b):w.ownsRow b' e k8 v n xs:=by
 refine⟨h.1,?_⟩;rcases h.2 with h2|⟨g,cap,cur,hv,hbg,hr⟩
 ·exact .inl h2
 ·exact .inr ⟨g,cap,cur,hv,Nat.le_trans hb hbg,hr⟩
theorem vt8:(prog.info? 139).map (·.size)=some 8:=by kernel_rfl
theorem Km(x:Value)(l:List Vt)(w:World)(h:Sv w x l) :
  Calls prog 133 #[x] w fun e w'=>∃ x',e=.returned x'∧w'.ownsRow w.heap.size 139 8 x' l.length (vtL l)∧Bw w w':=by
 have hlen:=h.len;obtain⟨a,cp,rfl⟩:=h.shape;obtain⟨N,hN⟩:∃ N,l.length=N:=⟨_,rfl⟩;have HN:Hid (l.length=N):=hN;rw[hN]at h hlen ⊢
 clear hN;go_enter func133,ntmps133
 go_wp2_with ((with_reducible (refine As ?_));at_make;refine LB _ rfl _ _ 75 rfl w.heap.size 139 underlying75 Ei N rfl rfl hlen (Nat.le_refl _) ?_)
 intro w1 o1 g1;have b1:Bw w w1:=(Below.refl _ _).grown g1 (Nat.le_refl _) (fun k hk=>by cases hk);have h1:=h.below b1;obtain⟨xs,o1⟩:=o1.out;have HO:Hid (w1.ownsRow w.heap.size 139 8 (.slice (some ⟨w.heap.size,0,none⟩) N N) N xs):=o1;clear o1;go_wp2_with ((with_reducible (refine As ?_));refine L9 _ rfl _ _ 75 75 rfl w.heap.size 139 underlying75 vt8 w.heap.size N _ rfl HO.out _ rfl l HN.out h1 ?_)
 intro w2 o2 b2;have HO2:Hid (w2.ownsRow w.heap.size 139 8 (.slice (some ⟨w.heap.size,0,none⟩) N N) N (vtL l)):=o2;have d2:=b1.trans b2;clear o2 HO;go_wp2
 go_ret;exact⟨_,rfl,HO2.out,d2⟩
theorem Sv.window{w:World}{a:Option Addr}{n cap:Nat}{l:List Vt}(h:Sv w (.slice a n cap) l)(lo hi:Nat)(hlo:lo≤hi)(hhi:hi≤l.length):Sv w (sliced a lo hi cap 8) ((l.take hi).drop lo):=by
 obtain⟨⟨a',cap',e,hc,hn,h1⟩,hla⟩:=h;simp only[Value.slice.injEq]at e;obtain⟨rfl,rfl,rfl⟩:=e;have hl:((l.take hi).drop lo).length=hi-lo:=by rw[List.length_drop,List.length_take];omega
 cases a with
 | none =>
  have c0:=hn rfl;subst c0;have h0:l.length=0:=by omega
  refine⟨⟨_,_,by rw[hl];rfl,by omega,fun _=>by omega,.inl (List.eq_nil_of_length_eq_zero (by omega))⟩,by omega⟩
 | some ad =>
  refine⟨⟨_,_,by rw[hl];rfl,by omega,(by intro h;split at h<;>simp at h),?_⟩,by omega⟩;rcases Nat.eq_or_lt_of_le hlo with he|hlt
  ·exact .inl (List.eq_nil_of_length_eq_zero (by omega))
  ·rcases h1 with rfl|⟨b,off,e2,hbs,hcell⟩
   ·simp at hhi;omega
   ·simp only[Option.some.injEq]at e2;subst e2;refine .inr ⟨b,off+lo*8,?_,hbs,fun i v hi2=>?_⟩
    ·rw[if_neg (by omega)];simp[Addr.add]
    ·rw[List.getElem?_drop,List.getElem?_take]at hi2
     split at hi2
     ·have:=hcell (lo+i) v hi2
      rwa [show off+8*(lo+i)=off+lo*8+8*i by omega]at this
     ·cases hi2
theorem Sv.upTo{w:World}{a:Option Addr}{n cap:Nat}{l:List Vt}(h:Sv w (.slice a n cap) l)(hi:Nat)(hhi:hi≤l.length) :
  ∃ a' c',(∀ W,(Instr.slice 75 (.slice a n cap) none (some (.int .i64 (hi:Int))) none).run prog W=.ok (.slice a' hi c') W)∧Sv w (.slice a' hi c') (l.take hi):=by
 have hw:=h.window 0 hi (by omega) hhi;obtain⟨⟨a',cap',e,hc,hn,h1⟩,hla⟩:=h;simp only[Value.slice.injEq]at e;obtain⟨rfl,rfl,rfl⟩:=e;refine⟨_,_,fun W=>?_,by simpa[sliced]using hw⟩;rw[run_slice_h (P:=prog) W 75 a _ cap underlying75 .i64 _ (by omega) (by omega)];rw[Q2,RC];simp[Result.andThen,sliced]
theorem Sv.from{w:World}{a:Option Addr}{n cap:Nat}{l:List Vt}(h:Sv w (.slice a n cap) l)(lo:Nat)(hlo:lo≤l.length) :
  ∃ a' c',(∀ W,(Instr.slice 75 (.slice a n cap) (some (.int .i64 (lo:Int))) none none).run prog W=.ok (.slice a' (n-lo) c') W)∧Sv w (.slice a' (n-lo) c') (l.drop lo):=by
 have hw:=h.window lo l.length hlo (Nat.le_refl _);obtain⟨⟨a',cap',e,hc,hn,h1⟩,hla⟩:=h;simp only[Value.slice.injEq]at e;obtain⟨rfl,rfl,rfl⟩:=e;refine⟨_,_,fun W=>?_,by simpa[sliced]using hw⟩;rw[run_slice_l (P:=prog) W 75 a _ cap underlying75 .i64 _ (by omega) (by omega)];rw[Q2,RC];simp[Result.andThen,sliced]
theorem E7{P:Program}(w:World){ops:Array Oper}{rest:List Oper}{o:Oper}{a:Act}{Q:Exit→Act→World→Prop}
  (hg:o.guard=none)(l c:Operand)(t:TypeId)(hop:o.op=Op.makeSlice t l c)(base:Nat)(e:TypeId)(h1:P.underlying t=some (.slice e))(hinfo:(P.info? e).map (fun i=>(i.zero,i.size,i.bytes))=some (some zVt,8,64))
  (C:Int)(n:Nat)(hl:a.eval l=.int .i64 0)(hc:a.eval c=.int .i64 C)(hC:C=(n:Int))(hn:n≤2199023255500)(b4:base≤w.heap.size)
  (hK:∀ w',Hid (w'.ownsRow base e 8 (.slice (some ⟨w.heap.size,0,none⟩) 0 n) ([]:List Vt).length (vtL []))→w.grownBy w' none→wpList P ops Q rest (a.put o.dst (.slice (some ⟨w.heap.size,0,none⟩) 0 n)) w'):wpList P ops Q (o::rest) a w:=by
 obtain⟨i0,hi,hz0,hz1,hz2⟩:=info_parts hinfo;exact wpList_make_own w hg l c t hop base e i0 zVt 8 h1 hi hz0 hz1 _ _ C n hl hc hC (by rw[hz2];omega) (by unfold maxLen;omega) b4 (fun w' o1 g1=>hK w' o1 g1)
theorem Oh(x:Value)(l:List Vt)(v:Vt)(w:World)(hr:BA l)(h:Sv w x l) :
  Calls prog 138 #[x,.agg (vtA v)] w fun e w'=>∃ x',e=.returned x'∧w'.ownsRow w.heap.size 139 8 x' (Bf l v).length (vtL (Bf l v))∧Bw w w':=by
 have hlen:=h.len;obtain⟨a,cp,rfl⟩:=h.shape;obtain⟨n,hn⟩:∃ n,l.length=n:=⟨_,rfl⟩;rw[hn]at h hlen ⊢
 have HL:Hid (l.length=n):=hn;clear hn;have bb:Bw w (w.alloc (.cells (vtA v) 139)):=(Below.refl _ _).alloc (Nat.le_refl _) _;have rr:=heap_alloc_new w (.cells (vtA v) 139);have hsz:=eJ v;have HU:Hid (∀ p,Plc l v.slot p→K7 l p v.slot=true→Bf l v=l.take p++[v]++l.drop (p+1)∧p+1≤l.length):=fun p hp hh=>by
  obtain⟨u,hu,he⟩:=Mx hh;exact⟨by rw[hp.has hu he];simp,by have:=(List.getElem?_eq_some_iff.1 hu).1;omega⟩
 have HN:Hid (∀ p,Plc l v.slot p→K7 l p v.slot=false→Bf l v=l.take p++[v]++l.drop p∧p≤l.length):=fun p hp hh=>⟨by rw[hp.no (K8 hh)];simp,hp.le⟩;obtain⟨vs,⟨vr,vn⟩,⟨vk,vc,vq,vm,vx⟩⟩:=v;simp only[vtA,vtC]at bb rr hsz ⊢;generalize hW:w.alloc (.cells [.int .i64 vs,.int .i64 vr,.int .i64 vn,.int .i64 vk,.int .i64 vc,.int .i64 vq,.int .i64 vm,.int .i64 vx].toArray 139)=W at bb rr;have ltG:w.heap.size<W.heap.size:=(Array.getElem?_eq_some_iff.1 rr).1;have c0:W.cell? ⟨w.heap.size,0,none⟩=some (.int .i64 vs):=cell_of_row _ _ 0 _ _ _ rr;go_enter func138,ntmps138
 go_wp2_with fail
 clear hW;refine(Jk _ l vs W hr (h.below bb)).mono ?_;rintro e w1 ⟨p,rfl,hp,b1⟩;have d1:=bb.trans (b1.mono bb.size);have ltG1:w.heap.size<w1.heap.size:=Nat.lt_of_lt_of_le ltG b1.size;replace rr:=(b1.block _ ltG).trans rr;have c0:w1.cell? ⟨w.heap.size,0,none⟩=some (.int .i64 vs):=cell_of_row _ _ 0 _ _ _ rr;have s1:=h.below d1;have hp0:p≤n:=by have:=hp.le;have:=HL.out;omega
 have HP:Hid (Plc l vs p):=hp;clear b1 bb hp;go_wp2_with fail
 refine(IZ _ l p vs w1 s1).mono ?_;rintro e w2 ⟨rfl,rfl⟩;obtain⟨a1,k1,u1,su⟩:=s1.upTo p HP.out.le;have hlp:(l.take p).length≤n:=by rw[List.length_take];omega
 have hz:=d1.size;generalize hh:K7 l p vs=bh;cases bh
 ·obtain⟨HI0,hk0⟩:=HN.out p HP.out hh;have HI:Hid (Bf l ⟨vs,⟨vr,vn⟩,⟨vk,vc,vq,vm,vx⟩⟩=l.take p++([⟨vs,⟨vr,vn⟩,⟨vk,vc,vq,vm,vx⟩⟩]:List Vt)++l.drop (p)):=HI0;obtain⟨a2,k2,u2,sd⟩:=s1.from (p) hk0;have hld:(l.take p).length+(l.drop (p)).length≤n:=by rw[List.length_take,List.length_drop];have:=HL.out;omega
  have SU:Hid (∀ w',Bw w2 w'→Sv w' (.slice a1 p k1) (l.take p)):=fun w' hb=>su.below hb;have SD:Hid (∀ w',Bw w2 w'→Sv w' (.slice a2 (n-(p)) k2) (l.drop (p))):=fun w' hb=>sd.below hb;clear HI0 HU HN hh su sd s1 h hr;generalize l.take p=LP at HI SU hlp hld;generalize l.drop (p)=LD at HI SD hld;have hkn:(p)≤n:=by have:=HL.out;omega
  go_wp2_with ((with_reducible (refine As ?_));at_make;refine E7 _ rfl _ _ 75 rfl w2.heap.size 139 underlying75 Ei _ (n+1) rfl rfl (by first|rfl|omega) (by omega) (Nat.le_refl _) ?_)
  intro w3 o3 g3;have b3:Bw w2 w3:=(Below.refl _ _).grown g3 (Nat.le_refl _) (fun k hk=>by cases hk);have z3:=b3.size;clear g3;go_wp2_with ((with_reducible (refine As ?_));at_builtin;refine Bg _ rfl _ _ 75 rfl w2.heap.size 139 zVt underlying75 Ei rfl _ _ rfl rfl [] (LP) o3.out (SU.out w3 b3) (by simp;omega) (by omega) ?_)
  intro v4 w4 o4 g4;have b4:Bw w2 w4:=b3.grown g4 (by omega) (fun k hk=>(o3.out.lt k hk).1);have z4:=b4.size;have HO4:Hid (w4.ownsRow w2.heap.size 139 8 v4 (LP).length (vtL (LP))):=by unfold Hid;simpa using o4
  have lt4:=HO4.out.lt;have rr4:=(b4.block _ ltG1).trans rr;clear o4 g4 o3;go_wp2_with ((with_reducible (refine As ?_));first|(refine wpList_load_row rfl 139 _ rfl w.heap.size rfl 139 _ (0,0) _ rr4 underlying139 rfl hsz ?_)|(at_builtin;refine Bg _ rfl _ _ 75 rfl w2.heap.size 139 zVt underlying75 Ei rfl _ _ rfl rfl (LP) ([⟨vs,⟨vr,vn⟩,⟨vk,vc,vq,vm,vx⟩⟩]:List Vt) (HO4.out.alloc _) (Sv.one _ ⟨vs,⟨vr,vn⟩,⟨vk,vc,vq,vm,vx⟩⟩ _ rfl) (by simp;omega) (by simp;omega) ?_))
  intro v5 w5 o5 g5;have b5:Bw w2 w5:=(b4.alloc (by omega) _).grown g5 (by simp;omega) (fun k hk=>(lt4 k hk).1);have z5:=b5.size;have HO5:Hid (w5.ownsRow w2.heap.size 139 8 v5 (LP++([⟨vs,⟨vr,vn⟩,⟨vk,vc,vq,vm,vx⟩⟩]:List Vt)).length (vtL (LP++([⟨vs,⟨vr,vn⟩,⟨vk,vc,vq,vm,vx⟩⟩]:List Vt)))):=by unfold Hid;rw[List.length_append];exact o5
  have lt5:=HO5.out.lt;clear o5 g5 HO4 lt4 rr4;go_wp2_with ((with_reducible (refine As ?_));at_builtin;refine Bg _ rfl _ _ 75 rfl w2.heap.size 139 zVt underlying75 Ei rfl _ _ rfl rfl (LP++([⟨vs,⟨vr,vn⟩,⟨vk,vc,vq,vm,vx⟩⟩]:List Vt)) (LD) HO5.out (SD.out w5 b5) (by rw[List.length_append];simp;omega) (by omega) ?_)
  intro v6 w6 o6 g6;have b6:Bw w2 w6:=b5.grown g6 (by omega) (fun k hk=>(lt5 k hk).1);have HO6:Hid (w6.ownsRow w2.heap.size 139 8 v6 (LP++([⟨vs,⟨vr,vn⟩,⟨vk,vc,vq,vm,vx⟩⟩]:List Vt)++LD).length (vtL (LP++([⟨vs,⟨vr,vn⟩,⟨vk,vc,vq,vm,vx⟩⟩]:List Vt)++LD))):=by unfold Hid;simpa using o6
  have d6:=d1.trans (b6.mono d1.size);clear o6 g6 HO5 lt5;go_wp2
  go_ret;refine⟨v6,rfl,?_,d6⟩;rw[HI.out];exact Bo HO6.out d1.size
 ·obtain⟨HI0,hk0⟩:=HU.out p HP.out hh;have HI:Hid (Bf l ⟨vs,⟨vr,vn⟩,⟨vk,vc,vq,vm,vx⟩⟩=l.take p++([⟨vs,⟨vr,vn⟩,⟨vk,vc,vq,vm,vx⟩⟩]:List Vt)++l.drop (p+1)):=HI0;obtain⟨a2,k2,u2,sd⟩:=s1.from (p+1) hk0;rw[show((p+1:Nat):Int)=(p:Int)+1 by omega]at u2
  have hld:(l.take p).length+(l.drop (p+1)).length≤n:=by rw[List.length_take,List.length_drop];have:=HL.out;omega
  have SU:Hid (∀ w',Bw w2 w'→Sv w' (.slice a1 p k1) (l.take p)):=fun w' hb=>su.below hb;have SD:Hid (∀ w',Bw w2 w'→Sv w' (.slice a2 (n-(p+1)) k2) (l.drop (p+1))):=fun w' hb=>sd.below hb;clear HI0 HU HN hh su sd s1 h hr;generalize l.take p=LP at HI SU hlp hld;generalize l.drop (p+1)=LD at HI SD hld;have hkn:(p+1)≤n:=by have:=HL.out;omega
  go_wp2_with ((with_reducible (refine As ?_));at_make;refine E7 _ rfl _ _ 75 rfl w2.heap.size 139 underlying75 Ei _ (n+1) rfl rfl (by first|rfl|omega) (by omega) (Nat.le_refl _) ?_)
  intro w3 o3 g3;have b3:Bw w2 w3:=(Below.refl _ _).grown g3 (Nat.le_refl _) (fun k hk=>by cases hk);have z3:=b3.size;clear g3;go_wp2_with ((with_reducible (refine As ?_));at_builtin;refine Bg _ rfl _ _ 75 rfl w2.heap.size 139 zVt underlying75 Ei rfl _ _ rfl rfl [] (LP) o3.out (SU.out w3 b3) (by simp;omega) (by omega) ?_)
  intro v4 w4 o4 g4;have b4:Bw w2 w4:=b3.grown g4 (by omega) (fun k hk=>(o3.out.lt k hk).1);have z4:=b4.size;have HO4:Hid (w4.ownsRow w2.heap.size 139 8 v4 (LP).length (vtL (LP))):=by unfold Hid;simpa using o4
  have lt4:=HO4.out.lt;have rr4:=(b4.block _ ltG1).trans rr;clear o4 g4 o3;go_wp2_with ((with_reducible (refine As ?_));first|(refine wpList_load_row rfl 139 _ rfl w.heap.size rfl 139 _ (0,0) _ rr4 underlying139 rfl hsz ?_)|(at_builtin;refine Bg _ rfl _ _ 75 rfl w2.heap.size 139 zVt underlying75 Ei rfl _ _ rfl rfl (LP) ([⟨vs,⟨vr,vn⟩,⟨vk,vc,vq,vm,vx⟩⟩]:List Vt) (HO4.out.alloc _) (Sv.one _ ⟨vs,⟨vr,vn⟩,⟨vk,vc,vq,vm,vx⟩⟩ _ rfl) (by simp;omega) (by simp;omega) ?_))
  intro v5 w5 o5 g5;have b5:Bw w2 w5:=(b4.alloc (by omega) _).grown g5 (by simp;omega) (fun k hk=>(lt4 k hk).1);have z5:=b5.size;have HO5:Hid (w5.ownsRow w2.heap.size 139 8 v5 (LP++([⟨vs,⟨vr,vn⟩,⟨vk,vc,vq,vm,vx⟩⟩]:List Vt)).length (vtL (LP++([⟨vs,⟨vr,vn⟩,⟨vk,vc,vq,vm,vx⟩⟩]:List Vt)))):=by unfold Hid;rw[List.length_append];exact o5
  have lt5:=HO5.out.lt;clear o5 g5 HO4 lt4 rr4;go_wp2_with ((with_reducible (refine As ?_));at_builtin;refine Bg _ rfl _ _ 75 rfl w2.heap.size 139 zVt underlying75 Ei rfl _ _ rfl rfl (LP++([⟨vs,⟨vr,vn⟩,⟨vk,vc,vq,vm,vx⟩⟩]:List Vt)) (LD) HO5.out (SD.out w5 b5) (by rw[List.length_append];simp;omega) (by omega) ?_)
  intro v6 w6 o6 g6;have b6:Bw w2 w6:=b5.grown g6 (by omega) (fun k hk=>(lt5 k hk).1);have HO6:Hid (w6.ownsRow w2.heap.size 139 8 v6 (LP++([⟨vs,⟨vr,vn⟩,⟨vk,vc,vq,vm,vx⟩⟩]:List Vt)++LD).length (vtL (LP++([⟨vs,⟨vr,vn⟩,⟨vk,vc,vq,vm,vx⟩⟩]:List Vt)++LD))):=by unfold Hid;simpa using o6
  have d6:=d1.trans (b6.mono d1.size);clear o6 g6 HO5 lt5;go_wp2
  go_ret;refine⟨v6,rfl,?_,d6⟩;rw[HI.out];exact Bo HO6.out d1.size
theorem Rh{w:World}{g:Nat}{v:Vt}{t:TypeId}{fr:Nat × Nat}(h:w.heap[g]?=some (.cells (vtA v) t fr)):w.rangeAt g 0 (vtC v):=fun j u hj=>by
 rw[Nat.zero_add,cell_of_row _ _ j _ _ _ h];simpa[vtA]using hj
theorem Um{P:Program}{id:Nat}{ops:Array Oper}{K:Act→World→Prop}{Q:Exit→Act→World→Prop}{a:Act}{w:World}(R:Option Addr→Nat→Nat→World→Prop){A:Option Addr→Nat→Nat→Act}
  (hreg:∀ K':Act→World→Prop,Hid (∀ g n c W2,R g n c W2→K' (A g n c) W2)→(Code.region id ops true).wp P (Exit.then K' Q) a w)(hrest:∀ g n c W2,R g n c W2→K (A g n c) W2):(Code.region id ops true).wp P (Exit.then K Q) a w:=hreg K hrest
theorem BP(p:Bal)(x:Value)(l:List Vt)(v:Vt)(w:World)(h:Sv w x l)(ht:NTab w) :
  Calls prog 101 #[.agg (acA p x),.agg (vtA v)] w fun e w'=>∃ y,e=.returned (.tuple #[.agg (acA (Ck ⟨p,l⟩ v) y),.int .i64 (AT ⟨p,l⟩ v)])∧w'.ownsRow w.heap.size 139 8 y (Dg ⟨p,l⟩ v).length (vtL (Dg ⟨p,l⟩ v))∧(Dg ⟨p,l⟩ v).length≤40∧Bw w w':=by
 obtain⟨pr,pn⟩:=p;obtain⟨vs,⟨vr,vn⟩,⟨vk,vc,vq,vm,vx⟩⟩:=v;have hlen:=h.len;obtain⟨ax,cp,rfl⟩:=h.shape;obtain⟨M,hM⟩:∃ M,l.length=M:=⟨_,rfl⟩;have HM:Hid (l.length=M):=hM;rw[hM]at h hlen ⊢
 clear hM;simp only[acA,vtA,vtC];obtain⟨W0,hW0⟩:∃ W0,((w.alloc (.cells #[.int .i64 pr,.int .i64 pn,.slice ax M cp] 77)).alloc (.cells #[.int .i64 vs,.int .i64 vr,.int .i64 vn,.int .i64 vk,.int .i64 vc,.int .i64 vq,.int .i64 vm,.int .i64 vx] 139)).alloc (.cells #[.int .i64 0,.int .i64 0,.slice none 0 0] 77)=W0:=⟨_,rfl⟩;obtain⟨r0,r1,r2,bb⟩:=Po w (.cells #[.int .i64 pr,.int .i64 pn,.slice ax M cp] 77) (.cells #[.int .i64 vs,.int .i64 vr,.int .i64 vn,.int .i64 vk,.int .i64 vc,.int .i64 vq,.int .i64 vm,.int .i64 vx] 139) (.cells #[.int .i64 0,.int .i64 0,.slice none 0 0] 77);have z0:W0.heap.size=w.heap.size+3:=by rw[← hW0];simp
 rw[hW0]at r0 r1 r2 bb
 have hl0:=h.below bb;go_enter func101,ntmps101
 go_wp2_with ((with_reducible (refine As ?_));refine wpList_load_row rfl 77 _ rfl w.heap.size rfl 77 _ (0,0) _ r0 underlying77 rfl (BL ⟨pr,pn⟩ (.slice ax M cp)) ?_)
 clear hW0;refine(Iw ⟨pr,pn⟩ (.slice ax M cp) l W0 hl0 (ht.below bb)).mono ?_;rintro e w1 ⟨rfl,b1⟩;have d1:=bb.trans (b1.mono bb.size);have z1:=b1.size;have q0:=(b1.block w.heap.size (by omega)).trans r0;have q1:=(b1.block (w.heap.size+1) (by omega)).trans r1;have q2:=(b1.block (w.heap.size+2) (by omega)).trans r2;have hl1:=hl0.below b1;clear r0 r1 r2 b1 bb hl0;have hz3:(#[.int .i64 0,.int .i64 0,.slice none 0 0]:Array Value).all (·.oneCell')=true:=by simp[Value.oneCell']
 have HZero:Hid (∀ E,E≠0→AT ⟨⟨pr,pn⟩,l⟩ ⟨vs,⟨vr,vn⟩,⟨vk,vc,vq,vm,vx⟩⟩=E→Ck ⟨⟨pr,pn⟩,l⟩ ⟨vs,⟨vr,vn⟩,⟨vk,vc,vq,vm,vx⟩⟩=⟨0,0⟩∧Dg ⟨⟨pr,pn⟩,l⟩ ⟨vs,⟨vr,vn⟩,⟨vk,vc,vq,vm,vx⟩⟩=[]):=fun E h1 h2=>⟨if_neg (by rw[h2];exact h1),if_neg (by rw[h2];exact h1)⟩;by_cases h1:Ao ⟨⟨pr,pn⟩,l⟩
 ·rw[show Gj ⟨⟨pr,pn⟩,l⟩=0 from if_pos h1];have c0:w1.cell? ⟨w.heap.size+1,0,none⟩=some (.int .i64 vs):=cell_of_row _ _ 0 _ _ _ q1;have c1:w1.cell? ⟨w.heap.size+1,1,none⟩=some (.int .i64 vr):=cell_of_row _ _ 1 _ _ _ q1;have c2:w1.cell? ⟨w.heap.size+1,2,none⟩=some (.int .i64 vn):=cell_of_row _ _ 2 _ _ _ q1;have c3:w1.cell? ⟨w.heap.size+1,3,none⟩=some (.int .i64 vk):=cell_of_row _ _ 3 _ _ _ q1;have c4:w1.cell? ⟨w.heap.size+1,4,none⟩=some (.int .i64 vc):=cell_of_row _ _ 4 _ _ _ q1;have c5:w1.cell? ⟨w.heap.size+1,5,none⟩=some (.int .i64 vq):=cell_of_row _ _ 5 _ _ _ q1;have c6:w1.cell? ⟨w.heap.size+1,6,none⟩=some (.int .i64 vm):=cell_of_row _ _ 6 _ _ _ q1;have c7:w1.cell? ⟨w.heap.size+1,7,none⟩=some (.int .i64 vx):=cell_of_row _ _ 7 _ _ _ q1;go_wp2_with fail
  refine(Ht ⟨vs,⟨vr,vn⟩,⟨vk,vc,vq,vm,vx⟩⟩ w1 (ht.below d1)).mono ?_;rintro e w2 ⟨rfl,b2⟩;have d2:=d1.trans (b2.mono d1.size);have z2:=b2.size;have hl2:=hl1.below b2;replace q0:=(b2.block w.heap.size (by omega)).trans q0;replace q1:=(b2.block (w.heap.size+1) (by omega)).trans q1;replace q2:=(b2.block (w.heap.size+2) (by omega)).trans q2;clear c0 c1 c2 c3 c4 c5 c6 c7;have c1:w2.cell? ⟨w.heap.size+1,1,none⟩=some (.int .i64 vr):=cell_of_row _ _ 1 _ _ _ q1;have c2:w2.cell? ⟨w.heap.size+1,2,none⟩=some (.int .i64 vn):=cell_of_row _ _ 2 _ _ _ q1;have a0:w2.cell? ⟨w.heap.size,0,none⟩=some (.int .i64 pr):=cell_of_row _ _ 0 _ _ _ q0;have a1:w2.cell? ⟨w.heap.size,1,none⟩=some (.int .i64 pn):=cell_of_row _ _ 1 _ _ _ q0;clear b2 d1 hl1;by_cases h2:Aj ⟨vs,⟨vr,vn⟩,⟨vk,vc,vq,vm,vx⟩⟩
  ·rw[decide_eq_true h2];go_wp2_with fail
   refine(D6 ⟨vr,vn⟩ ⟨pr,pn⟩ w2).mono ?_;rintro e W ⟨rfl,b3⟩;have d3:=d2.trans (b3.mono d2.size);have z3:=b3.size;have hl:=hl2.below b3;replace q0:=(b3.block w.heap.size (by omega)).trans q0;replace q1:=(b3.block (w.heap.size+1) (by omega)).trans q1;have rR:=(b3.block (w.heap.size+2) (by omega)).trans q2;clear b3 d2 hl2 q2 c1 c2 a0 a1;by_cases h3:Bal.lt ⟨vr,vn⟩ ⟨pr,pn⟩
   ·rw[decide_eq_true h3];have HE:Hid (AT ⟨⟨pr,pn⟩,l⟩ ⟨vs,⟨vr,vn⟩,⟨vk,vc,vq,vm,vx⟩⟩=7):=by unfold Hid AT;rw[if_neg (fun g=>g h1),if_neg (fun g=>g h2),if_pos h3]
    go_wp2_with ((with_reducible (refine As ?_));refine wpList_store_row rfl 77 (.tmp 4) (.tmp 22) rfl (w.heap.size+2) #[.int .i64 0,.int .i64 0,.slice none 0 0] rfl rfl 77 _ rR (BL ⟨0,0⟩ (.slice none 0 0)) rfl hz3 ?_)
    have q9:=setRow_heap W (w.heap.size+2) _ (#[.int .i64 0,.int .i64 0,.slice none 0 0]) 77 _ rR;have d9:=Ai d3 (show w.heap.size≤w.heap.size+2 by omega) (#[.int .i64 0,.int .i64 0,.slice none 0 0]);have HZ:=HZero.out _ (by decide) HE.out;refine bodyPost_ret (FA rfl _ _ (w.heap.size+2) 77 _ (0,0) _ rfl q9 underlying77 rfl (BL ⟨0,0⟩ (.slice none 0 0))) rfl ?_;rw[HE.out,HZ.1,HZ.2];exact⟨.slice none 0 0,rfl,World.ownsRow_nil _ _ _ _,by simp,d9⟩
   ·rw[decide_eq_false h3];have HE:Hid (AT ⟨⟨pr,pn⟩,l⟩ ⟨vs,⟨vr,vn⟩,⟨vk,vc,vq,vm,vx⟩⟩=0):=by unfold Hid AT;rw[if_neg (fun g=>g h1),if_neg (fun g=>g h2),if_neg h3]
    have HP:Hid (Ck ⟨⟨pr,pn⟩,l⟩ ⟨vs,⟨vr,vn⟩,⟨vk,vc,vq,vm,vx⟩⟩=⟨vr,vn⟩∧Dg ⟨⟨pr,pn⟩,l⟩ ⟨vs,⟨vr,vn⟩,⟨vk,vc,vq,vm,vx⟩⟩=Bf l ⟨vs,⟨vr,vn⟩,⟨vk,vc,vq,vm,vx⟩⟩):=⟨if_pos HE.out,if_pos HE.out⟩;have HI:Hid (∀ k:Nat,k=40→K6 l ⟨vs,⟨vr,vn⟩,⟨vk,vc,vq,vm,vx⟩⟩ k=Bf l ⟨vs,⟨vr,vn⟩,⟨vk,vc,vq,vm,vx⟩⟩):=fun k hk=>Zd k h1.2.2 (fun u hu=>by have:=(h1.2.1 u hu).1.1;omega) (by have:=h2.1;simp only at this ⊢;omega);have HR:Hid (BA l):=h1.2.2;clear h1 h2 h3 HZero;have a2:W.cell? ⟨w.heap.size,2,none⟩=some (.slice ax M cp):=cell_of_row _ _ 2 _ _ _ q0;have rB:W.rangeAt (w.heap.size+1) 1 [.int .i64 vr,.int .i64 vn]:=R7 (o:=1) (cell_of_row _ _ 1 _ _ _ q1) (cell_of_row _ _ 2 _ _ _ q1);have rV:W.rangeAt (w.heap.size+1) 0 (vtC ⟨vs,⟨vr,vn⟩,⟨vk,vc,vq,vm,vx⟩⟩):=Rh q1;have hle:w.heap.size+2≤W.heap.size:=by omega
    have ltR:w.heap.size+2<W.heap.size:=by omega
    have HI40:Hid ((Bf l ⟨vs,⟨vr,vn⟩,⟨vk,vc,vq,vm,vx⟩⟩).length≤40):=by unfold Hid;rw[← HI.out 40 rfl];exact Wi _ HR.out 40
    clear HI;go_wp2_with fail
    apply Um (fun g n c W2=>W2.heap[w.heap.size+2]?=some (.cells #[.int .i64 vr,.int .i64 vn,.slice g n c] 77)∧W2.ownsRow W.heap.size 139 8 (.slice g n c) (Bf l ⟨vs,⟨vr,vn⟩,⟨vk,vc,vq,vm,vx⟩⟩).length (vtL (Bf l ⟨vs,⟨vr,vn⟩,⟨vk,vc,vq,vm,vx⟩⟩))∧Below (w.heap.size+2) W W2)
    ·intro K2 HK2;have ed0:Bw W W.drew:=(Below.refl _ _).drew;have ed:Below (w.heap.size+2) W W.drew:=ed0.mono hle;refine wp_region_held (S:=fun w'=>Below (w.heap.size+2) W w') (by kernel_rfl) ?_;have hS0:(fun w'=>Below (w.heap.size+2) W w') W.drew:=ed;refine Ag (i:=0) 23 (v:=.pointer (some ⟨w.heap.size+1,1,none⟩)) rfl rfl (by kernel_rfl) (by kernel_rfl) (by kernel_rfl) (fun _ _ _ h=>h) (Or.inl ⟨by rfl,fun _ _=>by kernel_rfl⟩) hS0 ?_;simp only[Act.put,List.setIfInBounds_toArray,List.set_cons_zero,List.set_cons_succ];refine Ag (i:=1) 24 (v:=.agg #[.int .i64 vr,.int .i64 vn]) rfl rfl (by kernel_rfl) (by kernel_rfl) (by kernel_rfl) (fun _ _ _ h=>h) (yieldsIf_load_mid (by rfl) 74 (.tmp 23) rfl (w.heap.size+1) 1 rfl [.int .i64 vr,.int .i64 vn] _ (fun w' hw'=>GO hw' (by omega) rB) underlying74 rfl Kc) hS0 ?_;simp only[Act.put,List.setIfInBounds_toArray,List.set_cons_zero,List.set_cons_succ];refine Ag (i:=2) 25 (v:=.pointer (some ⟨w.heap.size,2,none⟩)) rfl rfl (by kernel_rfl) (by kernel_rfl) (by kernel_rfl) (fun _ _ _ h=>h) (Or.inl ⟨by rfl,fun _ _=>by kernel_rfl⟩) hS0 ?_;simp only[Act.put,List.setIfInBounds_toArray,List.set_cons_zero,List.set_cons_succ];refine Ag (i:=3) 26 (v:=.slice ax M cp) rfl rfl (by kernel_rfl) (by kernel_rfl) (by kernel_rfl) (fun _ _ _ h=>h) (Gi (by rfl) 75 (.tmp 25) rfl _ underlying75 rfl ⟨w.heap.size,2,none⟩ rfl (.slice ax M cp) (fun w' hw'=>(hw'.cell (p:=⟨w.heap.size,2,none⟩) (show w.heap.size<w.heap.size+2 by omega)).trans a2)) hS0 ?_;simp only[Act.put,List.setIfInBounds_toArray,List.set_cons_zero,List.set_cons_succ];refine Ag (i:=4) 27 (v:=.agg (vtA ⟨vs,⟨vr,vn⟩,⟨vk,vc,vq,vm,vx⟩⟩)) rfl rfl (by kernel_rfl) (by kernel_rfl) (by kernel_rfl) (fun _ _ _ h=>h) (bi (by rfl) (.tmp 3) rfl (w.heap.size+1) 0 rfl ⟨vs,⟨vr,vn⟩,⟨vk,vc,vq,vm,vx⟩⟩ (fun w' hw'=>GO hw' (by omega) rV)) hS0 ?_;simp only[Act.put,List.setIfInBounds_toArray,List.set_cons_zero,List.set_cons_succ];refine BE (i:=5) (by kernel_rfl) (GM (i:=5) (d:=28) (f:=138) (args:=#[.slice ax M cp,.agg (vtA ⟨vs,⟨vr,vn⟩,⟨vk,vc,vq,vm,vx⟩⟩)]) rfl (by kernel_rfl) rfl (by kernel_rfl) ((Oh _ l ⟨vs,⟨vr,vn⟩,⟨vk,vc,vq,vm,vx⟩⟩ _ HR.out (hl.below ed0)).mono ?_));rintro e' w5 ⟨x5,rfl,o5,b5⟩;have e5:Bw W w5:=ed0.trans (b5.mono ed0.size);have hI40:=HI40.out;have s5:=Sv.ofOwns o5 (by omega);obtain⟨a5,c5,h5⟩:=s5.shape;obtain⟨n5,hn5⟩:∃ n5,(Bf l ⟨vs,⟨vr,vn⟩,⟨vk,vc,vq,vm,vx⟩⟩).length=n5:=⟨_,rfl⟩;rw[hn5]at h5
     subst h5;refine⟨_,rfl,e5.mono hle,?_⟩;simp only[Act.put,List.setIfInBounds_toArray,List.set_cons_zero,List.set_cons_succ];refine Ag (i:=6) 29 (v:=.agg #[.int .i64 vr,.int .i64 vn,(.slice a5 n5 c5)]) rfl rfl (by kernel_rfl) (by kernel_rfl) (by kernel_rfl) (fun _ _ _ h=>h) (Or.inl ⟨by rfl,fun _ _=>by kernel_rfl⟩) (e5.mono hle) ?_;simp only[Act.put,List.setIfInBounds_toArray,List.set_cons_zero,List.set_cons_succ];have hone:(#[.int .i64 vr,.int .i64 vn,(.slice a5 n5 c5)]:Array Value).all (·.oneCell')=true:=by simp[Value.oneCell']
     have rS:=(e5.block (w.heap.size+2) ltR).trans rR;have e7:Below (w.heap.size+2) W (w5.setRow (w.heap.size+2) #[.int .i64 vr,.int .i64 vn,(.slice a5 n5 c5)]):=Ai (e5.mono hle) (Nat.le_refl _) _;have q7:=setRow_heap w5 (w.heap.size+2) _ (#[.int .i64 vr,.int .i64 vn,(.slice a5 n5 c5)]) 77 _ rS;have t5:(w5.setRow (w.heap.size+2) #[.int .i64 vr,.int .i64 vn,(.slice a5 n5 c5)]).ownsRow W.heap.size 139 8 (.slice a5 n5 c5) (Bf l ⟨vs,⟨vr,vn⟩,⟨vk,vc,vq,vm,vx⟩⟩).length (vtL (Bf l ⟨vs,⟨vr,vn⟩,⟨vk,vc,vq,vm,vx⟩⟩)):=Bo (EP o5 (fun k hk=>setRow_other _ _ _ _ (by have:=(o5.lt k hk).1;have:=ed0.size;omega))) ed0.size;refine BE (i:=7) (by kernel_rfl) (Hx (i:=7) rfl (by kernel_rfl) rfl 77 (.tmp 4) (.tmp 29) rfl (w.heap.size+2) #[.int .i64 vr,.int .i64 vn,(.slice a5 n5 c5)] (by kernel_rfl) (by kernel_rfl) 77 _ rS (BL ⟨vr,vn⟩ (.slice a5 n5 c5)) rfl hone ⟨e7,?_⟩);refine Ag (i:=8) 5 (v:=.int .i64 0) rfl rfl (by kernel_rfl) (by kernel_rfl) (by kernel_rfl) (fun _ _ _ h=>h) (Or.inl ⟨by rfl,fun _ _=>by kernel_rfl⟩) e7 ?_;simp only[Act.put,List.setIfInBounds_toArray,List.set_cons_zero,List.set_cons_succ];exact wpAnyH_done (by kernel_rfl) (HK2.out a5 n5 c5 _ ⟨q7,t5,e7⟩) _
    intro g n c W2 hW2;obtain⟨q7,t5,e7⟩:=hW2;have d7:=d3.trans (e7.mono (by omega));clear rR q0 q1 a2 rB rV;go_wp2
    refine bodyPost_ret (FA rfl _ _ (w.heap.size+2) 77 _ (0,0) _ rfl q7 underlying77 rfl (BL ⟨vr,vn⟩ (.slice g n c))) rfl ?_;rw[HE.out,HP.out.1,HP.out.2];exact⟨.slice g n c,rfl,Bo t5 d3.size,HI40.out,d7⟩
  ·rw[decide_eq_false h2];have HE:Hid (AT ⟨⟨pr,pn⟩,l⟩ ⟨vs,⟨vr,vn⟩,⟨vk,vc,vq,vm,vx⟩⟩=2):=by unfold Hid AT;rw[if_neg (fun g=>g h1),if_pos h2]
   clear c1 c2 a0 a1;go_wp2_with ((with_reducible (refine As ?_));refine wpList_store_row rfl 77 (.tmp 4) (.tmp 16) rfl (w.heap.size+2) #[.int .i64 0,.int .i64 0,.slice none 0 0] rfl rfl 77 _ q2 (BL ⟨0,0⟩ (.slice none 0 0)) rfl hz3 ?_)
   have q9:=setRow_heap w2 (w.heap.size+2) _ (#[.int .i64 0,.int .i64 0,.slice none 0 0]) 77 _ q2;have d9:=Ai d2 (show w.heap.size≤w.heap.size+2 by omega) (#[.int .i64 0,.int .i64 0,.slice none 0 0]);have HZ:=HZero.out _ (by decide) HE.out;refine bodyPost_ret (FA rfl _ _ (w.heap.size+2) 77 _ (0,0) _ rfl q9 underlying77 rfl (BL ⟨0,0⟩ (.slice none 0 0))) rfl ?_;rw[HE.out,HZ.1,HZ.2];exact⟨.slice none 0 0,rfl,World.ownsRow_nil _ _ _ _,by simp,d9⟩
 ·rw[show Gj ⟨⟨pr,pn⟩,l⟩=5 from if_neg h1];have HE:Hid (AT ⟨⟨pr,pn⟩,l⟩ ⟨vs,⟨vr,vn⟩,⟨vk,vc,vq,vm,vx⟩⟩=5):=by unfold Hid AT;rw[if_pos h1]
  go_wp2_with ((with_reducible (refine As ?_));refine wpList_store_row rfl 77 (.tmp 4) (.tmp 11) rfl (w.heap.size+2) #[.int .i64 0,.int .i64 0,.slice none 0 0] rfl rfl 77 _ q2 (BL ⟨0,0⟩ (.slice none 0 0)) rfl hz3 ?_)
  have q9:=setRow_heap w1 (w.heap.size+2) _ (#[.int .i64 0,.int .i64 0,.slice none 0 0]) 77 _ q2;have d9:=Ai d1 (show w.heap.size≤w.heap.size+2 by omega) (#[.int .i64 0,.int .i64 0,.slice none 0 0]);have HZ:=HZero.out _ (by decide) HE.out;refine bodyPost_ret (FA rfl _ _ (w.heap.size+2) 77 _ (0,0) _ rfl q9 underlying77 rfl (BL ⟨0,0⟩ (.slice none 0 0))) rfl ?_;rw[HE.out,HZ.1,HZ.2];exact⟨.slice none 0 0,rfl,World.ownsRow_nil _ _ _ _,by simp,d9⟩
theorem Qb(p:Bal)(x:Value)(l:List Vt)(v:Vt)(w:World)(h:Sv w x l)(ht:NTab w) :
  Calls prog 101 #[.agg (acA p x),.agg (vtA v)] w fun e w'=>∃ y,e=.returned (.tuple #[.agg (acA (Ck ⟨p,l⟩ v) y),.int .i64 (AT ⟨p,l⟩ v)])∧Sv w' y (Dg ⟨p,l⟩ v)∧Bw w w':=by
 refine(BP p x l v w h ht).mono ?_;rintro e w' ⟨y,he,hy,hl,hb⟩;exact⟨y,he,Sv.ofOwns hy (by omega),hb⟩
structure Base(w0:World)(g:Gh)(w:World):Prop where
 b:Bw w0 w
 z:∀ k,k<w0.heap.size→g.t k=.z
theorem Base.ch{w0:World}{B:Nat}{T:List Tg}{g g':Gh}{w w':World}(h:Base w0 g w)(c:Cg B T g w g' w')(hz:Tg.z∉T:=by simp):Base w0 g' w' :=
 have hs:∀ k,k<w0.heap.size→k<w.heap.size:=fun k hk=>Nat.lt_of_lt_of_le hk h.b.size
 ⟨⟨c.os.trans h.b.os,c.tape.trans h.b.tape,c.output.trans h.b.output,Nat.le_trans h.b.size c.size,fun k hk=>(c.zc hz (hs k hk) (h.z k hk)).trans (h.b.block k hk)⟩,fun k hk=>(c.tag (hs k hk) (by rw[h.z k hk];intro h;cases h)).trans (h.z k hk)⟩
structure Tabs(w:World):Prop where
 t:AD w
 n:NTab w
 q:Cr w
theorem Base.tt{w0:World}{g:Gh}{w:World}(h:Base w0 g w)(t:Tabs w0):AD w:=t.t.below h.b
theorem Base.tn{w0:World}{g:Gh}{w:World}(h:Base w0 g w)(t:Tabs w0):NTab w:=t.n.below h.b
theorem Base.tq{w0:World}{g:Gh}{w:World}(h:Base w0 g w)(t:Tabs w0):Cr w:=t.q.below t.q.pos h.b
theorem Du{g:Gh}{w':World}{B:Nat}{y:Value}{l:List Vt}(h:w'.ownsRow B 139 8 y l.length (vtL l))(hg:∀ b,B≤b→g.t b=.z)(hl:l.length≤2199023255488):∃ y3:S3,y=y3.v∧y3.n=l.length∧FSv g w' y3 l:=by
 have hs:=Sv.ofOwns h hl;rcases h.2 with⟨rfl,h0⟩|⟨b,cap,cur,rfl,hb,_⟩
 ·exact⟨s30,rfl,h0.symm,hs,fun hn=>absurd (List.eq_nil_of_length_eq_zero h0) hn⟩
 ·exact⟨⟨some ⟨b,0,none⟩,l.length,cap⟩,rfl,rfl,hs,fun _ a ha=>by simp only[Option.some.injEq]at ha;subst ha;exact hg b hb⟩
theorem ZM{g:Gh}{w':World}{B:Nat}{y:Value}{l:List Int}(h:w'.ownsRow B 5 1 y l.length (l.map (Value.int .u8)))(hg:∀ b,B≤b→g.t b=.z)(hl:l.length≤140737488351232)(hb:∀ x∈l,0≤x∧x<256):∃ y3:S3,y=y3.v∧y3.n=l.length∧FSl g w' y3 l:=by
 rcases h.2 with⟨rfl,h0⟩|⟨b,cap,cur,rfl,hbb,hh,hc,_,hcs,ht⟩
 ·have hn:l=[]:=List.eq_nil_of_length_eq_zero h0;subst hn;exact⟨s30,rfl,rfl,⟨⟨none,0,rfl,Nat.le_refl _,fun _=>rfl,.inl rfl⟩,by simp,by simp⟩,fun hn=>absurd rfl hn⟩
 ·refine⟨⟨some ⟨b,0,none⟩,l.length,cap⟩,rfl,rfl,⟨⟨_,_,rfl,hc,fun h=>(by cases h),.inr ⟨b,0,rfl,rl hh,fun i hi=>?_⟩⟩,hl,hb⟩,fun _ a ha=>by simp only[Option.some.injEq]at ha;subst ha;exact hg b hbb⟩;have h1:(l.map (Value.int .u8))[i]?=some (.int .u8 (l.getD i 0)):=by rw[List.getElem?_map,List.getElem?_eq_getElem hi,List.getD_eq_getElem?_getD,List.getElem?_eq_getElem hi];rfl
  rw[← ht,List.getElem?_take]at h1
  split at h1
  ·rw[cell_of_row _ _ _ _ _ _ hh,Nat.zero_add];simpa using h1
  ·cases h1
theorem IP{d:List Int}{s:Int}{may:Prop}[Decidable may] {b:List Int} (h:CD d s may b=0):AY d s∧d.length+(b.length+5)≤100000∧may:=by
 unfold CD at h;by_cases hr:GR d s (b.length+5)≠0
 ·rw[if_pos hr]at h;exact absurd h hr
 ·rw[if_neg hr]at h
  have hm:may:=Decidable.byContradiction fun hm=>by rw[if_neg hm]at h;cases h
  have hr':GR d s (b.length+5)=0:=by simpa using hr
  unfold GR at hr';by_cases ht:AY d s
  ·rw[if_neg (fun g=>g ht)]at hr'
   refine⟨ht,?_,hm⟩;rcases Nat.lt_or_ge 100000 (d.length+(b.length+5))with h2|h2
   ·rw[if_pos h2]at hr';cases hr'
   ·exact h2
  ·rw[if_pos ht]at hr';cases hr'
theorem dL{a:Acc}{b:Bal}(h:BG a b=0):Fl a b=b∧Fk a b=a.vs:=⟨if_pos h,if_pos h⟩
theorem Lx{a:Acc}{v:Vt}(h:AT a v=0):Ck a v=v.b∧Dg a v=Bf a.vs v:=⟨if_pos h,if_pos h⟩
end
section
open Go.ChangeShapes Go.WideShapes Go.ChangeAt Go.RowKit
theorem ij{W:World}(h:laidMetH prog Rows.topEmptyRow.laid W):Tabs W∧LWTab W∧LBTab W:=by
 have h':laidMet prog Rows.topEmptyRow.laid W:=h;obtain⟨ps,⟨g0,t0,cs0,fuel0,p0,q0,hg0,ht0,hvar0,hd0,⟨g1,t1,cs1,fuel1,p1,q1,hg1,ht1,hvar1,hd1,⟨g2,t2,cs2,fuel2,p2,q2,hg2,ht2,hvar2,hd2,h4,_⟩,_⟩,_⟩,_⟩:=h';have h5:=aG h4;obtain rfl:=Option.some.inj (Wd.symm.trans hg0);obtain rfl:=Option.some.inj (QC.symm.trans ht0);obtain rfl:=Option.some.inj (fy.symm.trans hg1);obtain rfl:=Option.some.inj (We.symm.trans ht1);obtain rfl:=Option.some.inj (bE.symm.trans hg2);obtain rfl:=Option.some.inj (TA.symm.trans ht2);exact⟨⟨X8 hvar1 hd1,ZA hvar2 hd2,Xw hvar0 hd0⟩,h5.1,h5.2⟩
def Ir(os:Os)(W:World):Prop :=
 W={ World.holding prog os ⟨#[],#[],[]⟩with heap:=(((((World.holding prog os ⟨#[],#[],[]⟩).heap.modify 4 (WF Ut)).modify 3 (WF (QO.map (Value.int .u32)).toArray)).modify 2 (WF (MF.map (Value.int .i64)).toArray)).modify 1 (WB Ov)).modify 0 (WB Qi) }
theorem YS(os:Os):∃ W,Ir os W:=⟨_,rfl⟩
end
section
open Go.RowKit
section
variable{P:Program}{fn:Func}{R:Ending→World→Prop}{B:Nat}{T:List Tg}{g:Gh}{w:World}
def QM:List Kt→Bool|.c (.loop _)::_=>true|_=>false
def fF:List Kt→Code|.c (.loop b)::_=>b|_=>.skip
def isJ:List Kt→Bool|.j _::_=>true|_=>false
def jK:List Kt→Act→World→Prop|.j J::_=>J|_=>fun _ _=>False
def ah(s:Xs)(n:Nat)(J:Act→World→Prop)(e:List (Nat × Value))(z:Nat→Value)(L:List Sh):Xs:=⟨.c (fF s.K)::.j J::s.K.tail,⟨n,e,z⟩,L⟩
theorem BC{s:Xs}(n:Nat)(e0:List (Nat × Value))(m:List Bool)(L0:List Sh)(Inv:Nat→Gh→World→List (Nat × Value)→List Sh→Prop)(hl:QM s.K=true)(hn:s.f.n=n)(he:e0.map (fun p=>lk s.f.z s.f.e p.1)=e0.map (·.2))(hL:Br (AB m s.L)=L0)
  (k:Nat)(h0:Kn B g w s.L→Inv k g w e0 L0)
  (round:∀ k g w e z L,Inv k g w e L→∀ J:Act→World→Prop,(∀ k' g' w' e' z' L',k'<k→Inv k' g' w' e' L'→Kn B g' w' L'→J (⟨n,e',z'⟩:Fm).act w')→GG P fn R B T (ah s n J e z L) g w):GG P fn R B T s g w:=by
 refine Af fun hK=>gFm e0 he fun z=>?_;obtain⟨K,f,L⟩:=s;simp only at hn;subst hn;have hL':Br (AB m L)=L0:=hL;have hc:GG P fn R B T ⟨K,⟨f.n,e0,z⟩,Br (AB m L)⟩ g w→GG P fn R B T ⟨K,⟨f.n,e0,z⟩,L⟩ g w:=fun h=>⟨fun hK=>h.ex (hK.sub (CV m L)).clr⟩;refine hc ?_;rw[hL'];cases K with
 | nil=>cases hl
 | cons t K =>
  cases t with
  | c x =>
   cases x with
   | loop b=>exact fx Inv (fun k g w e z L hI J hJ=>round k g w e z L hI J hJ) (h0 hK)
   | _=>cases hl
  | _=>cases hl
theorem DS{s:Xs}(J:Act→World→Prop)(n:Nat)(e:List (Nat × Value))(m:List Bool)(L':List Sh)(hi:isJ s.K=true)(hJ:jK s.K=J)(hn:s.f.n=n)(he:e.map (fun p=>lk s.f.z s.f.e p.1)=e.map (·.2))(hL:Br (AB m s.L)=L')(h:∀ z,Kn B g w s.L→Kn B g w L'→J (⟨n,e,z⟩:Fm).act w):GG P fn R B T s g w:=by
 refine Af fun hK0=>gFm e he fun z=>⟨fun hK=>?_⟩;obtain⟨K,f,L⟩:=s;simp only at hn hJ hL hi hK0;subst hn;have hK':Kn B g w L':=by rw[← hL];exact(hK.sub (CV m L)).clr
 cases K with
 | nil=>cases hi
 | cons t K =>
  cases t with
  | j J'=>simp only[jK]at hJ;rw[hJ];exact h z hK0 hK'
  | _=>cases hi
def IM(s:Xs)(i:Nat):Xs:=match s.K with|.x ops (u+1) Ld e L0::K=>⟨.y ops u Ld e L0 i::K,s.f,s.L⟩|_=>s
def aM(s:Xs)(i j:Nat):Bool:=match s.K with|.x ops (_+1) Ld _ _::_=>(match Region.ready .any ops Ld with|[k,l]=>Nat.beq k i&&Nat.beq l j|_=>false)|_=>false
theorem CF{s:Xs}(i j:Nat)(hb:aM s i j=true)(h1:GG P fn R B T (IM s i) g w)(h2:GG P fn R B T (IM s j) g w):GG P fn R B T s g w:=by
 refine⟨fun hK=>?_⟩;obtain⟨K,f,L⟩:=s;have e1:=h1.ex;have e2:=h2.ex;unfold IM at e1 e2;unfold aM at hb;cases K with
 | nil=>cases hb
 | cons t K =>
  cases t with
  | x ops u Ld e L0 =>
   cases u with
   | zero=>cases hb
   | succ u =>
    simp only at e1 e2 hb;have hr:Region.ready .any ops Ld=[i,j]:=by
     split at hb
     ·rename_i k l hk
      simp only[Bool.and_eq_true]at hb;rw[hk,Nat.eq_of_beq_eq_true hb.1,Nat.eq_of_beq_eq_true hb.2]
     ·cases hb
    exact ip hr (e1 hK) (e2 hK)
  | _=>cases hb
def V9(s:Xs)(J:Act→World→Prop):Xs:=match s.K with|t::K=>⟨t::.j J::K,s.f,s.L⟩|[]=>s
theorem D3(Q:Exit→Act→World→Prop):Exit.then (Q .normal) Q=Q:=by
 funext e a w
 cases e<;>rfl
theorem BN{s:Xs}(n:Nat)(Inv:Gh→World→List (Nat × Value)→List Sh→Prop)(hs:s.K.isEmpty=false)(h1:∀ J:Act→World→Prop,(∀ g' w' e z L,Inv g' w' e L→Kn B g' w' L→J (⟨n,e,z⟩:Fm).act w')→GG P fn R B T (V9 s J) g w)
  (h2:∀ g' w' e z L,Inv g' w' e L→GG P fn R B T ⟨s.K.tail,⟨n,e,z⟩,L⟩ g' w'):GG P fn R B T s g w:=by
 obtain⟨K,f,L⟩:=s;cases K with
 | nil=>cases hs
 | cons t K =>
  have h3:=h1 (Kq P (bodyPost P fn R) K .normal) (fun g' w' e z L hI hK=>(h2 g' w' e z L hI).ex hK);refine⟨fun hK=>?_⟩;have h4:=h3.ex hK;unfold V9 at h4;simp only at h4;cases t with
  | c x=>simp only[Kq,D3]at h4 ⊢;exact h4
  | b id=>simp only[Kq,D3]at h4 ⊢;exact h4
  | o ops is=>simp only[Kq,D3]at h4 ⊢;exact h4
  | x ops m Ld e L0=>simp only[Kq,D3]at h4 ⊢;exact h4
  | y ops m Ld e L0 i=>simp only[Kq,D3]at h4 ⊢;exact h4
  | j J=>simp only[Kq,D3]at h4 ⊢;exact h4
def zL(L:List Sh)(k:Nat):List Sh:=L.set k { L.getD k default with t:=.z,w:=false }
theorem fA{s:Xs}(k:Nat)(b:Nat)(hk:(Br s.L)[k]?.map (fun x=>(x.g,x.t))=some (b,.l))(h:∀ g',Cg B [] g w g' w→GG P fn R B T ⟨s.K,s.f,zL (Br s.L) k⟩ g' w):GG P fn R B T s g w:=by
 refine⟨fun hK0=>?_⟩;have hK:=hK0.clr;generalize hL:Br s.L=L at *;have hwf:∀ x∈L,x.w=false:=fun x hx=>by rw[← hL]at hx;obtain⟨y,_,rfl⟩:=List.mem_map.1 hx;rfl
 have hkl:k<L.length:=by
  cases hx:L[k]? with
  | none=>rw[hx]at hk;cases hk
  | some x=>exact(List.getElem?_eq_some_iff.1 hx).1
 have hg:L.getD k default=L[k]:=by rw[List.getD_eq_getElem?_getD,List.getElem?_eq_getElem hkl];rfl
 rw[List.getElem?_eq_getElem hkl]at hk
 simp only[Option.map_some,Option.some.injEq,Prod.mk.injEq]at hk;obtain⟨hb,ht⟩:=hk;have hrow:=hK.row _ (List.getElem_mem hkl);have hd:∀ n (hn:n<L.length),n≠k→L[n].g≠b:=fun n hn hne he=>by
  have:=hK.two hn hkl hne (by rw[hb];exact he);rw[ht]at this
  cases this.2.1
 let g':Gh:=⟨fun c=>if c=b then .z else g.t c,g.k⟩
 have hgt:g.t b=.l:=by rw[← hb,hrow.2.1];exact ht
 have hBb:B≤b:=by rw[← hb];exact hrow.2.2.1 ht
 refine(h g' ⟨rfl,rfl,rfl,Nat.le_refl _,fun c hc=>?_,fun _ _=>Nat.le_refl _,fun _ _ _ _=>rfl,fun _ _ _ _=>rfl,fun _ _ _ _=>rfl⟩).ex ⟨fun x hx=>?_,?_,fun c hc=>?_,hK.base⟩
 ·show(if c=b then _ else _)=_∨(_∧_∧(if c=b then _ else _)=_);by_cases he:c=b
  ·subst he;right;exact⟨hgt,hBb,if_pos rfl⟩
  ·left;exact if_neg he
 ·unfold zL at hx;simp only at hx;rw[hg]at hx
  obtain⟨n,hn,rfl⟩:=List.getElem_of_mem hx;have hn':n<L.length:=by simpa using hn
  rw[List.getElem_set];split
  ·refine⟨hrow.1,?_,fun h=>(by cases h),fun h=>absurd rfl h⟩;show(if L[k].g=b then _ else _)=_;rw[if_pos hb]
  ·rename_i hne
   have h1:=hK.row _ (List.getElem_mem hn');refine⟨h1.1,?_,h1.2.2⟩;show(if L[n].g=b then _ else _)=_;rw[if_neg (hd n hn' (fun h=>hne h.symm))];exact h1.2.1
 ·show(zL L k).Pairwise _;unfold zL;rw[hg,List.pairwise_iff_getElem];intro i j hi hj hij he;have hi':i<L.length:=by simpa using hi
  have hj':j<L.length:=by simpa using hj
  rw[List.getElem_set,List.getElem_set]at he ⊢
  by_cases h1:k=i
  ·rw[if_pos h1]at he ⊢
   rw[if_neg (by omega)]at he ⊢
   exact absurd he.symm (by show L[j].g≠L[k].g;rw[hb];exact hd j hj' (by omega))
  ·rw[if_neg h1]at he ⊢
   by_cases h2:k=j
   ·rw[if_pos h2]at he ⊢
    exact absurd he (by show L[i].g≠L[k].g;rw[hb];exact hd i hi' (by omega))
   ·rw[if_neg h2]at he ⊢
    exact hK.two hi' hj' (by omega) he
 ·have:=hK.new c hc;show(if c=b then _ else _)=_∧_;refine⟨?_,this.2⟩;split
  ·rfl
  ·exact this.1
end
def gS:Gh:=⟨fun _=>.z,fun _=>0⟩
section
variable{P:Program}{fn:Func}{R:Ending→World→Prop}{B:Nat}{T:List Tg}{g:Gh}{w:World}
def gu(s:Xs)(i j l:Nat):Bool:=match s.K with|.x ops (_+1) Ld _ _::_=>(match Region.ready .any ops Ld with|[a,b,c]=>Nat.beq a i&&(Nat.beq b j&&Nat.beq c l)|_=>false)|_=>false
theorem Wf{s:Xs}(i j l:Nat)(hb:gu s i j l=true)(h1:GG P fn R B T (IM s i) g w)(h2:GG P fn R B T (IM s j) g w)(h3:GG P fn R B T (IM s l) g w):GG P fn R B T s g w:=by
 refine⟨fun hK=>?_⟩;obtain⟨K,f,L⟩:=s;have e1:=h1.ex;have e2:=h2.ex;have e3:=h3.ex;unfold IM at e1 e2 e3;unfold gu at hb;cases K with
 | nil=>cases hb
 | cons t K =>
  cases t with
  | x ops u Ld e L0 =>
   cases u with
   | zero=>cases hb
   | succ u =>
    simp only at e1 e2 e3 hb;have hr:Region.ready .any ops Ld=[i,j,l]:=by
     split at hb
     ·rename_i a b c hk
      simp only[Bool.and_eq_true]at hb;rw[hk,Nat.eq_of_beq_eq_true hb.1,Nat.eq_of_beq_eq_true hb.2.1,Nat.eq_of_beq_eq_true hb.2.2]
     ·cases hb
    refine⟨fun h0=>absurd (hr▸h0) (by simp),hr▸(fun q hq=>?_)⟩;rcases(show q=i∨q=j∨q=l by simpa using hq)with rfl|rfl|rfl
    ·exact e1 hK
    ·exact e2 hK
    ·exact e3 hK
  | _=>cases hb
def SN:List Sh→List Sh
 | [a,b]=>[b,a]
 | a::l=>a::SN l
 | []=>[]
theorem GW:∀ L:List Sh,(SN L).Perm L
 | []=>.refl _
 | [a]=>by simp[SN]
 | [a,b]=>.swap _ _ _
 | a::b::c::l=>(GW (b::c::l)).cons a
theorem Mv{s:Xs}(h:GG P fn R B T ⟨s.K,s.f,SN s.L⟩ g w):GG P fn R B T s g w:=by
 refine⟨fun hK=>h.ex ⟨fun x hx=>hK.row x ((GW s.L).mem_iff.1 hx),?_,hK.new,hK.base⟩⟩;refine(GW s.L).symm.pairwise hK.nod ?_;intro x y hxy e;have:=hxy e.symm;exact⟨this.2,this.1⟩
theorem gR{s:Xs}{r i:Nat}{e:TypeId}{sz:Nat}{x:S3}{xs:List Value}(hO:OwnS g w (.n r i) false e sz x xs)(hT:s.L.all (fun y=>y.t.ne (.n r i))=true)(h:∀ g',Cg B [.n r i] g w g' w→OwnS g' w (.n r i) true e sz x xs→GG P fn R B T s g' w):GG P fn R B T s g w:=by
 refine⟨fun hK=>?_⟩;rcases hO.ex with h1|⟨b,cur,h1,h2,h3,h4,h5,h6,h7,h8⟩
 ·exact(h g (Cg.refl _ _ _ _) ⟨hO.len,.inl h1⟩).ex hK
 ·have h80:g.k b=0:=h8;have hlt:b<w.heap.size:=(Array.getElem?_eq_some_iff.1 h2).1;refine(h (fw g b xs.length) ⟨rfl,rfl,rfl,Nat.le_refl _,fun _ _=>.inl rfl,fun d hd=>?_,fun d hd hd1 _=>if_neg (fun e=>hd1 (by rw[e,h7];exact List.mem_singleton.2 rfl)),fun _ _ _ _=>rfl,fun _ _ _ _=>rfl⟩ ⟨hO.len,.inr ⟨b,cur,h1,h2,h3,h4,h5,h6,h7,if_pos rfl⟩⟩).ex ⟨fun y hy=>?_,hK.nod,fun d hd=>?_,hK.base⟩
  ·show g.k d≤(if d=b then _ else g.k d);split
   ·rename_i e;rw[e,h80];exact Nat.zero_le _
   ·exact Nat.le_refl _
  ·obtain⟨k1,k2,k3,k4⟩:=hK.row y hy;refine⟨k1,k2,k3,fun hz=>?_⟩;show(if y.g=b then _ else g.k y.g)=0;rw[if_neg (fun e=>Tg.ne_ne (List.all_eq_true.1 hT y hy) (by rw[← k2,e,h7]))];exact k4 hz
  ·have:=hK.new d hd;refine⟨this.1,?_⟩;show(if d=b then _ else g.k d)=0;rw[if_neg (by omega)];exact this.2
end
end
end Go.Proofs.YtfhbkoflaekhpadGreatDoor
