/- Part 16 of the walk: what the functions of the program do, one by one. -/
import Derived.Test.YtakgfdbjgeopdaaGreatDoorZ15
set_option maxRecDepth 100000
set_option maxHeartbeats 4000000
open Go.Proofs.Tryz
set_option linter.unusedVariables false
namespace Go.Proofs.YtakgfdbjgeopdaaGreatDoor
open Go.RowKit
theorem Sv.cells{w:World}{ad:Addr}{n cap:Nat}{m:List Vt}(h:Sv w (.slice (some ad) n cap) m):∀ j u,(vtL m)[j]?=some u→w.cell? (ad.add j)=some u:=by
 intro j u hj;obtain⟨⟨a,cp,e,hc,hn,h1⟩,_⟩:=h;simp only[Value.slice.injEq]at e;obtain⟨rfl,rfl,rfl⟩:=e;rcases h1 with rfl|⟨b,off,hab,_,hcell⟩
 ·simp[vtL]at hj
 ·obtain rfl:ad=⟨b,off,none⟩:=by simpa using hab
  obtain⟨v,h2,h3⟩:=VC m j u hj;have hadd:(⟨b,off,none⟩:Addr).add j=⟨b,off+j,none⟩:=by unfold Addr.add;split<;>simp_all
  rw[hadd];have h4:=hcell (j/8) v h2 (j%8) u h3
  rwa [show off+8*(j/8)+j%8=off+j by omega]at h4
theorem Oo{P:Program}(w:World)(base dT sT ty e:Nat)(hu:P.underlying dT=some (.slice e))(hs:(P.info? e).map (·.size)=some 8)(g n:Nat)(xs:List Value)(hown:w.ownsRow base e 8 (.slice (some ⟨g,0,none⟩) n n) n xs)(u:Value)(m:List Vt)(hm:m.length=n)(hv:Sv w u m) :
  ∃ w',(Builtin.copy_ #[dT,sT] ty #[.slice (some ⟨g,0,none⟩) n n,u]).run P w=.ok (goInt n) w'∧w'.ownsRow base e 8 (.slice (some ⟨g,0,none⟩) n n) n (vtL m)∧Below g w w':=by
 obtain⟨i,hq,hi⟩:∃ i,P.info? e=some i∧i.size=8:=by
  cases hq:P.info? e with
  | none=>rw[hq]at hs;cases hs
  | some i=>rw[hq]at hs;exact⟨i,rfl,by simpa using hs⟩
 rcases hown.2 with⟨h0,_⟩|⟨g',cap,cur,hvv,hbg,hg,hnc,hcm,hcs,ht⟩
 ·cases h0
 ·simp only[Value.slice.injEq,Option.some.injEq,Addr.mk.injEq]at hvv;obtain⟨⟨rfl,_⟩,_,rfl⟩:=hvv;have hv2:=hv;obtain⟨⟨a,cp,rfl,hc,hn,h1⟩,_⟩:=hv;rw[hm]at hv2 ⊢
  cases a with
  | none =>
   have hc0:=hn rfl;subst hc0;have hm0:n=0:=by omega
   subst hm0;have hmn:m=[]:=List.eq_nil_of_length_eq_zero hm;subst hmn;refine⟨w,?_,⟨rfl,.inr ⟨g,0,cur,rfl,hbg,hg,hnc,hcm,hcs,by simp[vtL]⟩⟩,Below.refl _ _⟩;simp[Builtin.copy_,run_underlying hu,Builtin.lenOf,Builtin.firstCells,sizeOf,typeInfo,hq,storeCells]
  | some ad =>
   have hl:=run_firstCells_some (P:=P) w 8 n ad n cp (vtL m) (by rw[Cf,hm]) hv2.cells;have hst:=run_storeCells_at P g 0 e (vtL m) 0 cur w hg (by rw[Cf,hm];omega) (QZ m);have hfull:(cur.toList.take (0+0)++vtL m++cur.toList.drop (0+0+(vtL m).length))=vtL m:=by
    rw[Cf,hm,List.drop_eq_nil_of_le (by rw[Array.length_toList];omega)];simp
   rw[hfull]at hst
   refine⟨w.setRow g (vtL m).toArray,?_,⟨by rw[Cf,hm],.inr ⟨g,n,(vtL m).toArray,rfl,hbg,setRow_heap w g cur _ e _ hg,Nat.le_refl _,hcm,by simp[Cf,hm],?_⟩⟩,?_⟩
   ·simp[Builtin.copy_,run_underlying hu,Builtin.lenOf,sizeOf,typeInfo,hq,hi,hl,hst]
   ·rw[List.take_of_length_le (by simp[Cf,hm])]
   ·exact⟨rfl,rfl,rfl,by simp,fun k hk=>setRow_other w g k _ (by omega)⟩
theorem Km{P:Program}(w:World){ops:Array Oper}{rest:List Oper}{o:Oper}{a:Act}{Q:Exit→Act→World→Prop}(hgd:o.guard=none)(d s:Operand)(dT sT:TypeId)
  (ho:o.op=.call { callee:=.builtin .copy,args:=#[d,s],argTypes:=#[dT,sT] })
  (base e:Nat)(hu:P.underlying dT=some (.slice e))(hs:(P.info? e).map (·.size)=some 8)(g n:Nat)(xs:List Value)(hd:a.eval d=.slice (some ⟨g,0,none⟩) n n)(hown:w.ownsRow base e 8 (.slice (some ⟨g,0,none⟩) n n) n xs)(u:Value)(hu':a.eval s=u)(m:List Vt)(hm:m.length=n)(hv:Sv w u m)
  (h:∀ w',w'.ownsRow base e 8 (.slice (some ⟨g,0,none⟩) n n) n (vtL m)→Below g w w'→wpList P ops Q rest (a.put o.dst (goInt n)) w'):wpList P ops Q (o::rest) a w:=by
 refine wpList_plain hgd fun K hK=>?_;obtain⟨w',hrun,r1,r2⟩:=Oo (P:=P) w base dT sT o.type e hu hs g n xs hown u m hm hv;unfold Oper.wp execOp;simp only[ho,resolve,invoke,builtin,Sem.run_bind,Sem.run_pure,Result.andThen_ok,List.map_toArray,List.map_cons,List.map_nil,hd,hu',hrun];exact hK _ _ (h w' r1 r2)
theorem Kp{P:Program}(w:World){ops:Array Oper}{rest:List Oper}{o:Oper}{a:Act}{Q:Exit→Act→World→Prop}
  (hg:o.guard=none)(l c:Operand)(t:TypeId)(hop:o.op=Op.makeSlice t l c)(base:Nat)(e:TypeId)(h1:P.underlying t=some (.slice e))(hinfo:(P.info? e).map (fun i=>(i.zero,i.size,i.bytes))=some (some zVt,8,64))
  (n:Nat)(hl:a.eval l=.int .i64 (n:Int))(hc:a.eval c=.int .i64 (n:Int))(hn:n≤2199023255488)(b4:base≤w.heap.size)
  (hK:∀ w',Hid (∃ xs,w'.ownsRow base e 8 (.slice (some ⟨w.heap.size,0,none⟩) n n) n xs)→w.grownBy w' none→wpList P ops Q rest (a.put o.dst (.slice (some ⟨w.heap.size,0,none⟩) n n)) w'):wpList P ops Q (o::rest) a w:=by
 obtain⟨i0,hi,hz0,hz1,hz2⟩:=info_parts hinfo;refine wpList_make_full w hg l c t hop base e i0 zVt 8 h1 hi hz0 hz1 _ _ _ _ n hl hc rfl rfl (by rw[hz2];omega) (by unfold maxLen;omega) b4 (fun w' o1 g1=>hK w' ⟨_,o1⟩ g1)
theorem Bh{w:World}{b b' e k8:Nat}{v:Value}{n:Nat}{xs:List Value}(h:w.ownsRow b e k8 v n xs)(hb:b'≤b):w.ownsRow b' e k8 v n xs:=by
 refine⟨h.1,?_⟩;rcases h.2 with h2|⟨g,cap,cur,hv,hbg,hr⟩
 ·exact .inl h2
 ·exact .inr ⟨g,cap,cur,hv,Nat.le_trans hb hbg,hr⟩
theorem vt8:(prog.info? 175).map (·.size)=some 8:=by kernel_rfl
theorem Jo(x:Value)(l:List Vt)(w:World)(h:Sv w x l) :
  Calls prog 209 #[x] w fun e w'=>∃ x',e=.returned x'∧w'.ownsRow w.heap.size 175 8 x' l.length (vtL l)∧Below w.heap.size w w':=by
 have hlen:=h.len;obtain⟨a,cp,rfl⟩:=h.shape;obtain⟨N,hN⟩:∃ N,l.length=N:=⟨_,rfl⟩;have HN:Hid (l.length=N):=hN;rw[hN]at h hlen ⊢
 clear hN;go_enter func209,ntmps209
 go_wp2_with ((with_reducible (refine As ?_));at_make;refine Kp _ rfl _ _ 113 rfl w.heap.size 175 underlying113 DG N rfl rfl hlen (Nat.le_refl _) ?_)
 intro w1 o1 g1;have b1:Below w.heap.size w w1:=(Below.refl _ _).grown g1 (Nat.le_refl _) (fun k hk=>by cases hk);have h1:=h.below b1;obtain⟨xs,o1⟩:=o1.out;have HO:Hid (w1.ownsRow w.heap.size 175 8 (.slice (some ⟨w.heap.size,0,none⟩) N N) N xs):=o1;clear o1;go_wp2_with ((with_reducible (refine As ?_));refine Km _ rfl _ _ 113 113 rfl w.heap.size 175 underlying113 vt8 w.heap.size N _ rfl HO.out _ rfl l HN.out h1 ?_)
 intro w2 o2 b2;have HO2:Hid (w2.ownsRow w.heap.size 175 8 (.slice (some ⟨w.heap.size,0,none⟩) N N) N (vtL l)):=o2;have d2:=b1.trans b2;clear o2 HO;go_wp2
 go_ret;exact⟨_,rfl,HO2.out,d2⟩
theorem Sv.window{w:World}{a:Option Addr}{n cap:Nat}{l:List Vt}(h:Sv w (.slice a n cap) l)(lo hi:Nat)(hlo:lo≤hi)(hhi:hi≤l.length):Sv w (sliced a lo hi cap 8) ((l.take hi).drop lo):=by
 obtain⟨⟨a',cap',e,hc,hn,h1⟩,hla⟩:=h;simp only[Value.slice.injEq]at e;obtain⟨rfl,rfl,rfl⟩:=e;have hl:((l.take hi).drop lo).length=hi-lo:=by rw[List.length_drop,List.length_take];omega
 cases a with
 | none =>
  have c0:=hn rfl;subst c0;have h0:l.length=0:=by omega
  refine⟨⟨_,_,by rw[hl];rfl,by omega,fun _=>by omega,.inl (List.eq_nil_of_length_eq_zero (by omega))⟩,by omega⟩
 | some ad =>
  refine⟨⟨_,_,by rw[hl];rfl,by omega,(by intro h;split at h<;>simp at h),?_⟩,by omega⟩;rcases Nat.eq_or_lt_of_le hlo with he|hlt
  ·exact .inl (List.eq_nil_of_length_eq_zero (by omega))
  ·rcases h1 with rfl|⟨b,off,e2,hbs,hcell⟩
   ·simp at hhi;omega
   ·simp only[Option.some.injEq]at e2;subst e2;refine .inr ⟨b,off+lo*8,?_,hbs,fun i v hi2=>?_⟩
    ·rw[if_neg (by omega)];simp[Addr.add]
    ·rw[List.getElem?_drop,List.getElem?_take]at hi2
     split at hi2
     ·have:=hcell (lo+i) v hi2
      rwa [show off+8*(lo+i)=off+lo*8+8*i by omega]at this
     ·cases hi2
theorem Sv.upTo{w:World}{a:Option Addr}{n cap:Nat}{l:List Vt}(h:Sv w (.slice a n cap) l)(hi:Nat)(hhi:hi≤l.length) :
  ∃ a' c',(∀ W,(Instr.slice 113 (.slice a n cap) none (some (.int .i64 (hi:Int))) none).run prog W=.ok (.slice a' hi c') W)∧Sv w (.slice a' hi c') (l.take hi):=by
 have hw:=h.window 0 hi (by omega) hhi;obtain⟨⟨a',cap',e,hc,hn,h1⟩,hla⟩:=h;simp only[Value.slice.injEq]at e;obtain⟨rfl,rfl,rfl⟩:=e;refine⟨_,_,fun W=>?_,by simpa[sliced]using hw⟩;rw[run_slice_h (P:=prog) W 113 a _ cap underlying113 .i64 _ (by omega) (by omega)];rw[OY,Qd];simp[Result.andThen,sliced]
theorem Sv.from{w:World}{a:Option Addr}{n cap:Nat}{l:List Vt}(h:Sv w (.slice a n cap) l)(lo:Nat)(hlo:lo≤l.length) :
  ∃ a' c',(∀ W,(Instr.slice 113 (.slice a n cap) (some (.int .i64 (lo:Int))) none none).run prog W=.ok (.slice a' (n-lo) c') W)∧Sv w (.slice a' (n-lo) c') (l.drop lo):=by
 have hw:=h.window lo l.length hlo (Nat.le_refl _);obtain⟨⟨a',cap',e,hc,hn,h1⟩,hla⟩:=h;simp only[Value.slice.injEq]at e;obtain⟨rfl,rfl,rfl⟩:=e;refine⟨_,_,fun W=>?_,by simpa[sliced]using hw⟩;rw[run_slice_l (P:=prog) W 113 a _ cap underlying113 .i64 _ (by omega) (by omega)];rw[OY,Qd];simp[Result.andThen,sliced]
theorem DZ{P:Program}(w:World){ops:Array Oper}{rest:List Oper}{o:Oper}{a:Act}{Q:Exit→Act→World→Prop}
  (hg:o.guard=none)(l c:Operand)(t:TypeId)(hop:o.op=Op.makeSlice t l c)(base:Nat)(e:TypeId)(h1:P.underlying t=some (.slice e))(hinfo:(P.info? e).map (fun i=>(i.zero,i.size,i.bytes))=some (some zVt,8,64))
  (C:Int)(n:Nat)(hl:a.eval l=.int .i64 0)(hc:a.eval c=.int .i64 C)(hC:C=(n:Int))(hn:n≤2199023255500)(b4:base≤w.heap.size)
  (hK:∀ w',Hid (w'.ownsRow base e 8 (.slice (some ⟨w.heap.size,0,none⟩) 0 n) ([]:List Vt).length (vtL []))→w.grownBy w' none→wpList P ops Q rest (a.put o.dst (.slice (some ⟨w.heap.size,0,none⟩) 0 n)) w'):wpList P ops Q (o::rest) a w:=by
 obtain⟨i0,hi,hz0,hz1,hz2⟩:=info_parts hinfo;exact wpList_make_own w hg l c t hop base e i0 zVt 8 h1 hi hz0 hz1 _ _ C n hl hc hC (by rw[hz2];omega) (by unfold maxLen;omega) b4 (fun w' o1 g1=>hK w' o1 g1)
theorem MH(x:Value)(l:List Vt)(v:Vt)(w:World)(hr:B4 l)(h:Sv w x l) :
  Calls prog 214 #[x,.agg (vtA v)] w fun e w'=>∃ x',e=.returned x'∧w'.ownsRow w.heap.size 175 8 x' (Bo l v).length (vtL (Bo l v))∧Below w.heap.size w w':=by
 have hlen:=h.len;obtain⟨a,cp,rfl⟩:=h.shape;obtain⟨n,hn⟩:∃ n,l.length=n:=⟨_,rfl⟩;rw[hn]at h hlen ⊢
 have HL:Hid (l.length=n):=hn;clear hn;have bb:Below w.heap.size w (w.alloc (.cells (vtA v) 175)):=(Below.refl _ _).alloc (Nat.le_refl _) _;have rr:=heap_alloc_new w (.cells (vtA v) 175);have hsz:=Zk v;have HU:Hid (∀ p,Plc l v.slot p→Jy l p v.slot=true→Bo l v=l.take p++[v]++l.drop (p+1)∧p+1≤l.length):=fun p hp hh=>by
  obtain⟨u,hu,he⟩:=Lc hh;exact⟨by rw[hp.has hu he];simp,by have:=(List.getElem?_eq_some_iff.1 hu).1;omega⟩
 have HN:Hid (∀ p,Plc l v.slot p→Jy l p v.slot=false→Bo l v=l.take p++[v]++l.drop p∧p≤l.length):=fun p hp hh=>⟨by rw[hp.no (Jz hh)];simp,hp.le⟩;obtain⟨vs,⟨vr,vn⟩,⟨vk,vc,vq,vm,vx⟩⟩:=v;simp only[vtA,vtC]at bb rr hsz ⊢;generalize hW:w.alloc (.cells [.int .i64 vs,.int .i64 vr,.int .i64 vn,.int .i64 vk,.int .i64 vc,.int .i64 vq,.int .i64 vm,.int .i64 vx].toArray 175)=W at bb rr;have ltG:w.heap.size<W.heap.size:=(Array.getElem?_eq_some_iff.1 rr).1;have c0:W.cell? ⟨w.heap.size,0,none⟩=some (.int .i64 vs):=cell_of_row _ _ 0 _ _ _ rr;go_enter func214,ntmps214
 go_wp2_with fail
 clear hW;refine(Iy _ l vs W hr (h.below bb)).mono ?_;rintro e w1 ⟨p,rfl,hp,b1⟩;have d1:=bb.trans (b1.mono bb.size);have ltG1:w.heap.size<w1.heap.size:=Nat.lt_of_lt_of_le ltG b1.size;replace rr:=(b1.block _ ltG).trans rr;have c0:w1.cell? ⟨w.heap.size,0,none⟩=some (.int .i64 vs):=cell_of_row _ _ 0 _ _ _ rr;have s1:=h.below d1;have hp0:p≤n:=by have:=hp.le;have:=HL.out;omega
 have HP:Hid (Plc l vs p):=hp;clear b1 bb hp;go_wp2_with fail
 refine(Ir _ l p vs w1 s1).mono ?_;rintro e w2 ⟨rfl,rfl⟩;obtain⟨a1,k1,u1,su⟩:=s1.upTo p HP.out.le;have hlp:(l.take p).length≤n:=by rw[List.length_take];omega
 have hz:=d1.size;generalize hh:Jy l p vs=bh;cases bh
 ·obtain⟨HI0,hk0⟩:=HN.out p HP.out hh;have HI:Hid (Bo l ⟨vs,⟨vr,vn⟩,⟨vk,vc,vq,vm,vx⟩⟩=l.take p++([⟨vs,⟨vr,vn⟩,⟨vk,vc,vq,vm,vx⟩⟩]:List Vt)++l.drop (p)):=HI0;obtain⟨a2,k2,u2,sd⟩:=s1.from (p) hk0;have hld:(l.take p).length+(l.drop (p)).length≤n:=by rw[List.length_take,List.length_drop];have:=HL.out;omega
  have SU:Hid (∀ w',Below w2.heap.size w2 w'→Sv w' (.slice a1 p k1) (l.take p)):=fun w' hb=>su.below hb;have SD:Hid (∀ w',Below w2.heap.size w2 w'→Sv w' (.slice a2 (n-(p)) k2) (l.drop (p))):=fun w' hb=>sd.below hb;clear HI0 HU HN hh su sd s1 h hr;generalize l.take p=LP at HI SU hlp hld;generalize l.drop (p)=LD at HI SD hld;have hkn:(p)≤n:=by have:=HL.out;omega
  go_wp2_with ((with_reducible (refine As ?_));at_make;refine DZ _ rfl _ _ 113 rfl w2.heap.size 175 underlying113 DG _ (n+1) rfl rfl (by first|rfl|omega) (by omega) (Nat.le_refl _) ?_)
  intro w3 o3 g3;have b3:Below w2.heap.size w2 w3:=(Below.refl _ _).grown g3 (Nat.le_refl _) (fun k hk=>by cases hk);have z3:=b3.size;clear g3;go_wp2_with ((with_reducible (refine As ?_));at_builtin;refine AX _ rfl _ _ 113 rfl w2.heap.size 175 zVt underlying113 DG rfl _ _ rfl rfl [] (LP) o3.out (SU.out w3 b3) (by simp;omega) (by omega) ?_)
  intro v4 w4 o4 g4;have b4:Below w2.heap.size w2 w4:=b3.grown g4 (by omega) (fun k hk=>(o3.out.lt k hk).1);have z4:=b4.size;have HO4:Hid (w4.ownsRow w2.heap.size 175 8 v4 (LP).length (vtL (LP))):=by unfold Hid;simpa using o4
  have lt4:=HO4.out.lt;have rr4:=(b4.block _ ltG1).trans rr;clear o4 g4 o3;go_wp2_with ((with_reducible (refine As ?_));first|(refine wpList_load_row rfl 175 _ rfl w.heap.size rfl 175 _ (0,0) _ rr4 underlying175 rfl hsz ?_)|(at_builtin;refine AX _ rfl _ _ 113 rfl w2.heap.size 175 zVt underlying113 DG rfl _ _ rfl rfl (LP) ([⟨vs,⟨vr,vn⟩,⟨vk,vc,vq,vm,vx⟩⟩]:List Vt) (HO4.out.alloc _) (Sv.one _ ⟨vs,⟨vr,vn⟩,⟨vk,vc,vq,vm,vx⟩⟩ _ rfl) (by simp;omega) (by simp;omega) ?_))
  intro v5 w5 o5 g5;have b5:Below w2.heap.size w2 w5:=(b4.alloc (by omega) _).grown g5 (by simp;omega) (fun k hk=>(lt4 k hk).1);have z5:=b5.size;have HO5:Hid (w5.ownsRow w2.heap.size 175 8 v5 (LP++([⟨vs,⟨vr,vn⟩,⟨vk,vc,vq,vm,vx⟩⟩]:List Vt)).length (vtL (LP++([⟨vs,⟨vr,vn⟩,⟨vk,vc,vq,vm,vx⟩⟩]:List Vt)))):=by unfold Hid;rw[List.length_append];exact o5
  have lt5:=HO5.out.lt;clear o5 g5 HO4 lt4 rr4;go_wp2_with ((with_reducible (refine As ?_));at_builtin;refine AX _ rfl _ _ 113 rfl w2.heap.size 175 zVt underlying113 DG rfl _ _ rfl rfl (LP++([⟨vs,⟨vr,vn⟩,⟨vk,vc,vq,vm,vx⟩⟩]:List Vt)) (LD) HO5.out (SD.out w5 b5) (by rw[List.length_append];simp;omega) (by omega) ?_)
  intro v6 w6 o6 g6;have b6:Below w2.heap.size w2 w6:=b5.grown g6 (by omega) (fun k hk=>(lt5 k hk).1);have HO6:Hid (w6.ownsRow w2.heap.size 175 8 v6 (LP++([⟨vs,⟨vr,vn⟩,⟨vk,vc,vq,vm,vx⟩⟩]:List Vt)++LD).length (vtL (LP++([⟨vs,⟨vr,vn⟩,⟨vk,vc,vq,vm,vx⟩⟩]:List Vt)++LD))):=by unfold Hid;simpa using o6
  have d6:=d1.trans (b6.mono d1.size);clear o6 g6 HO5 lt5;go_wp2
  go_ret;refine⟨v6,rfl,?_,d6⟩;rw[HI.out];exact Bh HO6.out d1.size
 ·obtain⟨HI0,hk0⟩:=HU.out p HP.out hh;have HI:Hid (Bo l ⟨vs,⟨vr,vn⟩,⟨vk,vc,vq,vm,vx⟩⟩=l.take p++([⟨vs,⟨vr,vn⟩,⟨vk,vc,vq,vm,vx⟩⟩]:List Vt)++l.drop (p+1)):=HI0;obtain⟨a2,k2,u2,sd⟩:=s1.from (p+1) hk0;rw[show((p+1:Nat):Int)=(p:Int)+1 by omega]at u2
  have hld:(l.take p).length+(l.drop (p+1)).length≤n:=by rw[List.length_take,List.length_drop];have:=HL.out;omega
  have SU:Hid (∀ w',Below w2.heap.size w2 w'→Sv w' (.slice a1 p k1) (l.take p)):=fun w' hb=>su.below hb;have SD:Hid (∀ w',Below w2.heap.size w2 w'→Sv w' (.slice a2 (n-(p+1)) k2) (l.drop (p+1))):=fun w' hb=>sd.below hb;clear HI0 HU HN hh su sd s1 h hr;generalize l.take p=LP at HI SU hlp hld;generalize l.drop (p+1)=LD at HI SD hld;have hkn:(p+1)≤n:=by have:=HL.out;omega
  go_wp2_with ((with_reducible (refine As ?_));at_make;refine DZ _ rfl _ _ 113 rfl w2.heap.size 175 underlying113 DG _ (n+1) rfl rfl (by first|rfl|omega) (by omega) (Nat.le_refl _) ?_)
  intro w3 o3 g3;have b3:Below w2.heap.size w2 w3:=(Below.refl _ _).grown g3 (Nat.le_refl _) (fun k hk=>by cases hk);have z3:=b3.size;clear g3;go_wp2_with ((with_reducible (refine As ?_));at_builtin;refine AX _ rfl _ _ 113 rfl w2.heap.size 175 zVt underlying113 DG rfl _ _ rfl rfl [] (LP) o3.out (SU.out w3 b3) (by simp;omega) (by omega) ?_)
  intro v4 w4 o4 g4;have b4:Below w2.heap.size w2 w4:=b3.grown g4 (by omega) (fun k hk=>(o3.out.lt k hk).1);have z4:=b4.size;have HO4:Hid (w4.ownsRow w2.heap.size 175 8 v4 (LP).length (vtL (LP))):=by unfold Hid;simpa using o4
  have lt4:=HO4.out.lt;have rr4:=(b4.block _ ltG1).trans rr;clear o4 g4 o3;go_wp2_with ((with_reducible (refine As ?_));first|(refine wpList_load_row rfl 175 _ rfl w.heap.size rfl 175 _ (0,0) _ rr4 underlying175 rfl hsz ?_)|(at_builtin;refine AX _ rfl _ _ 113 rfl w2.heap.size 175 zVt underlying113 DG rfl _ _ rfl rfl (LP) ([⟨vs,⟨vr,vn⟩,⟨vk,vc,vq,vm,vx⟩⟩]:List Vt) (HO4.out.alloc _) (Sv.one _ ⟨vs,⟨vr,vn⟩,⟨vk,vc,vq,vm,vx⟩⟩ _ rfl) (by simp;omega) (by simp;omega) ?_))
  intro v5 w5 o5 g5;have b5:Below w2.heap.size w2 w5:=(b4.alloc (by omega) _).grown g5 (by simp;omega) (fun k hk=>(lt4 k hk).1);have z5:=b5.size;have HO5:Hid (w5.ownsRow w2.heap.size 175 8 v5 (LP++([⟨vs,⟨vr,vn⟩,⟨vk,vc,vq,vm,vx⟩⟩]:List Vt)).length (vtL (LP++([⟨vs,⟨vr,vn⟩,⟨vk,vc,vq,vm,vx⟩⟩]:List Vt)))):=by unfold Hid;rw[List.length_append];exact o5
  have lt5:=HO5.out.lt;clear o5 g5 HO4 lt4 rr4;go_wp2_with ((with_reducible (refine As ?_));at_builtin;refine AX _ rfl _ _ 113 rfl w2.heap.size 175 zVt underlying113 DG rfl _ _ rfl rfl (LP++([⟨vs,⟨vr,vn⟩,⟨vk,vc,vq,vm,vx⟩⟩]:List Vt)) (LD) HO5.out (SD.out w5 b5) (by rw[List.length_append];simp;omega) (by omega) ?_)
  intro v6 w6 o6 g6;have b6:Below w2.heap.size w2 w6:=b5.grown g6 (by omega) (fun k hk=>(lt5 k hk).1);have HO6:Hid (w6.ownsRow w2.heap.size 175 8 v6 (LP++([⟨vs,⟨vr,vn⟩,⟨vk,vc,vq,vm,vx⟩⟩]:List Vt)++LD).length (vtL (LP++([⟨vs,⟨vr,vn⟩,⟨vk,vc,vq,vm,vx⟩⟩]:List Vt)++LD))):=by unfold Hid;simpa using o6
  have d6:=d1.trans (b6.mono d1.size);clear o6 g6 HO5 lt5;go_wp2
  go_ret;refine⟨v6,rfl,?_,d6⟩;rw[HI.out];exact Bh HO6.out d1.size
theorem PC{w:World}{g:Nat}{v:Vt}{t:TypeId}{fr:Nat × Nat}(h:w.heap[g]?=some (.cells (vtA v) t fr)):w.rangeAt g 0 (vtC v):=fun j u hj=>by
 rw[Nat.zero_add,cell_of_row _ _ j _ _ _ h];simpa[vtA]using hj
theorem Sg{P:Program}{id:Nat}{ops:Array Oper}{K:Act→World→Prop}{Q:Exit→Act→World→Prop}{a:Act}{w:World}(R:Option Addr→Nat→Nat→World→Prop){A:Option Addr→Nat→Nat→Act}
  (hreg:∀ K':Act→World→Prop,Hid (∀ g n c W2,R g n c W2→K' (A g n c) W2)→(Code.region id ops true).wp P (Exit.then K' Q) a w)(hrest:∀ g n c W2,R g n c W2→K (A g n c) W2):(Code.region id ops true).wp P (Exit.then K Q) a w:=hreg K hrest
theorem BI(p:Bal)(x:Value)(l:List Vt)(v:Vt)(w:World)(h:Sv w x l)(ht:NTab w) :
  Calls prog 165 #[.agg (acA p x),.agg (vtA v)] w fun e w'=>∃ y,e=.returned (.tuple #[.agg (acA (BT ⟨p,l⟩ v) y),.int .i64 (AW ⟨p,l⟩ v)])∧w'.ownsRow w.heap.size 175 8 y (CO ⟨p,l⟩ v).length (vtL (CO ⟨p,l⟩ v))∧(CO ⟨p,l⟩ v).length≤40∧Below w.heap.size w w':=by
 obtain⟨pr,pn⟩:=p;obtain⟨vs,⟨vr,vn⟩,⟨vk,vc,vq,vm,vx⟩⟩:=v;have hlen:=h.len;obtain⟨ax,cp,rfl⟩:=h.shape;obtain⟨M,hM⟩:∃ M,l.length=M:=⟨_,rfl⟩;have HM:Hid (l.length=M):=hM;rw[hM]at h hlen ⊢
 clear hM;simp only[acA,vtA,vtC];obtain⟨W0,hW0⟩:∃ W0,((w.alloc (.cells #[.int .i64 pr,.int .i64 pn,.slice ax M cp] 115)).alloc (.cells #[.int .i64 vs,.int .i64 vr,.int .i64 vn,.int .i64 vk,.int .i64 vc,.int .i64 vq,.int .i64 vm,.int .i64 vx] 175)).alloc (.cells #[.int .i64 0,.int .i64 0,.slice none 0 0] 115)=W0:=⟨_,rfl⟩;obtain⟨r0,r1,r2,bb⟩:=NT w (.cells #[.int .i64 pr,.int .i64 pn,.slice ax M cp] 115) (.cells #[.int .i64 vs,.int .i64 vr,.int .i64 vn,.int .i64 vk,.int .i64 vc,.int .i64 vq,.int .i64 vm,.int .i64 vx] 175) (.cells #[.int .i64 0,.int .i64 0,.slice none 0 0] 115);have z0:W0.heap.size=w.heap.size+3:=by rw[← hW0];simp
 rw[hW0]at r0 r1 r2 bb
 have hl0:=h.below bb;go_enter func165,ntmps165
 go_wp2_with ((with_reducible (refine As ?_));refine wpList_load_row rfl 115 _ rfl w.heap.size rfl 115 _ (0,0) _ r0 underlying115 rfl (BC ⟨pr,pn⟩ (.slice ax M cp)) ?_)
 clear hW0;refine(Hh ⟨pr,pn⟩ (.slice ax M cp) l W0 hl0 (ht.below bb)).mono ?_;rintro e w1 ⟨rfl,b1⟩;have d1:=bb.trans (b1.mono bb.size);have z1:=b1.size;have q0:=(b1.block w.heap.size (by omega)).trans r0;have q1:=(b1.block (w.heap.size+1) (by omega)).trans r1;have q2:=(b1.block (w.heap.size+2) (by omega)).trans r2;have hl1:=hl0.below b1;clear r0 r1 r2 b1 bb hl0;have hz3:(#[.int .i64 0,.int .i64 0,.slice none 0 0]:Array Value).all (·.oneCell')=true:=by simp[Value.oneCell']
 have HZero:Hid (∀ E,E≠0→AW ⟨⟨pr,pn⟩,l⟩ ⟨vs,⟨vr,vn⟩,⟨vk,vc,vq,vm,vx⟩⟩=E→BT ⟨⟨pr,pn⟩,l⟩ ⟨vs,⟨vr,vn⟩,⟨vk,vc,vq,vm,vx⟩⟩=⟨0,0⟩∧CO ⟨⟨pr,pn⟩,l⟩ ⟨vs,⟨vr,vn⟩,⟨vk,vc,vq,vm,vx⟩⟩=[]):=fun E h1 h2=>⟨if_neg (by rw[h2];exact h1),if_neg (by rw[h2];exact h1)⟩;by_cases h1:AE ⟨⟨pr,pn⟩,l⟩
 ·rw[show F0 ⟨⟨pr,pn⟩,l⟩=0 from if_pos h1];have c0:w1.cell? ⟨w.heap.size+1,0,none⟩=some (.int .i64 vs):=cell_of_row _ _ 0 _ _ _ q1;have c1:w1.cell? ⟨w.heap.size+1,1,none⟩=some (.int .i64 vr):=cell_of_row _ _ 1 _ _ _ q1;have c2:w1.cell? ⟨w.heap.size+1,2,none⟩=some (.int .i64 vn):=cell_of_row _ _ 2 _ _ _ q1;have c3:w1.cell? ⟨w.heap.size+1,3,none⟩=some (.int .i64 vk):=cell_of_row _ _ 3 _ _ _ q1;have c4:w1.cell? ⟨w.heap.size+1,4,none⟩=some (.int .i64 vc):=cell_of_row _ _ 4 _ _ _ q1;have c5:w1.cell? ⟨w.heap.size+1,5,none⟩=some (.int .i64 vq):=cell_of_row _ _ 5 _ _ _ q1;have c6:w1.cell? ⟨w.heap.size+1,6,none⟩=some (.int .i64 vm):=cell_of_row _ _ 6 _ _ _ q1;have c7:w1.cell? ⟨w.heap.size+1,7,none⟩=some (.int .i64 vx):=cell_of_row _ _ 7 _ _ _ q1;go_wp2_with fail
  refine(G4 ⟨vs,⟨vr,vn⟩,⟨vk,vc,vq,vm,vx⟩⟩ w1 (ht.below d1)).mono ?_;rintro e w2 ⟨rfl,b2⟩;have d2:=d1.trans (b2.mono d1.size);have z2:=b2.size;have hl2:=hl1.below b2;replace q0:=(b2.block w.heap.size (by omega)).trans q0;replace q1:=(b2.block (w.heap.size+1) (by omega)).trans q1;replace q2:=(b2.block (w.heap.size+2) (by omega)).trans q2;clear c0 c1 c2 c3 c4 c5 c6 c7;have c1:w2.cell? ⟨w.heap.size+1,1,none⟩=some (.int .i64 vr):=cell_of_row _ _ 1 _ _ _ q1;have c2:w2.cell? ⟨w.heap.size+1,2,none⟩=some (.int .i64 vn):=cell_of_row _ _ 2 _ _ _ q1;have a0:w2.cell? ⟨w.heap.size,0,none⟩=some (.int .i64 pr):=cell_of_row _ _ 0 _ _ _ q0;have a1:w2.cell? ⟨w.heap.size,1,none⟩=some (.int .i64 pn):=cell_of_row _ _ 1 _ _ _ q0;clear b2 d1 hl1;by_cases h2:Ah ⟨vs,⟨vr,vn⟩,⟨vk,vc,vq,vm,vx⟩⟩
  ·rw[decide_eq_true h2];go_wp2_with fail
   refine(Di ⟨vr,vn⟩ ⟨pr,pn⟩ w2).mono ?_;rintro e W ⟨rfl,b3⟩;have d3:=d2.trans (b3.mono d2.size);have z3:=b3.size;have hl:=hl2.below b3;replace q0:=(b3.block w.heap.size (by omega)).trans q0;replace q1:=(b3.block (w.heap.size+1) (by omega)).trans q1;have rR:=(b3.block (w.heap.size+2) (by omega)).trans q2;clear b3 d2 hl2 q2 c1 c2 a0 a1;by_cases h3:Bal.lt ⟨vr,vn⟩ ⟨pr,pn⟩
   ·rw[decide_eq_true h3];have HE:Hid (AW ⟨⟨pr,pn⟩,l⟩ ⟨vs,⟨vr,vn⟩,⟨vk,vc,vq,vm,vx⟩⟩=7):=by unfold Hid AW;rw[if_neg (fun g=>g h1),if_neg (fun g=>g h2),if_pos h3]
    go_wp2_with ((with_reducible (refine As ?_));refine wpList_store_row rfl 115 (.tmp 4) (.tmp 22) rfl (w.heap.size+2) #[.int .i64 0,.int .i64 0,.slice none 0 0] rfl rfl 115 _ rR (BC ⟨0,0⟩ (.slice none 0 0)) rfl hz3 ?_)
    have q9:=setRow_heap W (w.heap.size+2) _ (#[.int .i64 0,.int .i64 0,.slice none 0 0]) 115 _ rR;have d9:=Aj d3 (show w.heap.size≤w.heap.size+2 by omega) (#[.int .i64 0,.int .i64 0,.slice none 0 0]);have HZ:=HZero.out _ (by decide) HE.out;refine bodyPost_ret (EV rfl _ _ (w.heap.size+2) 115 _ (0,0) _ rfl q9 underlying115 rfl (BC ⟨0,0⟩ (.slice none 0 0))) rfl ?_;rw[HE.out,HZ.1,HZ.2];exact⟨.slice none 0 0,rfl,World.ownsRow_nil _ _ _ _,by simp,d9⟩
   ·rw[decide_eq_false h3];have HE:Hid (AW ⟨⟨pr,pn⟩,l⟩ ⟨vs,⟨vr,vn⟩,⟨vk,vc,vq,vm,vx⟩⟩=0):=by unfold Hid AW;rw[if_neg (fun g=>g h1),if_neg (fun g=>g h2),if_neg h3]
    have HP:Hid (BT ⟨⟨pr,pn⟩,l⟩ ⟨vs,⟨vr,vn⟩,⟨vk,vc,vq,vm,vx⟩⟩=⟨vr,vn⟩∧CO ⟨⟨pr,pn⟩,l⟩ ⟨vs,⟨vr,vn⟩,⟨vk,vc,vq,vm,vx⟩⟩=Bo l ⟨vs,⟨vr,vn⟩,⟨vk,vc,vq,vm,vx⟩⟩):=⟨if_pos HE.out,if_pos HE.out⟩;have HI:Hid (∀ k:Nat,k=40→Jx l ⟨vs,⟨vr,vn⟩,⟨vk,vc,vq,vm,vx⟩⟩ k=Bo l ⟨vs,⟨vr,vn⟩,⟨vk,vc,vq,vm,vx⟩⟩):=fun k hk=>Wp k h1.2.2 (fun u hu=>by have:=(h1.2.1 u hu).1.1;omega) (by have:=h2.1;simp only at this ⊢;omega);have HR:Hid (B4 l):=h1.2.2;clear h1 h2 h3 HZero;have a2:W.cell? ⟨w.heap.size,2,none⟩=some (.slice ax M cp):=cell_of_row _ _ 2 _ _ _ q0;have rB:W.rangeAt (w.heap.size+1) 1 [.int .i64 vr,.int .i64 vn]:=PZ (o:=1) (cell_of_row _ _ 1 _ _ _ q1) (cell_of_row _ _ 2 _ _ _ q1);have rV:W.rangeAt (w.heap.size+1) 0 (vtC ⟨vs,⟨vr,vn⟩,⟨vk,vc,vq,vm,vx⟩⟩):=PC q1;have hle:w.heap.size+2≤W.heap.size:=by omega
    have ltR:w.heap.size+2<W.heap.size:=by omega
    have HI40:Hid ((Bo l ⟨vs,⟨vr,vn⟩,⟨vk,vc,vq,vm,vx⟩⟩).length≤40):=by unfold Hid;rw[← HI.out 40 rfl];exact TQ _ HR.out 40
    clear HI;go_wp2_with fail
    apply Sg (fun g n c W2=>W2.heap[w.heap.size+2]?=some (.cells #[.int .i64 vr,.int .i64 vn,.slice g n c] 115)∧W2.ownsRow W.heap.size 175 8 (.slice g n c) (Bo l ⟨vs,⟨vr,vn⟩,⟨vk,vc,vq,vm,vx⟩⟩).length (vtL (Bo l ⟨vs,⟨vr,vn⟩,⟨vk,vc,vq,vm,vx⟩⟩))∧Below (w.heap.size+2) W W2)
    ·intro K2 HK2;have ed0:Below W.heap.size W W.drew:=(Below.refl _ _).drew;have ed:Below (w.heap.size+2) W W.drew:=ed0.mono hle;refine wp_region_held (S:=fun w'=>Below (w.heap.size+2) W w') (by kernel_rfl) ?_;have hS0:(fun w'=>Below (w.heap.size+2) W w') W.drew:=ed;refine Ac (i:=0) 23 (v:=.pointer (some ⟨w.heap.size+1,1,none⟩)) rfl rfl (by kernel_rfl) (by kernel_rfl) (by kernel_rfl) (fun _ _ _ h=>h) (Or.inl ⟨by rfl,fun _ _=>by kernel_rfl⟩) hS0 ?_;simp only[Act.put,List.setIfInBounds_toArray,List.set_cons_zero,List.set_cons_succ];refine Ac (i:=1) 24 (v:=.agg #[.int .i64 vr,.int .i64 vn]) rfl rfl (by kernel_rfl) (by kernel_rfl) (by kernel_rfl) (fun _ _ _ h=>h) (yieldsIf_load_mid (by rfl) 112 (.tmp 23) rfl (w.heap.size+1) 1 rfl [.int .i64 vr,.int .i64 vn] _ (fun w' hw'=>FZ hw' (by omega) rB) underlying112 rfl FM) hS0 ?_;simp only[Act.put,List.setIfInBounds_toArray,List.set_cons_zero,List.set_cons_succ];refine Ac (i:=2) 25 (v:=.pointer (some ⟨w.heap.size,2,none⟩)) rfl rfl (by kernel_rfl) (by kernel_rfl) (by kernel_rfl) (fun _ _ _ h=>h) (Or.inl ⟨by rfl,fun _ _=>by kernel_rfl⟩) hS0 ?_;simp only[Act.put,List.setIfInBounds_toArray,List.set_cons_zero,List.set_cons_succ];refine Ac (i:=3) 26 (v:=.slice ax M cp) rfl rfl (by kernel_rfl) (by kernel_rfl) (by kernel_rfl) (fun _ _ _ h=>h) (Fz (by rfl) 113 (.tmp 25) rfl _ underlying113 rfl ⟨w.heap.size,2,none⟩ rfl (.slice ax M cp) (fun w' hw'=>(hw'.cell (p:=⟨w.heap.size,2,none⟩) (show w.heap.size<w.heap.size+2 by omega)).trans a2)) hS0 ?_;simp only[Act.put,List.setIfInBounds_toArray,List.set_cons_zero,List.set_cons_succ];refine Ac (i:=4) 27 (v:=.agg (vtA ⟨vs,⟨vr,vn⟩,⟨vk,vc,vq,vm,vx⟩⟩)) rfl rfl (by kernel_rfl) (by kernel_rfl) (by kernel_rfl) (fun _ _ _ h=>h) (X8 (by rfl) (.tmp 3) rfl (w.heap.size+1) 0 rfl ⟨vs,⟨vr,vn⟩,⟨vk,vc,vq,vm,vx⟩⟩ (fun w' hw'=>FZ hw' (by omega) rV)) hS0 ?_;simp only[Act.put,List.setIfInBounds_toArray,List.set_cons_zero,List.set_cons_succ];refine AM (i:=5) (by kernel_rfl) (Dq (i:=5) (d:=28) (f:=214) (args:=#[.slice ax M cp,.agg (vtA ⟨vs,⟨vr,vn⟩,⟨vk,vc,vq,vm,vx⟩⟩)]) rfl (by kernel_rfl) rfl (by kernel_rfl) ((MH _ l ⟨vs,⟨vr,vn⟩,⟨vk,vc,vq,vm,vx⟩⟩ _ HR.out (hl.below ed0)).mono ?_));rintro e' w5 ⟨x5,rfl,o5,b5⟩;have e5:Below W.heap.size W w5:=ed0.trans (b5.mono ed0.size);have hI40:=HI40.out;have s5:=Sv.ofOwns o5 (by omega);obtain⟨a5,c5,h5⟩:=s5.shape;obtain⟨n5,hn5⟩:∃ n5,(Bo l ⟨vs,⟨vr,vn⟩,⟨vk,vc,vq,vm,vx⟩⟩).length=n5:=⟨_,rfl⟩;rw[hn5]at h5
     subst h5;refine⟨_,rfl,e5.mono hle,?_⟩;simp only[Act.put,List.setIfInBounds_toArray,List.set_cons_zero,List.set_cons_succ];refine Ac (i:=6) 29 (v:=.agg #[.int .i64 vr,.int .i64 vn,(.slice a5 n5 c5)]) rfl rfl (by kernel_rfl) (by kernel_rfl) (by kernel_rfl) (fun _ _ _ h=>h) (Or.inl ⟨by rfl,fun _ _=>by kernel_rfl⟩) (e5.mono hle) ?_;simp only[Act.put,List.setIfInBounds_toArray,List.set_cons_zero,List.set_cons_succ];have hone:(#[.int .i64 vr,.int .i64 vn,(.slice a5 n5 c5)]:Array Value).all (·.oneCell')=true:=by simp[Value.oneCell']
     have rS:=(e5.block (w.heap.size+2) ltR).trans rR;have e7:Below (w.heap.size+2) W (w5.setRow (w.heap.size+2) #[.int .i64 vr,.int .i64 vn,(.slice a5 n5 c5)]):=Aj (e5.mono hle) (Nat.le_refl _) _;have q7:=setRow_heap w5 (w.heap.size+2) _ (#[.int .i64 vr,.int .i64 vn,(.slice a5 n5 c5)]) 115 _ rS;have t5:(w5.setRow (w.heap.size+2) #[.int .i64 vr,.int .i64 vn,(.slice a5 n5 c5)]).ownsRow W.heap.size 175 8 (.slice a5 n5 c5) (Bo l ⟨vs,⟨vr,vn⟩,⟨vk,vc,vq,vm,vx⟩⟩).length (vtL (Bo l ⟨vs,⟨vr,vn⟩,⟨vk,vc,vq,vm,vx⟩⟩)):=Bh (Et o5 (fun k hk=>setRow_other _ _ _ _ (by have:=(o5.lt k hk).1;have:=ed0.size;omega))) ed0.size;refine AM (i:=7) (by kernel_rfl) (Er (i:=7) rfl (by kernel_rfl) rfl 115 (.tmp 4) (.tmp 29) rfl (w.heap.size+2) #[.int .i64 vr,.int .i64 vn,(.slice a5 n5 c5)] (by kernel_rfl) (by kernel_rfl) 115 _ rS (BC ⟨vr,vn⟩ (.slice a5 n5 c5)) rfl hone ⟨e7,?_⟩);refine Ac (i:=8) 5 (v:=.int .i64 0) rfl rfl (by kernel_rfl) (by kernel_rfl) (by kernel_rfl) (fun _ _ _ h=>h) (Or.inl ⟨by rfl,fun _ _=>by kernel_rfl⟩) e7 ?_;simp only[Act.put,List.setIfInBounds_toArray,List.set_cons_zero,List.set_cons_succ];exact wpAnyH_done (by kernel_rfl) (HK2.out a5 n5 c5 _ ⟨q7,t5,e7⟩) _
    intro g n c W2 hW2;obtain⟨q7,t5,e7⟩:=hW2;have d7:=d3.trans (e7.mono (by omega));clear rR q0 q1 a2 rB rV;go_wp2
    refine bodyPost_ret (EV rfl _ _ (w.heap.size+2) 115 _ (0,0) _ rfl q7 underlying115 rfl (BC ⟨vr,vn⟩ (.slice g n c))) rfl ?_;rw[HE.out,HP.out.1,HP.out.2];exact⟨.slice g n c,rfl,Bh t5 d3.size,HI40.out,d7⟩
  ·rw[decide_eq_false h2];have HE:Hid (AW ⟨⟨pr,pn⟩,l⟩ ⟨vs,⟨vr,vn⟩,⟨vk,vc,vq,vm,vx⟩⟩=2):=by unfold Hid AW;rw[if_neg (fun g=>g h1),if_pos h2]
   clear c1 c2 a0 a1;go_wp2_with ((with_reducible (refine As ?_));refine wpList_store_row rfl 115 (.tmp 4) (.tmp 16) rfl (w.heap.size+2) #[.int .i64 0,.int .i64 0,.slice none 0 0] rfl rfl 115 _ q2 (BC ⟨0,0⟩ (.slice none 0 0)) rfl hz3 ?_)
   have q9:=setRow_heap w2 (w.heap.size+2) _ (#[.int .i64 0,.int .i64 0,.slice none 0 0]) 115 _ q2;have d9:=Aj d2 (show w.heap.size≤w.heap.size+2 by omega) (#[.int .i64 0,.int .i64 0,.slice none 0 0]);have HZ:=HZero.out _ (by decide) HE.out;refine bodyPost_ret (EV rfl _ _ (w.heap.size+2) 115 _ (0,0) _ rfl q9 underlying115 rfl (BC ⟨0,0⟩ (.slice none 0 0))) rfl ?_;rw[HE.out,HZ.1,HZ.2];exact⟨.slice none 0 0,rfl,World.ownsRow_nil _ _ _ _,by simp,d9⟩
 ·rw[show F0 ⟨⟨pr,pn⟩,l⟩=5 from if_neg h1];have HE:Hid (AW ⟨⟨pr,pn⟩,l⟩ ⟨vs,⟨vr,vn⟩,⟨vk,vc,vq,vm,vx⟩⟩=5):=by unfold Hid AW;rw[if_pos h1]
  go_wp2_with ((with_reducible (refine As ?_));refine wpList_store_row rfl 115 (.tmp 4) (.tmp 11) rfl (w.heap.size+2) #[.int .i64 0,.int .i64 0,.slice none 0 0] rfl rfl 115 _ q2 (BC ⟨0,0⟩ (.slice none 0 0)) rfl hz3 ?_)
  have q9:=setRow_heap w1 (w.heap.size+2) _ (#[.int .i64 0,.int .i64 0,.slice none 0 0]) 115 _ q2;have d9:=Aj d1 (show w.heap.size≤w.heap.size+2 by omega) (#[.int .i64 0,.int .i64 0,.slice none 0 0]);have HZ:=HZero.out _ (by decide) HE.out;refine bodyPost_ret (EV rfl _ _ (w.heap.size+2) 115 _ (0,0) _ rfl q9 underlying115 rfl (BC ⟨0,0⟩ (.slice none 0 0))) rfl ?_;rw[HE.out,HZ.1,HZ.2];exact⟨.slice none 0 0,rfl,World.ownsRow_nil _ _ _ _,by simp,d9⟩
theorem OB(p:Bal)(x:Value)(l:List Vt)(v:Vt)(w:World)(h:Sv w x l)(ht:NTab w) :
  Calls prog 165 #[.agg (acA p x),.agg (vtA v)] w fun e w'=>∃ y,e=.returned (.tuple #[.agg (acA (BT ⟨p,l⟩ v) y),.int .i64 (AW ⟨p,l⟩ v)])∧Sv w' y (CO ⟨p,l⟩ v)∧Below w.heap.size w w':=by
 refine(BI p x l v w h ht).mono ?_;rintro e w' ⟨y,he,hy,hl,hb⟩;exact⟨y,he,Sv.ofOwns hy (by omega),hb⟩
end Go.Proofs.YtakgfdbjgeopdaaGreatDoor
