/- Part 9 of the walk. -/
import Derived.Test.YthkjeoamjgnpoaaGreatDoorZ8
set_option maxRecDepth 100000
set_option maxHeartbeats 4000000
open Go.Proofs.Tryz
set_option linter.unusedVariables false
namespace Go.Proofs.YthkjeoamjgnpoaaGreatDoor
section
open Go.RowKit
section
variable{W w:World}{g:Gh}{i k nb ob:Nat}{ls:List Let}{p:Nod}{ts:List Tol}{vs:List Value}{x:S3}
theorem NC{v:Vt}(h:NS i nb ob g w p ls ts){D:World}(I:Base D g w)(J:Tabs D)(M:i<5)(K:ls.length<90000000){a d:Nat}(y:Box g w a #[pt nb 0] 116)(A:Box g w d #[iv v.bt,iv v.b.r,iv v.b.n,iv v.w.k,iv v.w.c,iv v.w.s,iv v.w.n,iv v.w.v] 181)(q:p.ae.length<=40) :
  Calls prog 143 #[pt a 0,pt d 0] w (NP i nb ob g w (.tuple #[]) (p.count i v) (ls++BV i { BC 3 with cl:=v } 5) ts):=by
 obtain⟨x,lt,Z,B,C,L⟩:=h;refine gI (fn:=f143) (TN i) g func143 L (qN B (qO C (Cq ⟨a,.cells #[pt nb 0] 116,.z,false⟩ (λ_=>⟨y.r,y.z,λh=>(by cases h),λh=>absurd rfl h⟩) (by kernel_rfl) ?_)));refine Cq ⟨d,.cells #[iv v.bt,iv v.b.r,iv v.b.n,iv v.w.k,iv v.w.c,iv v.w.s,iv v.w.n,iv v.w.v] 181,.z,false⟩ (λ_=>⟨A.r,A.z,λh=>(by cases h),λh=>absurd rfl h⟩) (by kernel_rfl) ?_;refine qR [] 8 [6,0,2,2,2,4,6,8,0,10,3] λW R w1 e=>qS 6 [false,false,true,true] B C e (λE=>Oa E (I.ch (e.nil (TN i)) (Bx i)) J i M v q) λS w2 x2 N P j m G=>qR [] 5 [0,1] λX T w4 t=>qS 3 [true,true,false,false] j m t (λF=>EF F K { BC 3 with cl:=v } s30 s30 ⟨Sv.nil _,λh=>absurd rfl h⟩ (Rc.nil _ _)) λU w5 x5 O Q l o H=>qR [] 1 [] λY V w7 u=>qF l o u (((((e.nil (TN i)).trans (G)).n t).trans (H)).n u)
theorem Tb{b:Bal}{C:List Vt}{j:S3}(h:NS i nb ob g w p ls ts){H:World}(N:Base H g w)(O:Tabs H)(R:i<5)(P:ls.length<90000000){k l m:Nat}(a:Box g w k #[pt nb 0] 116)(F:Box g w l #[iv b.r,iv b.n] 121)(G:Box g w m #[S3.v j] 122)(S:FSv g w j C)(B:(p.bn.an i).vs.length<100000000) :
  Calls prog 94 #[pt k 0,pt l 0,pt m 0] w (NP i nb ob g w (.tuple #[]) (if p.vo.p≠b then p else{ p with bn:=p.bn.sw i C }) (if p.vo.p≠b then ls else(ls++BV i { BC 0 with hU:=b } 5)) ts):=by
 obtain⟨x,lt,tl,o,t,Q⟩:=h;refine gI (fn:=f94) (TN i) g func94 Q (qN o (qO t (Cq ⟨k,.cells #[pt nb 0] 116,.z,false⟩ (λ_=>⟨a.r,a.z,λh=>(by cases h),λh=>absurd rfl h⟩) (by kernel_rfl) ?_)));refine Cq ⟨l,.cells #[iv b.r,iv b.n] 121,.z,false⟩ (λ_=>⟨F.r,F.z,λh=>(by cases h),λh=>absurd rfl h⟩) (by kernel_rfl) ?_;refine Cq ⟨m,.cells #[S3.v j] 122,.z,false⟩ (λ_=>⟨G.r,G.z,λh=>(by cases h),λh=>absurd rfl h⟩) (by kernel_rfl) ?_;refine qR [] 10 [8,0,2,2,4,6,8,10,0,12,3] λs1 Y w1 c=>?_;by_cases a:p.vo.p≠b
 .refine qT 7 (.bool true) (λ_=>(IU (x:=(.tmp 8)) (y:=(.tmp 9)) p.vo.p b a)) (qR [] 2 [] λs2 Z w2 D=>?_);rw[if_pos a,if_pos a];exact qF o t (c.n D) ((c.nil (TN i)).n D)
 .have h10:p.vo.p=b:=by simpa using a
  refine qT 7 (.bool false) (λ_=>(IT (x:=(.tmp 8)) (y:=(.tmp 9)) p.vo.p b h10)) ?_;rw[if_neg a,if_neg a];refine qR [] 14 [9,0,2,2,4,6,8,2,10,12,14,0,16,4] λs4 g4 w4 e=>qS 9 [false,false,true,true,true] o t (c.n e) (λI=>QB I (N.ch ((c.nil (TN i)).n e) (Bx i)) O i R C j (S.ch ((c.nil (TN i)).n e) (Bx i)) B) λg5 w5 x5 T V q u K=>qR [] 5 [0,1] λs7 g7 w7 E=>qS 3 [true,true,true,false,false] q u E (λJ=>EF J P { BC 0 with hU:=b } s30 s30 ⟨Sv.nil _,λh=>absurd rfl h⟩ (Rc.nil _ _)) λg8 w8 x8 lt8 W s A L=>qR [] 1 [] λU M X d=>qF s A d ((((((c.nil (TN i)).n e).trans (K)).n E).trans (L)).n d)
def Nod.ln(p:Nod)(i:Nat):Pend->Nod
 | .began b vs=>if p.vo.p≠b then p else{ p with bn:=p.bn.sw i vs }
 | .prop v=>p.count i v
 | _=>p
def Nod.sc(p:Nod)(i:Nat):Pend->List Let
 | .began b vs=>if p.vo.p≠b then[]else BV i { BC 0 with hU:=b } 5
 | .prom to b vs=>[{ BC 1 with hU:=b,mv:=vs,gC:=p.ae,src:=i,dst:=to }]
 | .voted to v=>[{ BC 4 with cl:=v,src:=i,dst:=to }]
 | .ew to b=>[{ BC 2 with hU:=b,src:=i,dst:=to }]
 | .prop v=>BV i { BC 3 with cl:=v } 5
 | .askNews to=>[{ BC 6 with bt:=p.ae.length,src:=i,dst:=to }]
 | .start=>BV i (BC 6) 5
 | .tell to bt=>[{ BC 5 with src:=i,dst:=to,bt:=bt,gC:=p.ae.drop bt }]
def RO(p:Nod)(i:Nat):Pend->Prop
 | .began _ _=>(p.bn.an i).vs.length<100000000
 | .prop _=>p.ae.length<=40
 | .tell _ bt=>bt<=p.ae.length
 | _=>True
theorem ga{P:Program}{s:Xs}{S:Sem Next}{r:Result Next}(h:Ds s i=some S)(a:S.run P W=r):Df P s i W=some r:=by
 unfold Df;unfold Ds at h;cases hx:opN s i with
 | none=>rw[hx]at h;cases h
 | some x =>
  rw[hx]at h
  simp only[nW,Z']at h ⊢;rw[h,a]
theorem Hj(h:NS i nb ob g w p ls ts){z:World}(s:Base z g w)(t:Tabs z)(y:i<5)(f:ls.length<90000000){v:Value}(q:Pend)(o:RO p i q)(j:Lk g w nb v q) :
  ∃ (F:FuncId) (cs:Array Value),v=.func (.func F) #[] cs/\(∀ W,(Go.callFunc F (#[]++cs)).run prog W=.ok (.enter F cs) W)/\Calls prog F cs w (NP i nb ob g w (.tuple #[]) (p.ln i q) (ls++p.sc i q) ts):=by
 cases q with
 | began b vs =>
  obtain⟨k,b2,b3,x,e,a,c,d,n⟩:=j;refine⟨_,_,e,λW=>by kernel_rfl,?_⟩;have:=Tb h s t y f a c d n o;unfold Nod.ln Nod.sc;by_cases m:p.vo.p≠b
  .rw[if_pos m,if_pos m]at this;simp only[if_pos m,nB];exact this
  .rw[if_neg m,if_neg m]at this;simp only[if_neg m];exact this
 | prom to b vs =>
  obtain⟨k,b2,b3,x,r,l,e,a,c,d,n,A,rfl,rfl⟩:=j;exact⟨_,_,e,λW=>(by kernel_rfl),Hs h f a c d A n⟩
 | voted to u =>
  obtain⟨k,b2,r,l,e,a,c,d,rfl,rfl⟩:=j;exact⟨_,_,e,λW=>(by kernel_rfl),Ip (b3:=0) h f a c d⟩
 | ew to b =>
  obtain⟨k,b2,b3,e,a,c,d⟩:=j;exact⟨_,_,e,λW=>(by kernel_rfl),PA h f a c d⟩
 | prop u =>
  obtain⟨k,b2,e,a,c⟩:=j;exact⟨_,_,e,λW=>(by kernel_rfl),NC h s t y f a c o⟩
 | askNews to =>
  obtain⟨k,b2,r,l,e,a,c,d,rfl⟩:=j;exact⟨_,_,e,λW=>(by kernel_rfl),MO (b3:=0) h f a c d⟩
 | start =>
  obtain⟨k,e,a⟩:=j;exact⟨_,_,e,λW=>(by kernel_rfl),Ry (b2:=0) (b3:=0) h f a⟩
 | tell to bt =>
  obtain⟨k,b2,r,l,e,a,c,d,rfl,rfl⟩:=j;exact⟨_,_,e,λW=>(by kernel_rfl),JR (b3:=0) h f a c d o⟩
structure FzL(g:Gh)(w:World)(x:S3)(vs:List Value):Prop where
 n:x.n=vs.length
 at_:∀ j u,vs[j]?=some u->∃ b,x.a=some ⟨b,0,none⟩/\b<w.heap.size/\j<g.k b/\w.cell? ⟨b,j,none⟩=some u
theorem OwnS.fz{τ:Tg}{e:TypeId}(h:OwnS g w τ true e 1 x vs):FzL g w x vs:=by
 refine⟨by have:=h.len;omega,λj u d=>?_⟩;obtain⟨b,a,f,i⟩:=h.cell d;have c:j<vs.length:=(V'.1 d).1;refine⟨b,a,f,?_,i⟩;rcases h.ex with⟨h4,_⟩|⟨b',cur,h4,_,_,_,_,_,_,h8⟩
 .rw[h4]at a;cases a
 .rw[a]at h4
  simp only[Z',Addr.mk.injEq,and_true]at h4;subst h4;rw[h8,if_pos rfl];exact c
theorem FzL.ch{B:Nat}{T:List Tg}{d:Gh}{f:World}(h:FzL g w x vs)(c:Cg B T g w d f):FzL d f x vs :=
 ⟨h.n,λj u m=>by
  obtain⟨b,i,a,e,k⟩:=h.at_ j u m;exact⟨b,i,X' a c.size,X' e (c.sL b a),(c.sK b a j e).trans k⟩⟩
theorem gl{b c:Nat}(d:x.a=some ⟨b,c,none⟩)(j:Nat)(f:j<x.n):(Instr.indexAt 125 x.v (iv (j:Int))).run prog W=.ok (pt b (c+1*j)) W:=by
 unfold S3.v;rw[d];exact P6 (P:=prog) (e:=1) (z:=1) underlying125 (by kernel_rfl) (by kernel_rfl) f _ rfl
def qv(i:Nat):List Pend->Nod->List Let->Nod × List Let
 | [],p,ls=>(p,ls)
 | q::l,p,ls=>qv i l (p.ln i q) (ls++p.sc i q)
def GW(i:Nat):List Pend->Nod->List Let->Prop
 | [],_,_=>True
 | q::l,p,ls=>RO p i q/\ls.length<90000000/\GW i l (p.ln i q) (ls++p.sc i q)
def Nod.so(p:Nod):Nod:=if p.sy<(p.d.length:Int)then{ p with d:=Hq p.d p.sy,sy:=Io p.d p.sy }else p
theorem Qr{l:List Pend}{j:Nat}{c:Pend}(h:l[j]?=some c):l.drop j=c::l.drop (j+1):=by
 obtain⟨a,b⟩:=V'.1 h;rw[<- b];exact n7 a
theorem fu(h:NS i nb ob g w p ls ts){w0:World}(hB:Base w0 g w)(hT:Tabs w0)(hi:i<5)(Y:GW i p.bu { p.so with bu:=[] } ls)(f5:p.bu.length<100000000) :
  Calls prog 100 #[pt nb 0] w (NP i nb ob g w (.tuple #[]) (if p.sy<(p.d.length:Int)/\Db p.d p.sy≠0 then(p,ls)else qv i p.bu { p.so with bu:=[] } ls).1 (if p.sy<(p.d.length:Int)/\Db p.d p.sy≠0 then(p,ls)else qv i p.bu { p.so with bu:=[] } ls).2 ts):=by
 obtain⟨x,lt,tl,m,hO,hg⟩:=h;have f7:x.tape.n=p.d.length:=by obtain⟨a,e6,hh⟩:=m.tape.s.sx;have:=m.tape.s.len;simp only[S3.v,Value.slice.injEq]at hh;exact hh.2.1
 refine gI (fn:=f100) (TN i) g func100 hg (qN m (qO hO ?_));obtain⟨pv,hP,I⟩:=m.bu;have hF:=hP.fz;have f6:x.synced.n=p.bu.length:=by rw[hF.n];exact I.len
 refine qR [] 16 [12,0,2,4,6,8,0,10,12,14,16,18,0,20,22] λs1 g1 w1 c1=>?_;by_cases h1:p.sy<(x.tape.n:Int)
 .refine qI ((decide (p.sy<(x.tape.n:Int)))) true (O' (by omega)) (qR [] 6 [0] λs2 g2 w2 c2=>Af λKq=>?_);have hS:=(m.tape.ch (c1.trans c2)).s;have hG:∀ z,w2.heap.size<=z->g2.t z=.z:=λz hz=>(Kq.new z hz).1;refine qC 4 (fs (s:=p.sy) hS) ?_;rintro e' w3 ⟨tz,rfl,b4,d6,b3⟩;refine⟨_,rfl,b3,?_⟩;have c3:=Cg.eb (B:=w.heap.size) (T:=[]) (g:=g2) b3;have f8:=FT b4;have d7:FSl _ _ tz _:=⟨b4,λhl a ha=>hG _ (d6 hl a ha)⟩;refine qR [] 13 [0,0,2,0] λs4 g4 w4 c4=>?_;by_cases E:Db p.d p.sy≠0
  .refine qI (((Db p.d p.sy) != 0)) true (by simpa using E) (qE (.tuple #[]) λK=>?_);rw[if_pos ⟨by omega,E⟩];exact⟨_,rfl,(nsC m hO (((c1.n c2).n c3).n c4) K),((((c1.nil (TN i)).n c2).n c3).n c4)⟩
  .refine qI (((Db p.d p.sy) != 0)) false (by simpa using E) ?_;have O:p.so={ p with d:=Hq p.d p.sy,sy:=Io p.d p.sy }:=if_pos (by omega);rw[show(if p.sy<(p.d.length:Int)/\Db p.d p.sy≠0 then(p,ls)else qv i p.bu { p.so with bu:=[] } ls)=qv i p.bu ({ p with d:=Hq p.d p.sy,sy:=Io p.d p.sy,bu:=[] }:Nod) ls from by rw[if_neg (by rintro⟨_,h⟩;exact E h),O]];rw[show{ p.so with bu:=[] }=({ p with d:=Hq p.d p.sy,sy:=Io p.d p.sy,bu:=[] }:Nod)from by rw[O]]at Y
   refine qR [.n 0 i] 32 [2,0,1,0,0,1] λs7 g7 w7 c7=>I8 [true,true,false] ?_;refine Cd 51 [(42,S3.v x.synced),(43,iv (x.synced.n:Int)),(44,iv 0)] [false,false] [] (λk g' w' e L=>∃ (j:Nat) (q:Nod) (l2:List Let),k=p.bu.length-j/\j<=p.bu.length/\e=[(42,S3.v x.synced),(43,iv (x.synced.n:Int)),(44,iv (j:Int))]/\L=[]/\NS i nb ob g' w' q l2 ts/\qv i (p.bu.drop j) q l2=qv i p.bu ({ p with d:=Hq p.d p.sy,sy:=Io p.d p.sy,bu:=[] }:Nod) ls/\GW i (p.bu.drop j) q l2/\Cg w.heap.size (TN i) g w g' w') (by kernel_rfl) (by kernel_rfl) (by kernel_rfl) (by kernel_rfl) p.bu.length (λK=>?_) ?_
   .have C8:=((((c1.nil ([.n 0 i]:List Tg)).n c2).n c3).n c4).trans (c7);have Z8:Tg.z∉([.n 0 i]:List Tg):=by simp
    exact⟨0,({ p with d:=Hq p.d p.sy,sy:=Io p.d p.sy,bu:=[] }:Nod),ls,rfl,by omega,rfl,rfl,⟨({ x with tape:=tz,synced:=s30 }:NX),lt,tl,K.nd 0 ((d7.ch c4).ch c7) (m.mv.ch C8 Z8) (B9 m.an C8 Z8) ⟨[],OwnS.nil _ _ _ _ _ _,⟨rfl,λk v q h=>by cases h⟩⟩ (m.fa.ch C8) (m.ae.ch C8) (m.av.ch C8) (m.bN.ch C8) m.sS,hO.ch C8 Z8 (by simp<;>omega),K.new⟩,rfl,Y,(((((c1.nil (TN i)).n c2).n c3).n c4).trans (c7.mono (by simp[TN])))⟩
   .rintro k gr wr _ zr _ ⟨j,q,l2,rfl,hj,rfl,rfl,hM,hI,hK,hC⟩ J hJ;obtain⟨xr,d8,d9,o,r,d4⟩:=id hM;refine qN o (qO r (qR [] 5 [] λs9 g9 w9 Q=>?_));by_cases h5:j<p.bu.length
    .refine qI ((decide ((j:Int)<(x.synced.n:Int)))) true (O' (by omega)) ?_;obtain⟨D,N⟩:∃ D,p.bu[j]?=some D:=⟨_,E' h5⟩;obtain⟨v,hv⟩:∃ v,pv[j]?=some v:=⟨_,E' (by rw[I.len];exact h5)⟩;rw[Qr N]at hI hK
     obtain⟨G,H,a1⟩:=hK;have F:=hF.ch hC;obtain⟨bx,P,d2,d5,d3⟩:=F.at_ j v hv;have M:=(I.at_ j v D hv N).ch hC (Bx i);refine qR [] 5 [] λf9 c0 e0 u=>qV 0 (pt bx (0+1*j)) (gl P j (by omega)) (Af λK=>?_);have b5:NS i nb ob c0 e0 q l2 ts:=(nsC o r (Q.n u) K);obtain⟨Z,A,e2,a2,_⟩:=Hj b5 (hB.ch (((hC.n Q).n u)) (Bx i)) hT hi H D G (M.ch ((Q.nil (TN i)).n u) (Bx i));subst e2;have a0:=F.ch (Q.trans u);refine qV 1 (.func (.func Z) #[] A) (Da (ty:=1) (b:=bx) (k:=0+1*j) (v:=.func (.func Z) #[] A) underlying1 rfl (by rw[nM,r9];obtain⟨b2,E,_,_,h4⟩:=a0.at_ j _ hv;rw[P]at E;simp only[Z',Addr.mk.injEq,and_true]at E;subst E;exact h4)) (qR [] 4 [] λg0 c5 e1 S=>Af λK=>?_);have b6:NS i nb ob c5 e1 q l2 ts:=(nsC o r ((Q.n u).n S) K);obtain⟨F3,b9,e3,_,C⟩:=Hj b6 (hB.ch ((((hC.n Q).n u).n S)) (Bx i)) hT hi H D G (M.ch (((Q.nil (TN i)).n u).n S) (Bx i));simp only[Value.func.injEq,Fn.func.injEq,true_and]at e3;obtain⟨rfl,rfl⟩:=e3;refine SG 1 Z A (TN i) [false,false] (λW=>ga (by kernel_rfl) (a2 W)) (by kernel_rfl) (by kernel_rfl) (by kernel_rfl) C ?_;rintro e' i0 ⟨c6,rfl,a3,U⟩;refine⟨_,c6,rfl,U,a3.new,?_⟩;replace U:=U.ret (B:=w.heap.size);refine qR [] 3 [] λg3 e7 i1 a5=>qV 0 (iv ((j:Int)+1)) (AX 44 (j:Int) underlying3 (by omega)) (qR [] 2 [] λg5 e8 i2 a6=>qB [] λz K0 K=>hJ (p.bu.length-(j+1)) _ _ _ z _ (by omega) ⟨j+1,q.ln i D,l2++q.sc i D,rfl,by omega,rfl,rfl,NS.sr a3 (a5.trans a6) K0.new,hI,a1,((((((hC.n Q).n u).n S).trans U).n a5).n a6)⟩ K)
    .refine qI ((decide ((j:Int)<(x.synced.n:Int)))) false (H' (by omega)) (qR [] 1 [] λg6 e9 i3 a7=>?_);obtain rfl:j=p.bu.length:=by omega
     rw[o8]at hI
     rw[<- hI];exact qF o r (Q.n a7) ((hC.n Q).n a7)
 .refine qI ((decide (p.sy<(x.tape.n:Int)))) false (H' (by omega)) ?_;have O:p.so=p:=if_neg (by omega);rw[show(if p.sy<(p.d.length:Int)/\Db p.d p.sy≠0 then(p,ls)else qv i p.bu { p.so with bu:=[] } ls)=qv i p.bu ({ p with bu:=[] }:Nod) ls from by rw[if_neg (by rintro⟨h,_⟩;omega),O]];rw[show{ p.so with bu:=[] }=({ p with bu:=[] }:Nod)from by rw[O]]at Y
  refine qR [.n 0 i] 25 [0,0,1] λg8 f0 i4 a8=>Cd 51 [(42,S3.v x.synced),(43,iv (x.synced.n:Int)),(44,iv 0)] [false,false] [] (λk g' w' e L=>∃ (j:Nat) (q:Nod) (l2:List Let),k=p.bu.length-j/\j<=p.bu.length/\e=[(42,S3.v x.synced),(43,iv (x.synced.n:Int)),(44,iv (j:Int))]/\L=[]/\NS i nb ob g' w' q l2 ts/\qv i (p.bu.drop j) q l2=qv i p.bu ({ p with bu:=[] }:Nod) ls/\GW i (p.bu.drop j) q l2/\Cg w.heap.size (TN i) g w g' w') (by kernel_rfl) (by kernel_rfl) (by kernel_rfl) (by kernel_rfl) p.bu.length (λK=>?_) ?_
  .have C22:=(c1.nil ([.n 0 i]:List Tg)).trans (a8);have R:Tg.z∉([.n 0 i]:List Tg):=by simp
   exact⟨0,({ p with bu:=[] }:Nod),ls,rfl,by omega,rfl,rfl,⟨({ x with synced:=s30 }:NX),lt,tl,K.nd 0 (m.tape.ch C22 R) (m.mv.ch C22 R) (B9 m.an C22 R) ⟨[],OwnS.nil _ _ _ _ _ _,⟨rfl,λk v q h=>by cases h⟩⟩ (m.fa.ch C22) (m.ae.ch C22) (m.av.ch C22) (m.bN.ch C22) m.sS,hO.ch C22 R (by simp<;>omega),K.new⟩,rfl,Y,((c1.nil (TN i)).trans (a8.mono (by simp[TN])))⟩
  .rintro k gr wr _ zr _ ⟨j,q,l2,rfl,hj,rfl,rfl,hM,hI,hK,hC⟩ J hJ;obtain⟨xr,d8,d9,o,r,d4⟩:=id hM;refine qN o (qO r (qR [] 5 [] λh0 f1 i5 c=>?_));by_cases h5:j<p.bu.length
   .refine qI ((decide ((j:Int)<(x.synced.n:Int)))) true (O' (by omega)) ?_;obtain⟨D,N⟩:∃ D,p.bu[j]?=some D:=⟨_,E' h5⟩;obtain⟨v,hv⟩:∃ v,pv[j]?=some v:=⟨_,E' (by rw[I.len];exact h5)⟩;rw[Qr N]at hI hK
    obtain⟨G,H,a1⟩:=hK;have F:=hF.ch hC;obtain⟨bx,P,d2,d5,d3⟩:=F.at_ j v hv;have M:=(I.at_ j v D hv N).ch hC (Bx i);refine qR [] 5 [] λh3 c8 e4 y=>qV 0 (pt bx (0+1*j)) (gl P j (by omega)) (Af λK=>?_);have b7:NS i nb ob c8 e4 q l2 ts:=(nsC o r (c.n y) K);obtain⟨Z,A,e2,a2,_⟩:=Hj b7 (hB.ch (((hC.n c).n y)) (Bx i)) hT hi H D G (M.ch ((c.nil (TN i)).n y) (Bx i));subst e2;have a0:=F.ch (c.trans y);refine qV 1 (.func (.func Z) #[] A) (Da (ty:=1) (b:=bx) (k:=0+1*j) (v:=.func (.func Z) #[] A) underlying1 rfl (by rw[nM,r9];obtain⟨b2,E,_,_,h4⟩:=a0.at_ j _ hv;rw[P]at E;simp only[Z',Addr.mk.injEq,and_true]at E;subst E;exact h4)) (qR [] 4 [] λh6 d0 e5 V=>Af λK=>?_);have b8:NS i nb ob d0 e5 q l2 ts:=(nsC o r ((c.n y).n V) K);obtain⟨F3,b9,e3,_,C⟩:=Hj b8 (hB.ch ((((hC.n c).n y).n V)) (Bx i)) hT hi H D G (M.ch (((c.nil (TN i)).n y).n V) (Bx i));simp only[Value.func.injEq,Fn.func.injEq,true_and]at e3;obtain⟨rfl,rfl⟩:=e3;refine SG 1 Z A (TN i) [false,false] (λW=>ga (by kernel_rfl) (a2 W)) (by kernel_rfl) (by kernel_rfl) (by kernel_rfl) C ?_;rintro e' i6 ⟨d1,rfl,a4,X⟩;refine⟨_,d1,rfl,X,a4.new,?_⟩;replace X:=X.ret (B:=w.heap.size);refine qR [] 3 [] λh7 f2 i7 a9=>qV 0 (iv ((j:Int)+1)) (AX 44 (j:Int) underlying3 (by omega)) (qR [] 2 [] λh8 f3 i8 b0=>qB [] λz K0 K=>hJ (p.bu.length-(j+1)) _ _ _ z _ (by omega) ⟨j+1,q.ln i D,l2++q.sc i D,rfl,by omega,rfl,rfl,NS.sr a4 (a9.trans b0) K0.new,hI,a1,((((((hC.n c).n y).n V).trans X).n a9).n b0)⟩ K)
   .refine qI ((decide ((j:Int)<(x.synced.n:Int)))) false (H' (by omega)) (qR [] 1 [] λh9 f4 i9 b1=>?_);obtain rfl:j=p.bu.length:=by omega
    rw[o8]at hI
    rw[<- hI];exact qF o r (c.n b1) ((hC.n c).n b1)
def MT(p:Nod)(i j:Nat):Bool:=decide (j≠i/\p.bn.bw j<p.ae.length)
def KR(p:Nod)(i k:Nat):Nat->Nat:=λj=>if decide (j<k)&&MT p i j then p.ae.length else p.bn.bw j
def EI(p:Nod)(i k:Nat):Nod:={ p with bn:={ p.bn with bw:=KR p i k } }
def Dt(p:Nod)(i:Nat):Nat->List Let
 | 0=>[]
 | k+1=>Dt p i k++(if MT p i k then[{ BC 5 with src:=i,dst:=k,bt:=p.bn.bw k,gC:=p.ae.drop (p.bn.bw k) }]else[])
theorem Vk(p:Nod)(i k:Nat):(Dt p i k).length<=k:=by
 induction k with
 | zero=>exact A' _
 | succ k ih=>unfold Dt;rw[G'];split<;>simp<;>omega
theorem Xp(p:Nod)(i:Nat):EI p i 0=p:=by unfold EI KR;simp
theorem Vl(h:MT p i k=false):KR p i (k+1)=KR p i k:=by
 funext j
 unfold KR;by_cases e:j=k
 .subst e;simp[h]
 .rw[show decide (j<k+1)=decide (j<k)from ol.2 (by omega)]
theorem bG(h:MT p i k=true):upN (KR p i k) k p.ae.length=KR p i (k+1):=by
 funext j
 unfold upN KR;by_cases e:j=k
 .subst e;simp[h]
 .rw[if_neg e,show decide (j<k+1)=decide (j<k)from ol.2 (by omega)]
theorem Xq(h:NS i nb ob g w p ls ts)(hb:ls.length<90000000) :
  Calls prog 101 #[pt nb 0] w (NP i nb ob g w (.tuple #[]) (if p.leads then EI p i 5 else p) (if p.leads then ls++Dt p i 5 else ls) ts):=by
 obtain⟨x,lt,tl,S,U,hg⟩:=h;refine gI (fn:=f101) (TN i) g func101 hg (qN S (qO U (qR [] 4 [] λs1 Y w1 C=>?_)));by_cases h1:p.leads=false
 .refine Af λK=>?_;have N3:NS i nb ob Y w1 p ls ts:=(nsC S U C K);refine qC 1 (Fp N3 h1) ?_;rintro e' w4 ⟨rfl,b4⟩;refine⟨_,rfl,b4,?_⟩;have c4:=Cg.eb (B:=w.heap.size) (T:=[]) (g:=Y) b4;refine qR [] 3 [] λs5 g5 w5 c5=>qE (.tuple #[]) λK=>?_;rw[h1,if_neg (by simp),if_neg (by simp)];exact⟨_,rfl,(nsC S U ((C.n c4).n c5) K),(((C.nil (TN i)).n c4).n c5)⟩
 .have h10:p.leads=true:=by simpa using h1
  refine Af λK=>?_;have N8:NS i nb ob Y w1 p ls ts:=(nsC S U C K);refine qC 1 (Fp N8 h10) ?_;rintro e' w9 ⟨rfl,b9⟩;refine⟨_,rfl,b9,?_⟩;have c9:=Cg.eb (B:=w.heap.size) (T:=[]) (g:=Y) b9;rw[if_pos h10,if_pos h10];refine qR [] 15 [0] λd1 a5 e7 E=>Cd 51 [(0,pt nb 0),(12,.agg #[iv (p.bn.bw 0:Int),iv (p.bn.bw 1:Int),iv (p.bn.bw 2:Int),iv (p.bn.bw 3:Int),iv (p.bn.bw 4:Int)]),(13,iv 0)] [false,false] [] (λk X Z e L=>∃ k0:Nat,k=5-k0/\k0<=5/\e=[(0,pt nb 0),(12,.agg #[iv (p.bn.bw 0:Int),iv (p.bn.bw 1:Int),iv (p.bn.bw 2:Int),iv (p.bn.bw 3:Int),iv (p.bn.bw 4:Int)]),(13,iv (k0:Int))]/\L=[]/\NS i nb ob X Z (EI p i k0) (ls++Dt p i k0) ts/\Cg w.heap.size (TN i) g w X Z) (by kernel_rfl) (by kernel_rfl) (by kernel_rfl) (by kernel_rfl) 5 (λK=>?_) ?_
  .have C11:=(C.n c9).n E;exact⟨0,rfl,by omega,rfl,rfl,(by rw[Xp,show ls++Dt p i 0=ls from nB _];exact(nsC S U C11 K)),(((C.nil (TN i)).n c9).n E)⟩
  .rintro k gr wr _ zr _ ⟨k0,rfl,hk0,rfl,rfl,hM,hC⟩ J hJ;obtain⟨xr,d0,e6,d,j,c7⟩:=hM;have c8:=Vk p i k0;refine qN d (qO j ?_);have c6:xr.ae.n=p.ae.length:=d.ae.num;refine qR [] 5 [] λd2 a6 e8 a=>?_;by_cases h2:k0<5
   .refine qI ((decide ((k0:Int)<5))) true (O' (by omega)) (qR [] 6 [] λd3 a7 e9 b=>?_);refine dz 1 (iv (p.bn.bw k0:Int)) (λK=>(by rcases se h2 with rfl|rfl|rfl|rfl|rfl<;>kernel_rfl)) (by kernel_rfl) ?_;refine qR [] 10 [0] λd4 a8 f0 c=>?_;by_cases h3:k0≠i
    .refine qV 5 (.bool true) (IS (t:=3) (m:=(k0:Int)) (n:=(i:Int)) (x:=(.tmp 17)) (y:=(.tmp 21)) (by simp;omega)) (qR [] 11 [0] λd5 a9 f1 q=>?_);by_cases h4:(p.bn.bw k0:Int)<(xr.ae.n:Int)
     .have hx:MT p i k0=true:=O' ⟨by omega,by omega⟩;refine qI ((decide ((p.bn.bw k0:Int)<(xr.ae.n:Int)))) true (O' (by omega)) (qR [] 5 [] λd6 b0 f2 F=>qS 3 [false,false] d j ((((a.n b).n c).n q).n F) (λa0=>Jj a0 (by rw[G'];omega) k0 (p.bn.bw k0) (by show _<=p.ae.length;omega)) λb1 f3 o s u r V a1=>qR [] 14 [13,0,2,4,6,8,10,12,0,14,16,18,20,22] λd7 a3 a4 G=>?_);have W:o.ae.n=p.ae.length:=r.ae.num;refine Ea 51 (λX Z e L=>e=[(0,pt nb 0),(12,.agg #[iv (p.bn.bw 0:Int),iv (p.bn.bw 1:Int),iv (p.bn.bw 2:Int),iv (p.bn.bw 3:Int),iv (p.bn.bw 4:Int)]),(13,iv (k0:Int))]/\L=[⟨nb,.cells (AJ i ob ({ p with bn:={ p.bn with bw:=upN (KR p i k0) k0 o.ae.n } }) o) 136,.n 0 i,false⟩,⟨ob,.cells #[S3.v s,S3.v u] 113,.n 50 0,false⟩]/\True/\Cg w.heap.size ([.n 0 i]:List Tg) a3 a4 X Z) (by kernel_rfl) ?_ ?_
      .intro J hJ;rcases se h2 with rfl|rfl|rfl|rfl|rfl <;>
       (refine qR [.n 0 i] 3 [24,27,0,1] λd8 b3 f5 a2=>?_;exact qB [true,true] λz A K=>hJ _ _ _ z _ ⟨rfl,rfl,trivial,a2⟩ K)
      rintro b2 f4 _ g4 _ ⟨rfl,rfl,_,H⟩;refine qR [] 2 [] λd9 b5 f6 I=>qV 0 (iv ((k0:Int)+1)) (AX 13 (k0:Int) underlying3 (by omega)) (qR [] 2 [] λe0 b6 f7 M=>qB [false,false] λz A K=>hJ (5-(k0+1)) _ _ _ z _ (by omega) ⟨k0+1,rfl,by omega,rfl,rfl,?_,((((((((((hC.n a).n b).n c).n q).n F).trans a1).n G).trans (H.mono (by simp[TN]))).n I).n M)⟩ K);have D:=(((G.nil ([.n 0 i]:List Tg)).trans (H)).n I).n M;rw[show EI p i (k0+1)={ p with bn:={ p.bn with bw:=upN (KR p i k0) k0 o.ae.n } }from by unfold EI;rw[<- bG hx,W],show ls++Dt p i (k0+1)=(ls++Dt p i k0++[{ BC 5 with src:=i,dst:=k0,bt:=p.bn.bw k0,gC:=p.ae.drop (p.bn.bw k0) }])from by show ls++(Dt p i k0++_)=_;rw[hx,if_pos rfl,mY]];exact⟨o,s,u,A.ud 0 r D,V.ch D (hn:=by simp<;>omega),A.new⟩
     .have hx:MT p i k0=false:=H' (λh=>h4 (by omega));refine qI ((decide ((p.bn.bw k0:Int)<(xr.ae.n:Int)))) false (H' (by omega)) (qR [] 3 [] λe1 b7 f8 N=>qV 0 (iv ((k0:Int)+1)) (AX 13 (k0:Int) underlying3 (by omega)) (qR [] 2 [] λe2 b8 f9 O=>qB [false,false] λz A K=>hJ (5-(k0+1)) _ _ _ z _ (by omega) ⟨k0+1,rfl,by omega,rfl,rfl,?_,((((((hC.n a).n b).n c).n q).n N).n O)⟩ K));rw[show EI p i (k0+1)={ p with bn:={ p.bn with bw:=KR p i k0 } }from by unfold EI;rw[Vl hx],show ls++Dt p i (k0+1)=ls++Dt p i k0 from by show ls++(Dt p i k0++_)=_;rw[hx];simp];exact(nsC d j (((((a.n b).n c).n q).n N).n O) A)
    .have hx:MT p i k0=false:=H' (λh=>h.1 (by omega));refine qV 5 (.bool false) (IS (t:=3) (m:=(k0:Int)) (n:=(i:Int)) (x:=(.tmp 17)) (y:=(.tmp 21)) (by simp;omega)) (qR [] 15 [] λe3 c0 g0 P=>qV 0 (iv ((k0:Int)+1)) (AX 13 (k0:Int) underlying3 (by omega)) (qR [] 2 [] λe4 c2 g2 Q=>qB [false,false] λz A K=>hJ (5-(k0+1)) _ _ _ z _ (by omega) ⟨k0+1,rfl,by omega,rfl,rfl,?_,(((((hC.n a).n b).n c).n P).n Q)⟩ K));rw[show EI p i (k0+1)={ p with bn:={ p.bn with bw:=KR p i k0 } }from by unfold EI;rw[Vl hx],show ls++Dt p i (k0+1)=ls++Dt p i k0 from by show ls++(Dt p i k0++_)=_;rw[hx];simp];exact(nsC d j ((((a.n b).n c).n P).n Q) A)
   .refine qI ((decide ((k0:Int)<5))) false (H' (by omega)) (qR [] 1 [] λe5 c3 g3 R=>?_);obtain rfl:k0=5:=by omega
    exact qF d j (a.n R) ((hC.n a).n R)
end
end
section
section
def BP(l:List Vt):Prop:=BM l/\∀ v∈l,0<=v.bt/\v.bt<=39
theorem aA(l:List Vt)(a:Int)(h:BM l)(b:∀ v∈l,a<=v.bt/\v.bt<=39):l.length<=(40-a).toNat:=by
 induction l generalizing a with
 | nil=>exact nH _
 | cons u l ih =>
  obtain⟨d,e⟩:=h;have f:=b u M';have:=ih (u.bt+1) e λv c=>⟨by have:=d v c;omega,(b v (I' _ c)).2⟩;rw[nK];omega
variable{a:Acc}{b:Bal}{l:List Vt}{v:Vt}
theorem BP.len(h:BP l):l.length<=40:=aA l 0 h.1 h.2
theorem BP.nil:BP []:=⟨trivial,λv h=>by cases h⟩
theorem Aq(h:Bb a v=0):Ag a/\Ah v/\¬ v.b.lt a.p:=by
 unfold Bb at h;by_cases c:Ag a
 .rw[if_neg (λg=>g c)]at h
  by_cases d:Ah v
  .rw[if_neg (λg=>g d)]at h
   by_cases e:v.b.lt a.p
   .rw[if_pos e]at h;cases h
   .exact⟨c,d,e⟩
  .rw[if_pos d]at h;cases h
 .rw[if_pos c]at h;cases h
theorem Co(h:Cn a b=0):Ag a/\Ac b/\¬ b.lt a.p:=by
 unfold Cn at h;by_cases c:Ag a
 .rw[if_neg (λg=>g c)]at h
  by_cases d:Ac b
  .rw[if_neg (λg=>g d)]at h
   by_cases e:b.lt a.p
   .rw[if_pos e]at h;cases h
   .exact⟨c,d,e⟩
  .rw[if_pos d]at h;cases h
 .rw[if_pos c]at h;cases h
theorem Gz(h:BP l)(b:Ah v):BP (Bn l v) :=
 ⟨J6 v h.1,λu a=>by
  rcases(BA h.1).1 a with rfl|⟨h2,_⟩
  .exact b.1
  .exact h.2 u h2⟩
theorem Wg(a:Acc)(l:List Vt)(h:BP a.vs):BP (Dh a l).vs:=by
 induction l generalizing a with
 | nil=>exact h
 | cons v l ih =>
  rw[Dh];refine ih _ ?_;by_cases b:Bb a v=0
  .rw[if_pos b];show BP (Br a v);rw[(DK b).2];exact Gz h (Aq b).2.1
  .rw[if_neg b];exact h
def POk(k:Nat):Pend->Prop
 | .began b vs=>BP vs
 | .prom to b vs=>to<5/\Ap b/\BP vs
 | .voted to v=>to<5
 | .ew to b=>to<5/\Ap b
 | .prop v=>True
 | .askNews to=>to<5
 | .start=>True
 | .tell to bt=>to<5/\bt<=k
theorem POk.mono{k m:Nat}{q:Pend}(h:POk k q)(a:k<=m):POk m q:=by
 cases q<;>first|exact h|exact⟨h.1,mS h.2 a⟩
def Pend.wt:Pend->Nat
 | .began _ _=>4
 | .prop _=>4
 | .start=>4
 | _=>1
def AA:List Pend->Nat
 | []=>0
 | q::l=>q.wt+AA l
theorem FO(l:List Pend)(q:Pend):AA (l++[q])=AA l+q.wt:=by
 induction l with
 | nil=>simp[AA]
 | cons x l ih=>simp only[List.cons_append,AA,ih];omega
theorem Ez(l:List Pend):l.length<=AA l:=by
 induction l with
 | nil=>exact A' _
 | cons x l ih =>
  rw[AA,nK];have:1<=x.wt:=by cases x<;>simp[Pend.wt]
  omega
structure NOk(n:Nat)(p:Nod):Prop where
 ag:p.ae.length<=40
 dn:p.done<=p.ae.length
 qu:p.bn.fa.length<=40
 wa:p.av.length<=n
 ask:∀ c,(p.bN c).isSome=true->c∈p.av
 ro:0<=p.cF/\p.cF<=65536
 vp:Ap p.vo.p
 vs:BP p.vo.vs
 he:∀ j,BP (p.bn.an j).vs
 pe:∀ q∈p.bu,POk p.ae.length q
structure LOk(l:Let):Prop where
 kd:l.kind<7
 src:l.src<5
 dst:l.dst<5
 hU:Ap l.hU
 vs:BP l.mv
 wh:l.gC.length<=40
 sl:l.kind=5->l.bt+l.gC.length<=40
theorem Ap.b0:Ap Bf:=.inr ⟨rfl,rfl⟩
theorem Ap.uF(h:Ap b):0<=b.r/\b.r<=65536/\0<=b.n/\b.n<=4:=by
 rcases h with⟨h1,h2⟩|⟨h1,h2⟩<;>omega
end
section
variable{n:Nat}{p:Nod}
theorem NOk.wait(h:NOk n p){q:Pend}(b:POk p.ae.length q):NOk n (p.wait q) :=
 { h with pe:=λr c=>(P'.1 c).elim (h.pe r) λa=>(D'.1 a)▸b }
theorem NOk.au(h:NOk n p)(b:Bal):NOk n (p.au b).1/\(p.au b).1.bu=p.bu/\(p.au b).1.ae=p.ae/\BP (p.au b).2.1/\((p.au b).2.2=0->Ac b):=by
 unfold Nod.au;by_cases a:Cn p.vo b≠0
 .rw[if_pos a];exact⟨h,rfl,rfl,BP.nil,λg=>absurd g a⟩
 .rw[if_neg a];have c:=Co (nQ a);by_cases f:b=p.vo.p
  .rw[if_pos f];exact⟨{ h with vp:=.inl c.2.1,vs:=h.vs },rfl,rfl,h.vs,λ_=>c.2.1⟩
  .rw[if_neg f];by_cases e:CH p.d p.sy (Ac b) (Bu b)≠0
   .rw[if_pos e];exact⟨h,rfl,rfl,BP.nil,λg=>absurd g e⟩
   .rw[if_neg e];exact⟨{ h with vp:=.inl c.2.1,vs:=h.vs },rfl,rfl,h.vs,λ_=>c.2.1⟩
theorem NOk.cl(h:NOk n p)(v:Vt):NOk n (p.cl v).1/\(p.cl v).1.bu=p.bu/\(p.cl v).1.ae=p.ae/\(p.cl v).1.bn=p.bn:=by
 unfold Nod.cl;by_cases b:Bb p.vo v≠0
 .rw[if_pos b];exact⟨h,rfl,rfl,rfl⟩
 .rw[if_neg b];have a:=Aq (nQ b);by_cases c:v∈p.vo.vs
  .rw[if_pos c];exact⟨{ h with vp:=.inl a.2.1.2.1,vs:=Gz h.vs a.2.1 },rfl,rfl,rfl⟩
  .rw[if_neg c];by_cases e:CH p.d p.sy (Ah v) (Bj v)≠0
   .rw[if_pos e];exact⟨h,rfl,rfl,rfl⟩
   .rw[if_neg e];exact⟨{ h with vp:=.inl a.2.1.2.1,vs:=Gz h.vs a.2.1 },rfl,rfl,rfl⟩
theorem NOk.ew(h:NOk n p){to:Nat}(a:to<5)(e:Int):NOk n (p.ew to e)/\(p.ew to e).ae=p.ae/\AA (p.ew to e).bu<=AA p.bu+1:=by
 unfold Nod.ew;split
 .exact⟨h.wait ⟨a,h.vp⟩,rfl,by show AA (p.bu++[_])<=_;rw[FO];exact A' _⟩
 .exact⟨h,rfl,nX _⟩
theorem dW(k:Nat)(r:Rnd)(l:List Cmd)(h:l.length<=40):(FG k r l).length<=40/\l.length<=(FG k r l).length:=by
 induction k generalizing l with
 | zero=>exact⟨h,A' _⟩
 | succ k ih =>
  rw[FG];split
  .rename_i h1
   have a:=XV h1;have:=ih (l++[CQ r.hZ (l.length:Int)]) (by simp;omega);simp at this;exact⟨this.1,by omega⟩
  .exact⟨h,A' _⟩
theorem NOk.grow(h:NOk n p){l:List Cmd}(b:l.length<=40)(a:p.ae.length<=l.length):NOk n { p with ae:=l } :=
 { h with ag:=b,dn:=mS h.dn a,pe:=λq c=>(h.pe q c).mono a }
theorem NOk.sf(h:NOk n p):NOk n p.sf/\p.sf.bu=p.bu/\p.ae.length<=p.sf.ae.length :=
 have:=dW 41 p.bn p.ae h.ag
 ⟨h.grow this.1 this.2,rfl,this.2⟩
theorem NOk.lr(h:NOk n p){bt:Nat}{gC:List Cmd}(a:bt<=p.ae.length)(b:bt+gC.length<=40):NOk n (p.lr bt gC)/\(p.lr bt gC).bu=p.bu/\p.ae.length<=(p.lr bt gC).ae.length:=by
 have c:=h.ag;refine⟨h.grow ?_ ?_,rfl,?_⟩
 .rw[G',nc];omega
 .rw[G'];omega
 .show _<=(p.ae++_).length;rw[G'];omega
theorem bM{α:Type}{f:Nat->α}{P:α->Prop}(h:∀ j,P (f j))(i:Nat){x:α}(a:P x):∀ j,P (upN f i x j):=by
 intro j;unfold upN;split
 .exact a
 .exact h j
theorem NOk.sw(h:NOk n p)(j:Nat){vs:List Vt}(b:BP vs):NOk n { p with bn:=p.bn.sw j vs } :=
 { h with qu:=h.qu,he:=bM (P:=λa:Acc=>BP a.vs) h.he j (Wg _ _ b) }
theorem NOk.count(h:NOk n p)(j:Nat)(v:Vt):NOk n (p.count j v)/\(p.count j v).bu=p.bu/\p.ae.length<=(p.count j v).ae.length:=by
 unfold Nod.count;by_cases d:v.b≠p.bn.hU
 .rw[if_pos d];exact⟨h,rfl,A' _⟩
 .rw[if_neg d];by_cases c:Bb (p.bn.an j) v≠0
  .rw[if_pos c];exact⟨h,rfl,A' _⟩
  .rw[if_neg c];have e:=nQ c;have:NOk n { p with bn:={ p.bn with an:=upN p.bn.an j ⟨BI (p.bn.an j) v,Br (p.bn.an j) v⟩ } } :=
    { h with qu:=h.qu,he:=bM (P:=λa:Acc=>BP a.vs) h.he j (by show BP (Br _ v);rw[(DK e).2];exact Gz (h.he j) (Aq e).2.1) }
   exact this.sf
theorem NOk.dT(h:NOk n p)(l:List Cmd):NOk n (p.dT l)/\(p.dT l).bu=p.bu/\(p.dT l).ae=p.ae:=by
 unfold Nod.dT;split
 .exact⟨{ h with qu:=dg _ _ h.qu,he:=h.he },rfl,rfl⟩
 .exact⟨h,rfl,rfl⟩
theorem NOk.take(h:NOk n p){l:Let}(a:LOk l):NOk n (p.take l)/\AA (p.take l).bu<=AA p.bu+1/\p.ae.length<=(p.take l).ae.length:=by
 have g:=h.ag;unfold Nod.take;have b:∀ {P:Nod} {q:Pend},P.bu=p.bu->q.wt=1->AA (P.wait q).bu<=AA p.bu+1:=λ{P q} e d=>by
  show AA (P.bu++[q])<=_;rw[FO,e,d];exact A' _
 split
 .have hp:=h.au l.hU;split
  .have:=h.ew a.src (p.au l.hU).2.2;exact⟨this.1,this.2.2,by rw[this.2.1];exact A' _⟩
  .rename_i h1
   exact⟨hp.1.wait ⟨a.src,.inl (hp.2.2.2.2 (nQ h1)),hp.2.2.2.1⟩,b hp.2.1 rfl,by show _<=(p.au l.hU).1.ae.length;rw[hp.2.2.1];exact A' _⟩
 .have hk:=h.lr (bt:=0) (gC:=l.gC) (nH _) (by have:=a.wh;omega);simp only;split
  .exact⟨hk.1,by rw[hk.2.1];omega,hk.2.2⟩
  .have h2:=hk.1.sw l.src (vs:=l.mv) a.vs;have f:NOk n { p.lr 0 l.gC with bn:={ (p.lr 0 l.gC).bn.sw l.src l.mv with bw:=upN (p.lr 0 l.gC).bn.bw l.src l.gC.length } }:={ h2 with qu:=h2.qu,he:=h2.he };have c:=f.sf;exact⟨c.1,by rw[c.2.1];show AA (p.lr 0 l.gC).bu<=_;rw[hk.2.1];omega,mS hk.2.2 c.2.2⟩
 .have hr:=h.ro;have i:=a.hU.uF;exact⟨{ h with ro:=by show 0<=max p.cF l.hU.r/\max p.cF l.hU.r<=65536;omega },nX _,A' _⟩
 .have hp:=h.cl l.cl;split
  .have:=h.ew a.src (p.cl l.cl).2;exact⟨this.1,this.2.2,by rw[this.2.1];exact A' _⟩
  .exact⟨hp.1.wait a.src,b hp.2.1 rfl,by show _<=(p.cl l.cl).1.ae.length;rw[hp.2.2.1];exact A' _⟩
 .have:=h.count l.src l.cl;exact⟨this.1,by rw[this.2.1];omega,this.2.2⟩
 .rename_i hk
  split
  .exact⟨h.wait a.src,b rfl rfl,A' _⟩
  .have:=h.lr (bt:=l.bt) (gC:=l.gC) (by omega) (a.sl hk);exact⟨this.1,by rw[this.2.1];omega,this.2.2⟩
 .have he:=h.dT l.gC;simp only;split
  .rename_i h1
   exact⟨he.1.wait ⟨a.src,pD h1⟩,b he.2.1 rfl,by show _<=(p.dT l.gC).ae.length;rw[he.2.2];exact A' _⟩
  .exact⟨he.1,by rw[he.2.1];omega,by rw[he.2.2];exact A' _⟩
 .exact⟨h,nX _,A' _⟩
end
def Nod.jv(p:Nod)(i:Nat):Nod × List Let :=
 if(Bd p.vo.p p.bN (p.av.take 40)).1=[]then({ p with bN:=(Bd p.vo.p p.bN (p.av.take 40)).2 },[])
 else if p.vo.p.n=(i:Int)then(Nod.dT { p with bN:=(Bd p.vo.p p.bN (p.av.take 40)).2 } (Bd p.vo.p p.bN (p.av.take 40)).1,[])
 else({ p with bN:=(Bd p.vo.p p.bN (p.av.take 40)).2 },[{ BC 6 with bt:=p.ae.length,gC:=(Bd p.vo.p p.bN (p.av.take 40)).1,src:=i,dst:=p.vo.p.n.toNat }])
noncomputable def sq(i:Nat):List Cmd->Nod->List Tol->Nod × List Tol
 | [],p,ts=>(p,ts)
 | c::l,p,ts =>
  if doE p.ni c≠0 then(p,ts)
  else sq i l (Nod.fv { p with ni:=doS p.ni c,done:=p.done+1 } c) (if(p.bN c).isSome=true then ts++[⟨i,c.c,c.s,doC p.ni c,doA p.ni c⟩]else ts)
def Nod.qk(p:Nod)(i:Nat)(ls:List Let):Nod × List Let:=if p.sy<(p.d.length:Int)/\Db p.d p.sy≠0 then(p,ls)else qv i p.bu { p.so with bu:=[] } ls
def Nod.bw(p:Nod)(i:Nat)(ls:List Let):Nod × List Let:=if p.leads then(EI p i 5,ls++Dt p i 5)else(p,ls)
noncomputable def Nod.piece(p:Nod)(i:Nat)(ls:List Let)(ts:List Tol):Nod × List Let × List Tol :=
 let a:=sq i (p.ae.drop p.done) p ts
 let b:=a.1.jv i
 let c:=b.1.cx.qk i (ls++b.2)
 let d:=c.1.bw i c.2
 (d.1,d.2,a.2)
noncomputable def Nod.ss(p:Nod)(i:Nat)(e:Int)(c:Cmd)(ts:List Tol):Nod × List Tol :=
 if p.up=false then(p,ts)
 else if e≠0 then({ p with bad:=p.bad+1 },ts)
 else if c∈p.ae.take p.done then(p,ts++[⟨i,c.c,c.s,doC p.ni c,doA p.ni c⟩])
 else(p.want c,ts)
def Eb(l:List Int)(now:Int):Cmd:=if opE l now=0 then⟨Ad (unQ l) 0,Ad (unQ l) 4,Ad (unQ l) 8,Ad (unQ l) 12,Ad (unQ l) 16⟩else Sf
theorem ZJ(l:List Int)(a:Int):opA l a=cmC (Eb l a):=by unfold opA Eb;split<;>rfl
noncomputable def Nod.sj(p:Nod)(i:Nat)(d:List Int)(ts:List Tol):Nod × List Tol:=p.ss i (opE d (p.done:Int)) (Eb d (p.done:Int)) ts
def Meet.set(M:Meet)(i:Nat)(p:Nod)(ls:List Let)(ts:List Tol):Meet:=⟨upN M.ab i p,ls,ts⟩
noncomputable def Meet.act(M:Meet)(x:Lac):Meet :=
 let i:=x.n.toNat
 if x.k=1 then M.set i ((M.ab i).sj i x.d M.ed).1 M.br ((M.ab i).sj i x.d M.ed).2
 else if x.k=2 then M.set i (if(M.ab i).up then(M.ab i).lead i else M.ab i) M.br M.ed
 else if x.k=3 then M.set i (if(M.ab i).up then((M.ab i).piece i M.br M.ed).1 else M.ab i) (if(M.ab i).up then((M.ab i).piece i M.br M.ed).2.1 else M.br) (if(M.ab i).up then((M.ab i).piece i M.br M.ed).2.2 else M.ed)
 else if x.k=4\/x.k=5\/x.k=6 then M.move x.k x.a.toNat
 else if x.k=7 then M.si
 else if x.k=8 then M.set i (if(M.ab i).up then(M.ab i).lp x.p else M.ab i) M.br M.ed
 else if x.k=9 then M.set i (if(M.ab i).up then M.ab i else(M.ab i).start) M.br M.ed
 else M
noncomputable def Meet.dc(M:Meet)(l:List Lac):Meet:=l.foldl Meet.act M
theorem eM(r:List Int):Ap (Eu r).2.p/\BP (Eu r).2.vs:=by
 have h:∀ k,Ap (itR r k).2.p/\BP (itR r k).2.vs:=by
  intro k;induction k with
  | zero=>exact⟨.inr ⟨rfl,rfl⟩,BP.nil⟩
  | succ k ih =>
   rw[itR];unfold Ki;split
   .exact ih
   .rename_i c m hs
    have d:∃ b,DR (itR r k).2 b=some c:=by
     unfold Ca at hs;split at hs
     .cases hs
     .split at hs
      .cases hs
      .split at hs
       .cases hs
       .obtain⟨x,hx,e⟩:=oQ.1 hs;injection e with e1 e2
        subst e1;exact⟨_,hx⟩
    obtain⟨b,a⟩:=d;unfold DR at a;split at a
    .split at a
     .rename_i h1
      injection a with a;subst a
      exact⟨.inl (Co h1).2.1,ih.2⟩
     .cases a
    .split at a
     .split at a
      .split at a
       .rename_i h1
        injection a with a;subst a
        exact⟨.inl (Aq h1).2.1.2.1,Gz ih.2 (Aq h1).2.1⟩
       .cases a
      .cases a
     .cases a
 exact h r.length
theorem eL(d:List Int)(s:Int):Ap (GB d s).p/\BP (GB d s).vs:=by
 unfold GB;split
 .exact eM d
 .exact⟨.inr ⟨rfl,rfl⟩,BP.nil⟩
theorem CF{i:Nat}{l m:Let}{k:Nat}(h:m∈BV i l k):∃ to,to<k/\m={ l with src:=i,dst:=to }:=by
 unfold BV at h;obtain⟨to,a,rfl⟩:=nw.1 h;exact⟨to,pM.1 (pO.1 a).1,rfl⟩
theorem JK{i:Nat}(a:i<5)(l:Let):(BV i l 5).length<=4:=by
 unfold BV;rw[nA];rcases se a with rfl|rfl|rfl|rfl|rfl<;>decide
section
variable{n i:Nat}{p:Nod}
theorem NOk.ln(h:NOk n p)(a:i<5){q:Pend}(c:POk p.ae.length q):NOk n (p.ln i q)/\(p.ln i q).bu=p.bu/\p.ae.length<=(p.ln i q).ae.length/\RO p i q/\(∀ m∈p.sc i q,LOk m)/\(p.sc i q).length<=q.wt:=by
 have g:=h.ag;have one:∀ {l:Let},LOk l->∀ m∈[l],LOk m:=λj m d=>by rw[D'.1 d];exact j
 cases q with
 | began b vs =>
  unfold Nod.ln Nod.sc;refine⟨?_,?_,?_,qj (h.he i).len (by decide),?_,?_⟩
  .simp only;split
   .exact h
   .exact h.sw i c
  .simp only;split<;>rfl
  .simp only;split<;>exact A' _
  .simp only;split
   .exact λm d=>by cases d
   .rename_i h1
    intro m d;obtain⟨to,e,rfl⟩:=CF d;exact⟨by show 0<7;decide,a,e,by show Ap b;rw[<- nQ h1];exact h.vp,BP.nil,by show 0<=40;decide,λh=>by cases h⟩
  .simp only;split
   .exact nH _
   .exact JK a _
 | prom to b vs=>exact⟨h,rfl,A' _,trivial,one ⟨by show 1<7;decide,a,c.1,c.2.1,c.2.2,g,λh=>by cases h⟩,A' _⟩
 | voted to v=>exact⟨h,rfl,A' _,trivial,one ⟨by show 4<7;decide,a,c,Ap.b0,BP.nil,by show 0<=40;decide,λh=>by cases h⟩,A' _⟩
 | ew to b=>exact⟨h,rfl,A' _,trivial,one ⟨by show 2<7;decide,a,c.1,c.2,BP.nil,by show 0<=40;decide,λh=>by cases h⟩,A' _⟩
 | prop v =>
  have f:=h.count i v;refine⟨f.1,f.2.1,f.2.2,g,λm d=>?_,JK a _⟩;obtain⟨to,e,rfl⟩:=CF d;exact⟨by show 3<7;decide,a,e,Ap.b0,BP.nil,by show 0<=40;decide,λh=>by cases h⟩
 | askNews to=>exact⟨h,rfl,A' _,trivial,one ⟨by show 6<7;decide,a,c,Ap.b0,BP.nil,by show 0<=40;decide,λh=>by cases h⟩,A' _⟩
 | start =>
  refine⟨h,rfl,A' _,trivial,λm d=>?_,JK a _⟩;obtain⟨to,e,rfl⟩:=CF d;exact⟨by show 6<7;decide,a,e,Ap.b0,BP.nil,by show 0<=40;decide,λh=>by cases h⟩
 | tell to bt=>exact⟨h,rfl,A' _,c.2,one ⟨by show 5<7;decide,a,c.1,Ap.b0,BP.nil,by show(p.ae.drop bt).length<=40;rw[nc];omega,λ_=>by show bt+(p.ae.drop bt).length<=40;rw[nc];have:=c.2;omega⟩,A' _⟩
theorem Ys(k:i<5)(l:List Pend)(p:Nod)(a:List Let)(h:NOk n p)(c:∀ q∈l,POk p.ae.length q)(z:a.length+AA l<90000000)(b:∀ m∈a,LOk m) :
  NOk n (qv i l p a).1/\(qv i l p a).1.bu=p.bu/\(∀ m∈(qv i l p a).2,LOk m)/\(qv i l p a).2.length<=a.length+AA l/\GW i l p a:=by
 induction l generalizing p a with
 | nil=>exact⟨h,rfl,b,A' _,trivial⟩
 | cons q l ih =>
  obtain⟨d,e,f,g,j,y⟩:=h.ln k (c q M');have A:AA (q::l)=q.wt+AA l:=rfl;obtain⟨t,u,v,w,x⟩:=ih (p.ln i q) (a++p.sc i q) d (λr s=>(c r (I' _ s)).mono f) (by rw[G'];omega) (λm o=>by
   rcases P'.1 o with h|h
   .exact b m h
   .exact j m h)
  refine⟨t,u.trans e,v,?_,g,by omega,x⟩;show(qv i l (p.ln i q) (a++p.sc i q)).2.length<=_;rw[G']at w;omega
theorem NOk.so(h:NOk n p):NOk n { p.so with bu:=[] }:=by
 unfold Nod.so;split
 .exact{ h with pe:=λq a=>by cases a }
 .exact{ h with pe:=λq a=>by cases a }
theorem Uc(p:Nod):p.so.ae=p.ae:=by unfold Nod.so;split<;>rfl
theorem NOk.qk(h:NOk n p)(d:i<5){ls:List Let}(c:ls.length+AA p.bu<90000000)(b:∀ m∈ls,LOk m) :
  NOk n (p.qk i ls).1/\(∀ m∈(p.qk i ls).2,LOk m)/\(p.qk i ls).2.length+AA (p.qk i ls).1.bu<=ls.length+AA p.bu/\GW i p.bu { p.so with bu:=[] } ls:=by
 have a:=Ys d p.bu { p.so with bu:=[] } ls h.so (λq e=>by show POk p.so.ae.length q;rw[Uc];exact h.pe q e) c b;unfold Nod.qk;split
 .exact⟨h,b,A' _,a.2.2.2.2⟩
 .exact⟨a.1,a.2.2.1,by rw[a.2.1];exact a.2.2.2.1,a.2.2.2.2⟩
theorem XD(b:Bal)(f:Cmd->Option Bal)(l:List Cmd):(Bd b f l).1.length<=l.length:=by
 induction l generalizing f with
 | nil=>exact A' _
 | cons c l ih =>
  rw[Bd];split
  .have:=ih (BW f c (some b));simp only[nK];omega
  .have:=ih f;simp only[nK];omega
theorem VB(b:Bal)(f:Cmd->Option Bal)(l:List Cmd)(c:Cmd)(h:((Bd b f l).2 c).isSome=true):(f c).isSome=true\/c∈l:=by
 induction l generalizing f with
 | nil=>exact .inl h
 | cons d l ih =>
  rw[Bd]at h
  split at h
  .rcases ih _ h with h1|h1
   .unfold BW at h1;split at h1
    .rename_i e;exact .inr (e▸M')
    .exact .inl h1
   .exact .inr (I' _ h1)
  .rcases ih _ h with h1|h1
   .exact .inl h1
   .exact .inr (I' _ h1)
theorem NOk.asks(h:NOk n p):NOk n { p with bN:=(Bd p.vo.p p.bN (p.av.take 40)).2 } :=
 { h with ask:=λc a=>(VB _ _ _ c a).elim (h.ask c) nm }
theorem NOk.jv(h:NOk n p)(c:i<5):NOk n (p.jv i).1/\(p.jv i).1.bu=p.bu/\(p.jv i).1.ae=p.ae/\(∀ m∈(p.jv i).2,LOk m)/\(p.jv i).2.length<=1:=by
 have b:(Bd p.vo.p p.bN (p.av.take 40)).1.length<=40:=mS (XD _ _ _) (by rw[j'];omega);unfold Nod.jv;split
 .exact⟨h.asks,rfl,rfl,λm a=>(by cases a),nH _⟩
 .split
  .have:=h.asks.dT (Bd p.vo.p p.bN (p.av.take 40)).1;exact⟨this.1,this.2.1,this.2.2,λm a=>(by cases a),nH _⟩
  .have hr:=h.vp.uF;refine⟨h.asks,rfl,rfl,λm a=>?_,A' _⟩;rw[D'.1 a];exact⟨by show 6<7;decide,c,by show p.vo.p.n.toNat<5;omega,Ap.b0,BP.nil,b,λh=>by cases h⟩
theorem NOk.cx(h:NOk n p):NOk n p.cx/\AA p.cx.bu<=AA p.bu+4/\p.cx.ae=p.ae:=by
 unfold Nod.cx;split
 .exact⟨h,by omega,rfl⟩
 .split
  .exact⟨h,by omega,rfl⟩
  .rename_i c _
   split
   .exact⟨h,by omega,rfl⟩
   .have hv:=h.cl ⟨(p.ae.length:Int),p.bn.hU,c⟩;have a:NOk n { (p.cl ⟨(p.ae.length:Int),p.bn.hU,c⟩).1 with bn:={ p.bn with next:=p.ae.length+1 } }:={ hv.1 with qu:=h.qu,he:=h.he };refine⟨a.wait trivial,?_,hv.2.2.1⟩;show AA ((p.cl ⟨(p.ae.length:Int),p.bn.hU,c⟩).1.bu++[_])<=_;rw[FO,hv.2.1];exact A' _
theorem NOk.bw(h:NOk n p)(e:i<5)(a:List Let)(d:∀ m∈a,LOk m):NOk n (p.bw i a).1/\(p.bw i a).1.bu=p.bu/\(∀ m∈(p.bw i a).2,LOk m)/\(p.bw i a).2.length<=a.length+5:=by
 have g:=h.ag;have f:∀ k,k<=5->∀ m∈Dt p i k,LOk m:=by
  intro k;induction k with
  | zero=>exact λ_ m b=>by cases b
  | succ k ih =>
   intro j m b;rw[Dt]at b
   rcases P'.1 b with h1|h1
   .exact ih (by omega) m h1
   .split at h1
    .rename_i c
     have c:=nL c;rw[D'.1 h1];exact⟨by show 5<7;decide,e,by show k<5;omega,Ap.b0,BP.nil,by show(p.ae.drop _).length<=40;rw[nc];omega,λ_=>by show p.bn.bw k+(p.ae.drop _).length<=40;rw[nc];omega⟩
    .cases h1
 unfold Nod.bw;split
 .refine⟨{ h with qu:=h.qu,he:=h.he },rfl,λm b=>?_,by show(a++Dt p i 5).length<=_;rw[G'];have:=Vk p i 5;omega⟩;rcases P'.1 b with h1|h1
  .exact d m h1
  .exact f 5 (A' _) m h1
 .exact⟨h,rfl,d,rP _ _⟩
theorem NOk.fv(h:NOk n p)(c:Cmd):NOk n (p.fv c)/\(p.fv c).av.length+(if(p.bN c).isSome=true then 1 else 0)<=p.av.length:=by
 unfold Nod.fv;split
 .rename_i h1
  have b:=h.ask c h1;have e:(p.av.erase c).length=p.av.length-1:=p9 b;have f:0<p.av.length:=qo b;refine⟨{ h with wa:=?_,ask:=λd a=>?_ },by show(p.av.erase c).length+1<=_;omega⟩
  .show(p.av.erase c).length<=n;have:=h.wa;omega
  .unfold BW at a;simp only at a;split at a
   .cases a
   .rename_i hne;exact(qZ hne).2 (h.ask d a)
 .exact⟨h,A' _⟩
theorem GP(p:Nod)(c:Cmd):(p.fv c).up=p.up/\(p.fv c).bu=p.bu/\(p.fv c).ae=p.ae/\(p.fv c).done=p.done/\(p.fv c).ni=p.ni:=by
 unfold Nod.fv;split<;>exact⟨rfl,rfl,rfl,rfl,rfl⟩
theorem Yo(i:Nat)(l:List Cmd)(p:Nod)(a:List Tol)(h:NOk n p)(j:p.done+l.length<=p.ae.length) :
  NOk n (sq i l p a).1/\(sq i l p a).1.bu=p.bu/\(sq i l p a).1.ae=p.ae/\(sq i l p a).2.length+(sq i l p a).1.av.length<=a.length+p.av.length:=by
 induction l generalizing p a with
 | nil=>exact⟨h,rfl,rfl,A' _⟩
 | cons c l ih =>
  rw[sq];split
  .exact⟨h,rfl,rfl,A' _⟩
  .rw[nK]at j
   have g:NOk n { p with ni:=doS p.ni c,done:=p.done+1 }:={ h with dn:=by show p.done+1<=p.ae.length;omega };have e:=g.fv c;have b:=GP { p with ni:=doS p.ni c,done:=p.done+1 } c;obtain⟨k,m,o,q⟩:=ih (Nod.fv { p with ni:=doS p.ni c,done:=p.done+1 } c) (if(p.bN c).isSome=true then a++[⟨i,c.c,c.s,doC p.ni c,doA p.ni c⟩]else a) e.1 (by rw[b.2.2.2.1,b.2.2.1];show p.done+1+l.length<=p.ae.length;omega);refine⟨k,m.trans b.2.1,o.trans b.2.2.1,mS q ?_⟩;have d:=e.2;simp only at d;by_cases f:(p.bN c).isSome=true
   .rw[if_pos f]at d ⊢
    rw[G'];show a.length+1+_<=_;omega
   .rw[if_neg f]at d ⊢;omega
theorem NOk.piece(h:NOk n p)(f:i<5){ls:List Let}{ts:List Tol}(r:ls.length+AA p.bu<80000000)(k:∀ m∈ls,LOk m) :
  NOk n (p.piece i ls ts).1/\(∀ m∈(p.piece i ls ts).2.1,LOk m)/\(p.piece i ls ts).2.1.length+AA (p.piece i ls ts).1.bu<=ls.length+AA p.bu+10/\(p.piece i ls ts).2.2.length+(sq i (p.ae.drop p.done) p ts).1.av.length<=ts.length+p.av.length:=by
 have b:=Yo i (p.ae.drop p.done) p ts h (by rw[nc];have:=h.dn;omega);have a:=b.1.jv f;have d:=a.1.cx;have e:=d.1.qk f (ls:=ls++((sq i (p.ae.drop p.done) p ts).1.jv i).2) (by rw[G'];have:=d.2.1;have:=a.2.2.2.2;rw[a.2.1,b.2.1]at *;omega) (λm l=>by
  rcases P'.1 l with h|h
  .exact k m h
  .exact a.2.2.2.1 m h)
 have c:=e.1.bw f _ e.2.1;refine⟨c.1,c.2.2.1,?_,b.2.2.2⟩;have o:=c.2.2.2;have g:=e.2.2.1;have j:=d.2.1;have q:=a.2.2.2.2;rw[a.2.1,b.2.1]at j
 rw[G']at g
 show(Nod.bw _ i _).2.length+AA (Nod.bw _ i _).1.bu<=_;rw[c.2.1];omega
end
end
section
open Go.RowKit
section
variable{g:Gh}{ob:Nat}{w:World}
theorem Ug(M:∀ b,w.heap.size<=b->g.t b=.z/\g.k b=0) :
  Calls prog 53 #[] w λe w'=>∃ (b:Nat) (g':Gh),e=.returned (.map (some b))/\TkAt g' w' b 7/\Jr g' w'/\Cg w.heap.size [.n 70 0] g w g' w':=by
 refine gI (fn:=f53) [.n 70 0] g func53 M (qR [] 6 [] λX U Y F=>kx 0 (by kernel_rfl) (by kernel_rfl) ?_);intro a V Z N v q W;have G:=q w.heap.size [];refine Ie 1 (b:=a) v (by decide) (by kernel_rfl) (by kernel_rfl) (by kernel_rfl) ?_;intro w4 x r;have H:=r w.heap.size [.n 70 0] (D'.2 rfl);refine Ie 2 (b:=a) x (by decide) (by kernel_rfl) (by kernel_rfl) (by kernel_rfl) ?_;intro w6 y s;have I:=s w.heap.size [.n 70 0] (D'.2 rfl);refine Ie 3 (b:=a) y (by decide) (by kernel_rfl) (by kernel_rfl) (by kernel_rfl) ?_;intro w8 A u;have J:=u w.heap.size [.n 70 0] (D'.2 rfl);refine Ie 4 (b:=a) A (by decide) (by kernel_rfl) (by kernel_rfl) (by kernel_rfl) ?_;intro P B d;have l:=d w.heap.size [.n 70 0] (D'.2 rfl);refine Ie 5 (b:=a) B (by decide) (by kernel_rfl) (by kernel_rfl) (by kernel_rfl) ?_;intro Q C h;have m:=h w.heap.size [.n 70 0] (D'.2 rfl);refine Ie 6 (b:=a) C (by decide) (by kernel_rfl) (by kernel_rfl) (by kernel_rfl) ?_;intro R D i;have o:=i w.heap.size [.n 70 0] (D'.2 rfl);refine Ie 7 (b:=a) D (by decide) (by kernel_rfl) (by kernel_rfl) (by kernel_rfl) ?_;intro S E j;have p:=j w.heap.size [.n 70 0] (D'.2 rfl);refine qR [] 3 [] λO L T c=>qE (.map (some a)) λK=>⟨a,_,rfl,(E.ch c),K.new,((((((((((F.nil [.n 70 0]).n G).trans H).trans I).trans J).trans l).trans m).trans o).trans p).n c)⟩
theorem L2{q s:Nat}{nb:Nat->Nat}{M:Meet}(h:MS q s ob nb g w M){w0:World}(hB:Base w0 g w)(hT:Tabs w0)(y:Nat)(l:Let)(hl:CP g w y l)(H:LOk l){n:Nat}(u:NOk n (M.ab l.dst))(v:(M.ab l.dst).bu.length<100000000) :
  Calls prog 103 #[pt q 0,pt y 0] w (MP q s ob nb g w (.tuple #[]) (M.pd l)):=by
 have o:=hl;obtain⟨O,src,dst,A,cl,j,p,d⟩:=l;have hs:src<5:=H.src;have m:dst<5:=H.dst;have a7:O<7:=H.kd;have b6:d.length<=40:=H.wh;simp only at u v;obtain⟨x,hN⟩:=h.ab dst m;have b5:=u.ag;refine gI (fn:=f103) TM g func103 h.new (Cq ⟨q,_,.z,false⟩ (λ_=>⟨h.box.r,h.box.z,λh=>(by cases h),λh=>absurd rfl h⟩) (by kernel_rfl) ?_);obtain⟨vs,wh,a8,d2,d3⟩:=hl;refine Cq ⟨y,.cells (FF (Let.mk O src dst A cl j p d) vs wh) 183,.z,false⟩ (λ_=>⟨a8.r,a8.z,λh=>(by cases h),λh=>absurd rfl h⟩) (by kernel_rfl) ?_;refine qR [] 9 [10,0,2,4,6,8,1,10,12] λs1 g1 w1 a=>?_;refine Q5 7 (pt q dst) false (λW hW=>(by rcases se m with rfl|rfl|rfl|rfl|rfl<;>kernel_rfl)) (by kernel_rfl) ?_;refine qU 8 (pt (nb dst) 0) (λW hW=>(Da underlying116 rfl (UR (AR.at (hW rfl) 0 q (.cells (mtA nb ob s) 119) .z (by kernel_rfl)) m))) (qR [] 7 [18] λs3 g3 w3 b=>?_);have b4:=hN.ch (a.trans b);refine qN b4 (qR [] 2 [2] λs4 g4 w4 c=>?_);by_cases h1:(M.ab dst).up=true
 .refine qI ((M.ab dst).up) true h1 ?_;have J:=h.tk.ch ((a.trans b).trans c) (by simp);refine I7 s _ 70 0 J.row J.t J.k (by kernel_rfl) ?_;rw[show M.pd (Let.mk O src dst A cl j p d)=M.set dst ((M.ab dst).take (Let.mk O src dst A cl j p d)) M.br M.ed from if_pos h1];refine qR [] 9 [11,0,2,4,6,0,8,10,12,14,1] λs5 g5 w5 e=>qU 8 (tkV O) (λW hW=>(rTk (AR.at (hW rfl) 3 s (.map (tkL 7).toArray 7) (.n 70 0) (by kernel_rfl)) a7)) (qR [] 2 [18,20] λs6 I L i=>?_);rcases aM a7 with rfl|rfl|rfl|rfl|rfl|rfl|rfl
  .refine Af λK=>?_;have N7:MS q s ob nb I L M:=(h.sr ((((a.trans b).trans c).trans e).trans i) K.new);refine qG 11 TM [true,true,false,false] ((N7).call m (Jg ((N7).ns m) (hB.ch (((((a.nil TM).n b).n c).n e).n i) F4) hT y _ (o.ch ((((a.trans b).trans c).trans e).trans i) (by simp)) rfl v)) ?_;rintro N w7 ⟨g7,rfl,M7,c7⟩;refine⟨_,g7,rfl,c7,M7.new,?_⟩;replace c7:=c7.ret (B:=w.heap.size);refine qR [] 1 [] λs8 g8 w8 c8=>qE (.tuple #[]) λK=>⟨_,rfl,(M7.sr c8 K.new),(((((((a.nil TM).n b).n c).n e).n i).trans (c7)).n c8)⟩
  .refine Af λK=>?_;have N9:MS q s ob nb I L M:=(h.sr ((((a.trans b).trans c).trans e).trans i) K.new);refine qG 11 TM [true,true,false,false] ((N9).call m (KP ((N9).ns m) (hB.ch (((((a.nil TM).n b).n c).n e).n i) F4) hT y _ (o.ch ((((a.trans b).trans c).trans e).trans i) (by simp)) rfl hs (by show((M.ab dst).ae++d.drop ((M.ab dst).ae.length-0)).length<=40;rw[G',nc];omega) b6 (qj (u.he src).len (by decide)))) ?_;rintro N w9 ⟨g9,rfl,M9,c9⟩;refine⟨_,g9,rfl,c9,M9.new,?_⟩;replace c9:=c9.ret (B:=w.heap.size);refine qR [] 1 [] λd4 b7 e1 a0=>qE (.tuple #[]) λK=>⟨_,rfl,(M9.sr a0 K.new),(((((((a.nil TM).n b).n c).n e).n i).trans (c9)).n a0)⟩
  .refine Af λK=>?_;have U:MS q s ob nb I L M:=(h.sr ((((a.trans b).trans c).trans e).trans i) K.new);refine qG 11 TM [true,true,false,false] ((U).call m (KQ ((U).ns m) y _ (o.ch ((((a.trans b).trans c).trans e).trans i) (by simp)))) ?_;rintro N e2 ⟨a9,rfl,P,C⟩;refine⟨_,a9,rfl,C,P.new,?_⟩;replace C:=C.ret (B:=w.heap.size);refine qR [] 1 [] λd5 b8 e3 a1=>qE (.tuple #[]) λK=>⟨_,rfl,(P.sr a1 K.new),(((((((a.nil TM).n b).n c).n e).n i).trans (C)).n a1)⟩
  .refine Af λK=>?_;have V:MS q s ob nb I L M:=(h.sr ((((a.trans b).trans c).trans e).trans i) K.new);refine qG 11 TM [true,true,false,false] ((V).call m (JS ((V).ns m) (hB.ch (((((a.nil TM).n b).n c).n e).n i) F4) hT y _ (o.ch ((((a.trans b).trans c).trans e).trans i) (by simp)) rfl v (by have:=u.vs.len;omega))) ?_;rintro N e4 ⟨b0,rfl,Q,D⟩;refine⟨_,b0,rfl,D,Q.new,?_⟩;replace D:=D.ret (B:=w.heap.size);refine qR [] 1 [] λd6 b9 e5 a2=>qE (.tuple #[]) λK=>⟨_,rfl,(Q.sr a2 K.new),(((((((a.nil TM).n b).n c).n e).n i).trans (D)).n a2)⟩
  .refine Af λK=>?_;have X:MS q s ob nb I L M:=(h.sr ((((a.trans b).trans c).trans e).trans i) K.new);refine qG 11 TM [true,true,false,false] ((X).call m (PL ((X).ns m) (hB.ch (((((a.nil TM).n b).n c).n e).n i) F4) hT y _ (o.ch ((((a.trans b).trans c).trans e).trans i) (by simp)) hs b5)) ?_;rintro N e6 ⟨b1,rfl,R,E⟩;refine⟨_,b1,rfl,E,R.new,?_⟩;replace E:=E.ret (B:=w.heap.size);refine qR [] 1 [] λd7 c0 e7 a3=>qE (.tuple #[]) λK=>⟨_,rfl,(R.sr a3 K.new),(((((((a.nil TM).n b).n c).n e).n i).trans (E)).n a3)⟩
  .refine Af λK=>?_;have Y:MS q s ob nb I L M:=(h.sr ((((a.trans b).trans c).trans e).trans i) K.new);refine qG 11 TM [true,true,false,false] ((Y).call m (PK ((Y).ns m) y _ (o.ch ((((a.trans b).trans c).trans e).trans i) (by simp)) rfl v (by omega) (by show d.length<_;omega))) ?_;rintro N e8 ⟨b2,rfl,S,F⟩;refine⟨_,b2,rfl,F,S.new,?_⟩;replace F:=F.ret (B:=w.heap.size);refine qR [] 1 [] λd8 c2 e9 a4=>qE (.tuple #[]) λK=>⟨_,rfl,(S.sr a4 K.new),(((((((a.nil TM).n b).n c).n e).n i).trans (F)).n a4)⟩
  .refine Af λK=>?_;have Z:MS q s ob nb I L M:=(h.sr ((((a.trans b).trans c).trans e).trans i) K.new);refine qG 11 TM [true,true,false,false] ((Z).call m (MN ((Z).ns m) y _ (o.ch ((((a.trans b).trans c).trans e).trans i) (by simp)) rfl v (by show d.length<_;omega) u.qu)) ?_;rintro N f0 ⟨b3,rfl,T,G⟩;refine⟨_,b3,rfl,G,T.new,?_⟩;replace G:=G.ret (B:=w.heap.size);refine qR [] 1 [] λd9 d0 f1 a5=>qE (.tuple #[]) λK=>⟨_,rfl,(T.sr a5 K.new),(((((((a.nil TM).n b).n c).n e).n i).trans (G)).n a5)⟩
 .refine qI ((M.ab dst).up) false (by simpa using h1) (qR [] 1 [] λe0 d1 f2 a6=>qE (.tuple #[]) λK=>?_);rw[show M.pd (Let.mk O src dst A cl j p d)=M from if_neg h1];exact⟨_,rfl,(h.sr (((a.trans b).trans c).trans a6) K.new),((((a.nil TM).n b).n c).n a6)⟩
def nx0(b:Nat):NX:=NX.mk s30 s30 s30 s30 s30 s30 (λ_=>s30) (some b)
theorem QO{i nb b:Nat}(d:w.heap[nb]?=some (.cells (AJ i ob CY (nx0 b)) 136))(e:g.t nb=.n 0 i)(c:g.k nb=0)(a:AskAt g w (.n 5 i) b (λ_=>none)):NodeAt g w i nb ob (nx0 b) CY :=
 ⟨d,e,c,⟨⟨⟨none,0,rfl,A' _,λ_=>rfl,.inl rfl⟩,by simp[CY],by simp[CY]⟩,λh=>absurd rfl h⟩,⟨Sv.nil _,λh=>absurd rfl h⟩,λ_ _=>⟨Sv.nil _,λh=>absurd rfl h⟩,⟨[],OwnS.nil _ _ _ _ _ _,Pends.nil _ _ _⟩,OwnS.nil _ _ _ _ _ _,OwnS.nil _ _ _ _ _ _,OwnS.nil _ _ _ _ _ _,a,λ_=>⟨b,rfl⟩⟩
def nbF(a b c d e:Nat):Nat->Nat
 | 0=>a
 | 1=>b
 | 2=>c
 | 3=>d
 | _=>e
theorem Me(hg:∀ b,w.heap.size<=b->g.t b=.z/\g.k b=0) :
  Calls prog 34 #[] w λe w'=>∃ (mb tb ob:Nat) (nb:Nat->Nat) (g':Gh),e=.returned (pt mb 0)/\MS mb tb ob nb g' w' Ao/\Cg w.heap.size [.n 70 0] g w g' w':=by
 refine gI (fn:=f34) [.n 70 0] g func34 hg (qR [] 8 [52,0] λa g1 w1 c1=>Af λK=>qG 2 [.n 70 0] [true] (Ug K.new) ?_);rintro R w2 ⟨tb,g2,rfl,A2,n2,T⟩;refine⟨_,g2,rfl,T,n2,?_⟩;replace T:=T.ret (B:=w.heap.size);refine qR [] 10 [1,0] λs3 g3 w3 c3=>gd 5 27 [(1,pt (s3 0) 0),(8,iv 0)] [true,true] [⟨(a 0),.cells #[sn,sn] 113,.n 50 0,false⟩,⟨(s3 0),.cells #[.pointer none,.pointer none,.pointer none,.pointer none,.pointer none,pt (a 0) 0,.map (some tb)] 119,.l,false⟩] (by kernel_rfl) (by kernel_rfl) (by kernel_rfl) (by kernel_rfl) λN E z=>qR [] 25 [14,0,2,4,6,8,10,12,1,14,22,24] λs5 g5 w5 c5=>Af λK=>qG 8 [] [true,true] (Bg 0 K.new Em s30) ?_;rintro R w6 ⟨L,g6,rfl,A6,n6,Q⟩;refine⟨_,g6,rfl,Q,n6,?_⟩;replace Q:=Q.ret (B:=w.heap.size);refine qR [] 10 [18,21,2,0,26,29,1,0] λA g7 w7 X=>EP (N 5) 27 [(1,pt (s3 0) 0),(8,iv 1)] [true,true,true] [⟨(a 0),.cells #[sn,sn] 113,.n 50 0,false⟩,⟨(s3 0),.cells #[pt (A 0) 0,.pointer none,.pointer none,.pointer none,.pointer none,pt (a 0) 0,.map (some tb)] 119,.l,false⟩,⟨(A 0),.cells (AJ 0 (a 0) CY (nx0 L)) 136,.n 0 0,false⟩] (by kernel_rfl) (by kernel_rfl) (by kernel_rfl) (by kernel_rfl) (by kernel_rfl) λz S K=>E 4 _ _ _ _ _ ?_ K;refine qR [] 25 [14,0,2,4,6,8,10,12,1,14,22,24] λs8 g8 w8 Y=>Af λK=>qG 8 [] [true,true,true] (Bg 1 K.new Em s30) ?_;rintro R w9 ⟨P,g9,rfl,A9,n9,M⟩;refine⟨_,g9,rfl,M,n9,?_⟩;replace M:=M.ret (B:=w.heap.size);refine qR [] 10 [18,21,2,1,26,29,1,0] λc a5 c0 H=>EP (N 4) 27 [(1,pt (s3 0) 0),(8,iv 2)] [true,true,true,true] [⟨(a 0),.cells #[sn,sn] 113,.n 50 0,false⟩,⟨(s3 0),.cells #[pt (A 0) 0,pt (c 0) 0,.pointer none,.pointer none,.pointer none,pt (a 0) 0,.map (some tb)] 119,.l,false⟩,⟨(A 0),.cells (AJ 0 (a 0) CY (nx0 L)) 136,.n 0 0,false⟩,⟨(c 0),.cells (AJ 1 (a 0) CY (nx0 P)) 136,.n 0 1,false⟩] (by kernel_rfl) (by kernel_rfl) (by kernel_rfl) (by kernel_rfl) (by kernel_rfl) λz S K=>E 3 _ _ _ _ _ ?_ K;refine qR [] 25 [14,0,2,4,6,8,10,12,1,14,22,24] λb4 a6 c4 I=>Af λK=>qG 8 [] [true,true,true,true] (Bg 2 K.new Em s30) ?_;rintro R d0 ⟨G,Z,rfl,U,a2,p⟩;refine⟨_,Z,rfl,p,a2,?_⟩;replace p:=p.ret (B:=w.heap.size);refine qR [] 10 [18,21,2,2,26,29,1,0] λj a7 d1 C=>EP (N 3) 27 [(1,pt (s3 0) 0),(8,iv 3)] [true,true,true,true,true] [⟨(a 0),.cells #[sn,sn] 113,.n 50 0,false⟩,⟨(s3 0),.cells #[pt (A 0) 0,pt (c 0) 0,pt (j 0) 0,.pointer none,.pointer none,pt (a 0) 0,.map (some tb)] 119,.l,false⟩,⟨(A 0),.cells (AJ 0 (a 0) CY (nx0 L)) 136,.n 0 0,false⟩,⟨(c 0),.cells (AJ 1 (a 0) CY (nx0 P)) 136,.n 0 1,false⟩,⟨(j 0),.cells (AJ 2 (a 0) CY (nx0 G)) 136,.n 0 2,false⟩] (by kernel_rfl) (by kernel_rfl) (by kernel_rfl) (by kernel_rfl) (by kernel_rfl) λz S K=>E 2 _ _ _ _ _ ?_ K;refine qR [] 25 [14,0,2,4,6,8,10,12,1,14,22,24] λb5 a8 d2 D=>Af λK=>qG 8 [] [true,true,true,true,true] (Bg 3 K.new Em s30) ?_;rintro R d3 ⟨J,a0,rfl,V,a3,o⟩;refine⟨_,a0,rfl,o,a3,?_⟩;replace o:=o.ret (B:=w.heap.size);refine qR [] 10 [18,21,2,3,26,29,1,0] λu a9 d4 x=>EP (N 2) 27 [(1,pt (s3 0) 0),(8,iv 4)] [true,true,true,true,true,true] [⟨(a 0),.cells #[sn,sn] 113,.n 50 0,false⟩,⟨(s3 0),.cells #[pt (A 0) 0,pt (c 0) 0,pt (j 0) 0,pt (u 0) 0,.pointer none,pt (a 0) 0,.map (some tb)] 119,.l,false⟩,⟨(A 0),.cells (AJ 0 (a 0) CY (nx0 L)) 136,.n 0 0,false⟩,⟨(c 0),.cells (AJ 1 (a 0) CY (nx0 P)) 136,.n 0 1,false⟩,⟨(j 0),.cells (AJ 2 (a 0) CY (nx0 G)) 136,.n 0 2,false⟩,⟨(u 0),.cells (AJ 3 (a 0) CY (nx0 J)) 136,.n 0 3,false⟩] (by kernel_rfl) (by kernel_rfl) (by kernel_rfl) (by kernel_rfl) (by kernel_rfl) λz S K=>E 1 _ _ _ _ _ ?_ K;refine qR [] 25 [14,0,2,4,6,8,10,12,1,14,22,24] λb7 b0 d5 y=>Af λK=>qG 8 [] [true,true,true,true,true,true] (Bg 4 K.new Em s30) ?_;rintro R d6 ⟨O,a1,rfl,W,a4,d⟩;refine⟨_,a1,rfl,d,a4,?_⟩;replace d:=d.ret (B:=w.heap.size);refine qR [] 10 [18,21,2,4,26,29,1,0] λF b1 d7 q=>EP (N 1) 27 [(1,pt (s3 0) 0),(8,iv 5)] [true,true,true,true,true,true,true] [⟨(a 0),.cells #[sn,sn] 113,.n 50 0,false⟩,⟨(s3 0),.cells #[pt (A 0) 0,pt (c 0) 0,pt (j 0) 0,pt (u 0) 0,pt (F 0) 0,pt (a 0) 0,.map (some tb)] 119,.l,false⟩,⟨(A 0),.cells (AJ 0 (a 0) CY (nx0 L)) 136,.n 0 0,false⟩,⟨(c 0),.cells (AJ 1 (a 0) CY (nx0 P)) 136,.n 0 1,false⟩,⟨(j 0),.cells (AJ 2 (a 0) CY (nx0 G)) 136,.n 0 2,false⟩,⟨(u 0),.cells (AJ 3 (a 0) CY (nx0 J)) 136,.n 0 3,false⟩,⟨(F 0),.cells (AJ 4 (a 0) CY (nx0 O)) 136,.n 0 4,false⟩] (by kernel_rfl) (by kernel_rfl) (by kernel_rfl) (by kernel_rfl) (by kernel_rfl) λz S K=>E 0 _ _ _ _ _ ?_ K;refine qR [] 12 [] λb8 b2 d8 r=>kw 1 (s3 0) (by kernel_rfl) λb3 s=>qE (pt (s3 0) 0) λK=>⟨(s3 0),tb,(a 0),(nbF (A 0) (c 0) (j 0) (u 0) (F 0)),_,rfl,?_,((((((((((((((((((((c1.nil [.n 70 0]).trans T).n c3).n c5).n Q).n X).n Y).n M).n H).n I).n p).n C).n D).n o).n x).n y).n d).n q).n r).n s)⟩;obtain⟨z1,z2⟩:=K.sI 1 (s3 0) (.cells (mtA (nbF (A 0) (c 0) (j 0) (u 0) (F 0)) (a 0) tb) 119) false (by kernel_rfl);obtain⟨o1,o2,o3⟩:=K.sJ 0 (a 0) (.cells #[S3.v s30,S3.v s30] 113) 50 0 (by kernel_rfl);obtain⟨q0,r0,t0⟩:=K.sJ 2 (A 0) (.cells (AJ 0 (a 0) CY (nx0 L)) 136) 0 0 (by kernel_rfl);obtain⟨q1,r1,t1⟩:=K.sJ 3 (c 0) (.cells (AJ 1 (a 0) CY (nx0 P)) 136) 0 1 (by kernel_rfl);obtain⟨q2,r2,t2⟩:=K.sJ 4 (j 0) (.cells (AJ 2 (a 0) CY (nx0 G)) 136) 0 2 (by kernel_rfl);obtain⟨q3,r3,t3⟩:=K.sJ 5 (u 0) (.cells (AJ 3 (a 0) CY (nx0 J)) 136) 0 3 (by kernel_rfl);obtain⟨q4,r4,t4⟩:=K.sJ 6 (F 0) (.cells (AJ 4 (a 0) CY (nx0 O)) 136) 0 4 (by kernel_rfl);refine⟨⟨z1,z2⟩,((((((((((((((((((A2.ch c3).ch c5).ch Q).ch X).ch Y).ch M).ch H).ch I).ch p).ch C).ch D).ch o).ch x).ch y).ch d).ch q).ch r).ch s),λi hi=>?_,⟨s30,s30,o1,o2,o3,⟨[],OwnS.nil _ _ _ _ _ _,⟨rfl,λk b m h=>(by cases h)⟩⟩,OwnS.nil _ _ _ _ _ _⟩,K.new⟩;rcases se hi with rfl|rfl|rfl|rfl|rfl
 .exact⟨_,QO q0 r0 t0 (((((((((((((((A6.ch X).ch Y).ch M).ch H).ch I).ch p).ch C).ch D).ch o).ch x).ch y).ch d).ch q).ch r).ch s)⟩
 .exact⟨_,QO q1 r1 t1 ((((((((((((A9.ch H).ch I).ch p).ch C).ch D).ch o).ch x).ch y).ch d).ch q).ch r).ch s)⟩
 .exact⟨_,QO q2 r2 t2 (((((((((U.ch C).ch D).ch o).ch x).ch y).ch d).ch q).ch r).ch s)⟩
 .exact⟨_,QO q3 r3 t3 ((((((V.ch x).ch y).ch d).ch q).ch r).ch s)⟩
 .exact⟨_,QO q4 r4 t4 (((W.ch q).ch r).ch s)⟩
end
section
variable{P:Program}{B:Nat}{T:List Tg}{g:Gh}{w:World}
section
variable{x:S3}{xs:List Value}{τ:Tg}
theorem OwnS.tP{e:TypeId}{d:Nat}(h:OwnS g w τ false e d x xs){k:Nat}(f:k<=x.n)(i:0<x.n):OwnS g w τ false e d ⟨x.a,k,x.c⟩ (xs.take (k*d)):=by
 have l:=h.len;have j:k*d<=x.n*d:=pu _ f;refine⟨by rw[j'];show min _ _=k*d;omega,?_⟩;rcases h.ex with⟨h1,h2,h3⟩|⟨b,cur,h1,h2,h3,h4,h5,h6,h7,h8⟩
 .omega
 .refine .inr ⟨b,cur,h1,h2,mS f h3,h4,h5,?_,h7,h8⟩;show cur.toList.take (k*d)=xs.take (k*d);rw[<- h6,pL,oC j]
theorem jW(t A e:TypeId)(i:TypeInfo)(I:P.underlying t=some (.slice e))(E:P.info? e=some i)(s:τ∈T)(z:OwnS g w τ false e i.size x xs)(a:Addr)(m c:Nat)(news:List Value)(G:0<x.c)(r:news.length=m*i.size)(l:∀ j u,news[j]?=some u->w.cell? (a.add j)=some u)(C:∀ u∈news,u.oneCell'=true)(f:x.n+m<=x.c) :
  ∃ w',(Builtin.append_ #[t,t] A #[x.v,.slice (some a) m c]).run P w=.ok (S3.v ⟨x.a,x.n+m,x.c⟩) w'/\OwnS g w' τ false e i.size ⟨x.a,x.n+m,x.c⟩ (xs++news)/\Cg B T g w g w'/\w'.heap.size=w.heap.size:=by
 obtain⟨K,y,J⟩:=x;have h:(xs++news).length=(y+m)*i.size:=by rw[G',z.len,r,qx]
 rcases z.ex with⟨h2,h3,h4⟩|⟨b,cur,h2,h3,h4,h5,h6,h7,h8,h9⟩
 .simp only at h4 f G;omega
 .simp only at h2 h4 h5 h6 h7 f;subst h2;have p:y*i.size+news.length<=cur.size:=by rw[r,h6,<- qx];exact pu _ f
  have H:=run_append_room (P:=P) w t A e i I E b y J cur h3 a m c news r l C f p;have o:g.k b=0:=by simpa using h9
  refine⟨_,H,⟨h,.inr ⟨b,_,rfl,setRow_heap w b cur _ e _ h3,f,h5,?_,?_,h8,by rw[o];rfl⟩⟩,⟨rfl,rfl,rfl,by simp,λ_ _=>.inl rfl,λ_ _=>A' _,λ_ _ _ _=>rfl,λd D q _=>setRow_other w b d _ (λe=>q (by rw[e,h8];exact s)),λd D j F=>?_⟩,by simp⟩
  .simp only[px,G',j',nc,oM];omega
  .rw[h7,<- h];exact rE
  .exact World.cell?_of_block (w:=w) (setRow_other w b d _ (λe=>by rw[e,o]at F;omega))
theorem ki(t J e:TypeId)(z:Value)(f:Nat)(H:P.underlying t=some (.slice e))(I:∀ w,(zeroValue e).run P w=.ok z w)(r:z.cells.size=f)(A:0<f)(C:∀ j,j<f->(z.cells[j]!).oneCell'=true)(D:τ∈T)(E:OwnS g w τ false e f x xs){b:Nat}(s:x.a=some ⟨b,0,none⟩)(k c:Nat)(K:0<k)(i:x.n+k<=x.c) :
  ∃ w',(Builtin.clear_ #[t] J #[.slice (some ⟨b,x.n*f,none⟩) k c]).run P w=.ok (.tuple #[]) w'/\OwnS g w' τ false e f x xs/\Cg B T g w g w'/\w'.heap.size=w.heap.size:=by
 rcases E.ex with⟨h2,h3,h4⟩|⟨b',cur,h2,h3,h4,h5,h6,h7,h8,h9⟩
 .rw[h2]at s;cases s
 .rw[s]at h2
  simp only[Z',Addr.mk.injEq,and_true]at h2;subst h2;have u:g.k b=0:=by simpa using h9
  have l:(Builtin.zeroCells z.cells k).toList.length=k*f:=by rw[oM,size_zeroCells,r]
  have h:x.n*f+0+(Builtin.zeroCells z.cells k).toList.length<=cur.size:=by rw[l,h6,pC,<- qx];exact pu _ i
  have o:∀ v∈(Builtin.zeroCells z.cells k).toList,v.oneCell'=true:=by
   intro v q;simp only[Builtin.zeroCells,Array.toList_map,nw]at q;obtain⟨j,_,rfl⟩:=q;exact C _ (by rw[r];exact Nat.mod_lt _ A)
  have p:=run_storeCells_at (P:=P) b (x.n*f) e (Builtin.zeroCells z.cells k).toList 0 cur w h3 h o;simp only[pC]at p;obtain⟨m,rfl⟩:∃ m,k=m+1:=⟨k-1,by omega⟩;refine⟨_,by simp only[Builtin.clear_,nV,oE,Sem.run_bind,run_underlying H,Result.andThen_ok,I,p];rfl,⟨E.len,.inr ⟨b,_,s,setRow_heap w b cur _ e _ h3,h4,h5,?_,?_,h8,h9⟩⟩,⟨rfl,rfl,rfl,by simp,λ_ _=>.inl rfl,λ_ _=>A' _,λ_ _ _ _=>rfl,λd F y _=>setRow_other w b d _ (λe=>y (by rw[e,h8];exact D)),λd F j G=>?_⟩,by simp⟩
  .rw[l]at h ⊢
   simp only[px,G',j',nc,oM,l];simp only[pC]at h;omega
  .have hle:x.n*f<=cur.toList.length:=by rw[oM,h6];exact pu _ h4
   show(cur.toList.take (x.n*f)++_++_).take (x.n*f)=xs;rw[mY,nv (by rw[j'];omega),pL,Nat.min_self,h7]
  .exact World.cell?_of_block (w:=w) (setRow_other w b d _ (λe=>by rw[e,u]at G;omega))
end
end
section
variable{fn:Func}{R:Ending->World->Prop}{B:Nat}{T:List Tg}{g:Gh}{w W:World}
section
theorem K7(b o k:Nat):(⟨b,o,none⟩:Addr).add k=⟨b,o+k,none⟩:=by
 unfold Addr.add;split
 .rename_i h;simp[]
 .rfl
theorem mE(b n c l h m:Nat)(a:l<=h)(d:h<=m)(e:m<=c)(f:l<m):(Instr.sliceAt 45 (.slice (some ⟨b,0,none⟩) n c) (some (iv (l:Int))) (some (iv (h:Int))) (some (iv (m:Int)))).run prog W=.ok (.slice (some ⟨b,l*5,none⟩) (h-l) (m-l)) W:=by
 rw[run_sliceAt_slice _ _ _ _ _ _ unC,run_slice_lhm (P:=prog) (w:=W) _ _ _ _ unC .i64 .i64 .i64 l h m (by omega) (by omega) (by omega) (by omega),sz5];simp[Result.andThen,sliced,K7];omega
theorem mD(b n c l h:Nat)(a:l<=h)(d:h<=c)(e:l<c):(Instr.sliceAt 45 (.slice (some ⟨b,0,none⟩) n c) (some (iv (l:Int))) (some (iv (h:Int))) none).run prog W=.ok (.slice (some ⟨b,l*5,none⟩) (h-l) (c-l)) W:=by
 rw[run_sliceAt_slice _ _ _ _ _ _ unC,run_slice_lh (P:=prog) (w:=W) _ _ _ _ unC .i64 .i64 l h (by omega) (by omega) (by omega),sz5];simp[Result.andThen,sliced,K7];omega
theorem mF(b n c h:Nat)(a:h<=c):(Instr.sliceAt 45 (.slice (some ⟨b,0,none⟩) n c) none (some (iv (h:Int))) none).run prog W=.ok (.slice (some ⟨b,0,none⟩) h c) W:=by
 rw[run_sliceAt_slice _ _ _ _ _ _ unC,run_slice_h (P:=prog) (w:=W) _ _ _ _ unC .i64 h (by omega) (by omega),sz5];simp[Result.andThen,sliced,K7]
theorem mG(b n c l:Nat)(a:l<=n):(Instr.sliceAt 45 (.slice (some ⟨b,0,none⟩) n c) (some (iv (l:Int))) none none).run prog W=.ok (.slice (some ⟨b,if c=l then 0 else l*5,none⟩) (n-l) (c-l)) W:=by
 rw[run_sliceAt_slice _ _ _ _ _ _ unC,run_slice_l (P:=prog) (w:=W) _ _ _ _ unC .i64 l (by omega) (by omega),sz5];simp[Result.andThen,sliced,K7];split<;>simp
variable{s:Xs}
theorem ko(p:Nat){τ:Tg}{x:S3}{J:List Value}(I:TypeId)(a:Addr)(m c:Nat)(news:List Value)(W:OwnS g w τ false 24 5 x J)(e:Ds s p=some (Builtin.append_ #[45,45] I #[x.v,.slice (some a) m c]>>=λv=>pure (.value v)))(A:(nxt s p undef s.L).o.map Ob.l'=(nxt s p undef s.L).o.map Ob.r')(r:s.L.all (λy=>[τ].all λt=>y.t.ne t)=true)(S:0<x.c)(Q:news.length=m*5)(K:∀ u∈news,u.oneCell'=true)(f:∀ j u,news[j]?=some u->w.cell? (a.add j)=some u)(h:x.n+m<=x.c)(O:∀ w',OwnS g w' τ false 24 5 ⟨x.a,x.n+m,x.c⟩ (J++news)->(∀ B T,τ∈T->Cg B T g w g w')->w'.heap.size=w.heap.size->GG prog fn R B T (nxt s p (S3.v ⟨x.a,x.n+m,x.c⟩) s.L).s g w'):GG prog fn R B T s g w:=by
 refine KE p s.L A (BU e) λG X i o C=>?_;obtain⟨d,N,k⟩:∃ d,prog.info? 24=some d/\d.size=5:=by
  have q:(prog.info? 24).map (·.size)=some 5:=by kernel_rfl
  cases hh:prog.info? 24 with
  | none=>rw[hh]at q;cases q
  | some v=>rw[hh]at q;exact⟨v,rfl,by simpa using q⟩
 obtain⟨w',U,D,M,E⟩:=jW (P:=prog) (B:=w.heap.size) (T:=[τ]) 45 I 24 d underlying45 N (D'.2 rfl) (by rw[k];exact W) a m c news S (by rw[k];exact Q) f K h;rw[k]at D
 have F:∀ B T,τ∈T->Cg B T g w g w':=λB T r=>(M.ret (B:=B)).mono λt V=>by rw[D'.1 V];exact r
 refine⟨S3.v ⟨x.a,x.n+m,x.c⟩,w',g,.inl ?_,G.ch (F _ [τ] (D'.2 rfl)) (λb H=>G.new b (by rw[E]at H;exact H)) r,O w' D F E⟩;rw[D1 e C,Sem.run_bind,U,Result.andThen_ok];rfl
theorem mn(w:World):(zeroValue 24).run prog w=.ok (.agg #[iv 0,iv 0,iv 0,iv 0,iv 0]) w:=by kernel_rfl
theorem m5(f:Nat){τ:Tg}{x:S3}{E:List Value}(D:TypeId){b:Nat}(h:x.a=some ⟨b,0,none⟩)(k c:Nat)(M:OwnS g w τ false 24 5 x E)(d:Ds s f=some (Builtin.clear_ #[45] D #[.slice (some ⟨b,x.n*5,none⟩) k c]>>=λv=>pure (.value v)))(q:(nxt s f undef s.L).o.map Ob.l'=(nxt s f undef s.L).o.map Ob.r')(m:s.L.all (λy=>[τ].all λt=>y.t.ne t)=true)(p:0<k)(e:x.n+k<=x.c)(I:∀ w',OwnS g w' τ false 24 5 x E->(∀ B T,τ∈T->Cg B T g w g w')->w'.heap.size=w.heap.size->GG prog fn R B T (nxt s f (.tuple #[]) s.L).s g w'):GG prog fn R B T s g w:=by
 refine KE f s.L q (BU d) λC N i o r=>?_;obtain⟨w',J,F,G,u⟩:=ki (P:=prog) (B:=w.heap.size) (T:=[τ]) 45 D 24 (.agg #[iv 0,iv 0,iv 0,iv 0,iv 0]) 5 underlying45 mn rfl (by decide) (λj H=>by rcases se H with rfl|rfl|rfl|rfl|rfl<;>rfl) (D'.2 rfl) M h k c p e;have A:∀ B T,τ∈T->Cg B T g w g w':=λB T m=>(G.ret (B:=B)).mono λt K=>by rw[D'.1 K];exact m
 refine⟨.tuple #[],w',g,.inl ?_,C.ch (A _ [τ] (D'.2 rfl)) (λb h=>C.new b (by rw[u]at h;exact h)) m,I w' F A u⟩;rw[D1 d r,Sem.run_bind,J,Result.andThen_ok];rfl
end
end
theorem sz1{W:World}:(Go.sizeOf (prog.elem 111)).run prog W=.ok 1 W:=by kernel_rfl
theorem unL:prog.underlying 111=some (.slice (prog.elem 111)):=by kernel_rfl
section
variable{fn:Func}{R:Ending->World->Prop}{B:Nat}{T:List Tg}{g:Gh}{w W:World}
section
theorem lG(b n c l h m:Nat)(a:l<=h)(d:h<=m)(e:m<=c)(f:l<m):(Instr.sliceAt 111 (.slice (some ⟨b,0,none⟩) n c) (some (iv (l:Int))) (some (iv (h:Int))) (some (iv (m:Int)))).run prog W=.ok (.slice (some ⟨b,l*1,none⟩) (h-l) (m-l)) W:=by
 rw[run_sliceAt_slice _ _ _ _ _ _ unL,run_slice_lhm (P:=prog) (w:=W) _ _ _ _ unL .i64 .i64 .i64 l h m (by omega) (by omega) (by omega) (by omega),sz1];simp[Result.andThen,sliced,K7];omega
theorem lF(b n c l h:Nat)(a:l<=h)(d:h<=c)(e:l<c):(Instr.sliceAt 111 (.slice (some ⟨b,0,none⟩) n c) (some (iv (l:Int))) (some (iv (h:Int))) none).run prog W=.ok (.slice (some ⟨b,l*1,none⟩) (h-l) (c-l)) W:=by
 rw[run_sliceAt_slice _ _ _ _ _ _ unL,run_slice_lh (P:=prog) (w:=W) _ _ _ _ unL .i64 .i64 l h (by omega) (by omega) (by omega),sz1];simp[Result.andThen,sliced,K7];omega
theorem lI(b n c h:Nat)(a:h<=c):(Instr.sliceAt 111 (.slice (some ⟨b,0,none⟩) n c) none (some (iv (h:Int))) none).run prog W=.ok (.slice (some ⟨b,0,none⟩) h c) W:=by
 rw[run_sliceAt_slice _ _ _ _ _ _ unL,run_slice_h (P:=prog) (w:=W) _ _ _ _ unL .i64 h (by omega) (by omega),sz1];simp[Result.andThen,sliced,K7]
theorem lJ(b n c l:Nat)(a:l<=n):(Instr.sliceAt 111 (.slice (some ⟨b,0,none⟩) n c) (some (iv (l:Int))) none none).run prog W=.ok (.slice (some ⟨b,if c=l then 0 else l*1,none⟩) (n-l) (c-l)) W:=by
 rw[run_sliceAt_slice _ _ _ _ _ _ unL,run_slice_l (P:=prog) (w:=W) _ _ _ _ unL .i64 l (by omega) (by omega),sz1];simp[Result.andThen,sliced,K7];split<;>simp
variable{s:Xs}
theorem iy(p:Nat){τ:Tg}{x:S3}{J:List Value}(I:TypeId)(a:Addr)(m c:Nat)(news:List Value)(W:OwnS g w τ false 184 1 x J)(e:Ds s p=some (Builtin.append_ #[111,111] I #[x.v,.slice (some a) m c]>>=λv=>pure (.value v)))(A:(nxt s p undef s.L).o.map Ob.l'=(nxt s p undef s.L).o.map Ob.r')(r:s.L.all (λy=>[τ].all λt=>y.t.ne t)=true)(S:0<x.c)(Q:news.length=m*1)(K:∀ u∈news,u.oneCell'=true)(f:∀ j u,news[j]?=some u->w.cell? (a.add j)=some u)(h:x.n+m<=x.c)(O:∀ w',OwnS g w' τ false 184 1 ⟨x.a,x.n+m,x.c⟩ (J++news)->(∀ B T,τ∈T->Cg B T g w g w')->w'.heap.size=w.heap.size->GG prog fn R B T (nxt s p (S3.v ⟨x.a,x.n+m,x.c⟩) s.L).s g w'):GG prog fn R B T s g w:=by
 refine KE p s.L A (BU e) λG X i o C=>?_;obtain⟨d,N,k⟩:∃ d,prog.info? 184=some d/\d.size=1:=by
  have q:(prog.info? 184).map (·.size)=some 1:=by kernel_rfl
  cases hh:prog.info? 184 with
  | none=>rw[hh]at q;cases q
  | some v=>rw[hh]at q;exact⟨v,rfl,by simpa using q⟩
 obtain⟨w',U,D,M,E⟩:=jW (P:=prog) (B:=w.heap.size) (T:=[τ]) 111 I 184 d underlying111 N (D'.2 rfl) (by rw[k];exact W) a m c news S (by rw[k];exact Q) f K h;rw[k]at D
 have F:∀ B T,τ∈T->Cg B T g w g w':=λB T r=>(M.ret (B:=B)).mono λt V=>by rw[D'.1 V];exact r
 refine⟨S3.v ⟨x.a,x.n+m,x.c⟩,w',g,.inl ?_,G.ch (F _ [τ] (D'.2 rfl)) (λb H=>G.new b (by rw[E]at H;exact H)) r,O w' D F E⟩;rw[D1 e C,Sem.run_bind,U,Result.andThen_ok];rfl
theorem jJ(w:World):(zeroValue 184).run prog w=.ok (.pointer none) w:=by kernel_rfl
theorem kq(f:Nat){τ:Tg}{x:S3}{F:List Value}(E:TypeId){b:Nat}(m:x.a=some ⟨b,0,none⟩)(k c:Nat)(N:OwnS g w τ false 184 1 x F)(d:Ds s f=some (Builtin.clear_ #[111] E #[.slice (some ⟨b,x.n*1,none⟩) k c]>>=λv=>pure (.value v)))(r:(nxt s f undef s.L).o.map Ob.l'=(nxt s f undef s.L).o.map Ob.r')(p:s.L.all (λy=>[τ].all λt=>y.t.ne t)=true)(q:0<k)(e:x.n+k<=x.c)(J:∀ w',OwnS g w' τ false 184 1 x F->(∀ B T,τ∈T->Cg B T g w g w')->w'.heap.size=w.heap.size->GG prog fn R B T (nxt s f (.tuple #[]) s.L).s g w'):GG prog fn R B T s g w:=by
 refine KE f s.L r (BU d) λD O i o u=>?_;obtain⟨w',K,G,H,A⟩:=ki (P:=prog) (B:=w.heap.size) (T:=[τ]) 111 E 184 (.pointer none) 1 underlying111 jJ rfl (by decide) (λj I=>match j,I with|0,_=>rfl|j+1,h=>absurd h (by omega)) (D'.2 rfl) N m k c q e;have C:∀ B T,τ∈T->Cg B T g w g w':=λB T p=>(H.ret (B:=B)).mono λt M=>by rw[D'.1 M];exact p
 refine⟨.tuple #[],w',g,.inl ?_,D.ch (C _ [τ] (D'.2 rfl)) (λb m=>D.new b (by rw[A]at m;exact m)) p,J w' G C A⟩;rw[D1 d u,Sem.run_bind,K,Result.andThen_ok];rfl
end
end
theorem Qo{g:Gh}{w:World}{b n c:Nat}{l:List Nat}(o:OwnS g w (.n 51 0) false 184 1 ⟨some ⟨b,0,none⟩,n,c⟩ (l.map (pt · 0)))(L:∀ b,w.heap.size<=b->g.t b=.z/\g.k b=0)(j:Nat)(Z:j<l.length)(X:l.length<100000000) :
  Calls prog 102 #[.slice (some ⟨b,0,none⟩) n c,iv (j:Int),iv ((j+1:Nat):Int)] w λe w'=>∃ (x':S3) (g':Gh),e=.returned x'.v/\OwnS g' w' (.n 51 0) false 184 1 x' ((l.eraseIdx j).map (pt · 0))/\(∀ b,w'.heap.size<=b->g'.t b=.z/\g'.k b=0)/\Cg w.heap.size [.n 51 0] g w g' w':=by
 have hn:n=l.length:=by have:=o.len;simp at this;omega
 have Y:n<=c:=by rcases o.ex with⟨h,_⟩|⟨_,_,_,_,h,_⟩;cases h;exact h
 refine gI (fn:=f102) [.n 51 0] g func102 L (qR [] 11 [] λs1 S w1 y=>qV 5 (.slice (some ⟨b,j*1,none⟩) (j+1-j) (n-j)) (lG b n c j (j+1) n (by omega) (by omega) (by omega) (by omega)) (qR [] 8 [] λs2 T w2 A=>qI (((j:Int)==((j+1:Nat):Int))) false (by simp;omega) (qR [] 11 [8,0,2] λs3 U w3 B=>qT 2 (.slice (some ⟨b,0,none⟩) j c) (λ_=>(lI b n c j (by omega))) (qR [] 2 [6,8] λs4 V w4 C=>qT 5 (.slice (some ⟨b,if c=j+1 then 0 else(j+1)*1,none⟩) (n-(j+1)) (c-(j+1))) (λ_=>(lJ b n c (j+1) (by omega))) ?_))));have d:=o.ch (((y.trans A).trans B).trans C) (by simp) (by simp);have p:=d.tP (k:=j) (by show j<=n;omega) (by show 0<n;omega);refine iy 6 (x:=⟨some ⟨b,0,none⟩,j,c⟩) 111 ⟨b,if c=j+1 then 0 else(j+1)*1,none⟩ (n-(j+1)) (c-(j+1)) ((l.drop (j+1)).map (pt · 0)) p (by kernel_rfl) (by kernel_rfl) (by kernel_rfl) (by show 0<c;omega) (by simp;omega) (by intro u M;obtain⟨q,_,rfl⟩:=nw.1 M;rfl) (λq u r=>?_) (by show j+(n-(j+1))<=c;omega) ?_
 .have hlt:j+1<l.length:=by have h:=(V'.1 r).1;simp at h;omega
  rw[if_neg (by omega),K7];rw[List.map_drop,om]at r
  obtain⟨R,E,_,J⟩:=d.cell r;simp only[Z',Addr.mk.injEq,and_true]at E;subst E;rw[show(j+1)*1+q=j+1+q by omega];exact J
 intro w6 s i N;have G:=i w.heap.size [.n 51 0] (D'.2 rfl);rw[show(l.map (pt · 0)).take (j*1)++(l.drop (j+1)).map (pt · 0)=(l.eraseIdx j).map (pt · 0)from by rw[Nat.mul_one,<- q',<- nG,qz]]at s
 refine qR [] 8 [14] λs7 W w7 D=>qV 4 (.slice (some ⟨b,(j+(n-(j+1)))*1,none⟩) (n-(j+(n-(j+1)))) (c-(j+(n-(j+1))))) (lF b (j+(n-(j+1))) c (j+(n-(j+1))) n (by omega) (by omega) (by omega)) (kq 5 (x:=⟨some ⟨b,0,none⟩,(j+(n-(j+1))),c⟩) (b:=b) 0 rfl (n-(j+(n-(j+1)))) (c-(j+(n-(j+1)))) (s.ch D) (by kernel_rfl) (by kernel_rfl) (by kernel_rfl) (by omega) (by show(j+(n-(j+1)))+(n-(j+(n-(j+1))))<=c;omega) ?_);intro w9 F m O;have H:=m w.heap.size [.n 51 0] (D'.2 rfl);refine qR [] 6 [] λP I Q a=>qE (S3.v ⟨some ⟨b,0,none⟩,(j+(n-(j+1))),c⟩) λK=>⟨_,_,rfl,(F.ch a),K.new,((((((((y.nil [.n 51 0]).n A).n B).n C).trans G).n D).trans H).n a)⟩
end
section
section
variable{M:Meet}{k m n:Nat}{p:Nod}
theorem NOk.mono(h:NOk n p)(a:n<=m):NOk m p:={ h with wa:=mS h.wa a }
theorem NOk.zero(n:Nat):NOk n CY:=⟨nH _,A' _,nH _,nH _,λc h=>(by cases h),⟨mT _,by decide⟩,Ap.b0,BP.nil,λ_=>BP.nil,λq h=>(by cases h)⟩
theorem NOk.bare(n:Nat)(p:Nod)(up:Bool)(d:List Int)(g:Int){a:Acc}(b:Ap a.p)(e:BP a.vs)(l:List Pend)(f:∀ q∈l,POk 0 q):NOk n (p.bare up d g a l):=⟨nH _,A' _,nH _,nH _,λc h=>(by cases h),⟨mT _,by show(0:Int)<=65536;decide⟩,b,e,λ_=>BP.nil,f⟩
theorem NOk.lp(h:NOk n p)(k:Int):NOk n (p.lp k)/\AA (p.lp k).bu<=AA p.bu/\(p.lp k).av.length<=p.av.length/\(p.lp k).bad=p.bad:=by
 unfold Nod.lp;split
 .exact⟨h,A' _,A' _,rfl⟩
 .exact⟨NOk.bare n p _ _ _ Ap.b0 BP.nil [] (λq a=>(by cases a)),nH _,nH _,rfl⟩
theorem NOk.start(h:NOk n p):NOk n p.start/\AA p.start.bu<=AA p.bu+4/\p.start.av.length<=p.av.length/\p.start.bad=p.bad:=by
 have b:=eL p.d p.sy;have a:∀ q∈[Pend.start],POk 0 q:=λq a=>by rw[D'.1 a];trivial
 unfold Nod.start;split
 .exact⟨h,rP _ _,A' _,rfl⟩
 .split
  .exact⟨NOk.bare n p _ _ _ b.1 b.2 _ a,by show 4<=_;omega,nH _,rfl⟩
  .exact⟨NOk.bare n p _ _ _ b.1 b.2 _ a,by show 4<=_;omega,nH _,rfl⟩
theorem FQ(p:Nod)(b:Bal):(p.au b).1.av=p.av/\(p.au b).1.bad=p.bad/\(p.au b).1.bN=p.bN/\(p.au b).1.done=p.done/\(p.au b).1.cF=p.cF:=by
 unfold Nod.au;split
 .exact⟨rfl,rfl,rfl,rfl,rfl⟩
 .split
  .exact⟨rfl,rfl,rfl,rfl,rfl⟩
  .split<;>exact⟨rfl,rfl,rfl,rfl,rfl⟩
theorem NOk.lead(h:NOk n p)(i:Nat):NOk n (p.lead i)/\AA (p.lead i).bu<=AA p.bu+4/\(p.lead i).av=p.av/\(p.lead i).bad=p.bad:=by
 unfold Nod.lead;simp only;split
 .exact⟨h,rP _ _,rfl,rfl⟩
 .have hp:=h.au ⟨max p.cF p.vo.p.r+1,(i:Int)⟩;have a:=FQ p ⟨max p.cF p.vo.p.r+1,(i:Int)⟩;have b:NOk n { (p.au ⟨max p.cF p.vo.p.r+1,(i:Int)⟩).1 with bn:=⟨⟨max p.cF p.vo.p.r+1,(i:Int)⟩,λ_=>false,λ_=>Em,λ_=>p.ae.length,0,[]⟩ }:={ hp.1 with qu:=nH _,he:=λ_=>BP.nil };refine⟨b.wait hp.2.2.2.1,?_,a.1,a.2.1⟩;show AA ((p.au _).1.bu++[_])<=_;rw[FO,hp.2.1];exact A' _
theorem NOk.want(h:NOk n p)(c:Cmd):NOk (n+1) (p.want c)/\(p.want c).av.length<=p.av.length+1/\(p.want c).bu=p.bu/\(p.want c).bad=p.bad:=by
 unfold Nod.want;split
 .exact⟨h.mono (nX _),nX _,rfl,rfl⟩
 .refine⟨{ h with wa:=?_,ask:=λd a=>?_ },by simp,rfl,rfl⟩
  .have:=h.wa;simp;omega
  .unfold BW at a;simp only at a ⊢;split at a
   .rename_i e;exact P'.2 (.inr (D'.2 e))
   .exact P'.2 (.inl (h.ask d a))
theorem NOk.sj(h:NOk n p)(i:Nat)(e:Int)(c:Cmd)(a:List Tol):NOk (n+1) (p.ss i e c a).1/\(p.ss i e c a).1.bu=p.bu/\(p.ss i e c a).2.length+(p.ss i e c a).1.av.length<=a.length+p.av.length+1/\(p.ss i e c a).1.bad<=p.bad+1:=by
 have b:=h.mono (nX n);unfold Nod.ss;split
 .exact⟨b,rfl,nX _,nX _⟩
 .split
  .exact⟨{ b with },rfl,nX _,A' _⟩
  .split
   .exact⟨b,rfl,by simp;omega,nX _⟩
   .have:=h.want c;exact⟨this.1,this.2.2.1,by have:=this.2.1;simp only;omega,by rw[this.2.2.2];exact nX _⟩
theorem OS(p:Nod)(v:Vt):(p.cl v).1.av=p.av/\(p.cl v).1.bad=p.bad:=by
 unfold Nod.cl;split
 .exact⟨rfl,rfl⟩
 .split
  .exact⟨rfl,rfl⟩
  .split<;>exact⟨rfl,rfl⟩
theorem Kw(p:Nod)(to:Nat)(e:Int):(p.ew to e).av=p.av/\(p.ew to e).bad=p.bad:=by unfold Nod.ew;split<;>exact⟨rfl,rfl⟩
theorem F9(p:Nod)(j:Nat)(v:Vt):(p.count j v).av=p.av/\(p.count j v).bad=p.bad/\(p.count j v).bu=p.bu:=by
 unfold Nod.count;split
 .exact⟨rfl,rfl,rfl⟩
 .split<;>exact⟨rfl,rfl,rfl⟩
theorem FD(p:Nod)(l:List Cmd):(p.dT l).av=p.av/\(p.dT l).bad=p.bad:=by unfold Nod.dT;split<;>exact⟨rfl,rfl⟩
theorem Xn(p:Nod)(l:Let):(p.take l).av=p.av/\(p.take l).bad=p.bad:=by
 unfold Nod.take;split
 .split
  .exact Kw _ _ _
  .exact⟨(FQ p l.hU).1,(FQ p l.hU).2.1⟩
 .simp only;split<;>exact⟨rfl,rfl⟩
 .exact⟨rfl,rfl⟩
 .split
  .exact Kw _ _ _
  .exact OS p l.cl
 .exact⟨(F9 p _ _).1,(F9 p _ _).2.1⟩
 .split<;>exact⟨rfl,rfl⟩
 .simp only;split
  .exact FD p l.gC
  .exact FD p l.gC
 .exact⟨rfl,rfl⟩
theorem WY(p:Nod)(i:Nat)(q:Pend):(p.ln i q).av=p.av/\(p.ln i q).bad=p.bad:=by
 cases q with
 | began b vs=>unfold Nod.ln;simp only;split<;>exact⟨rfl,rfl⟩
 | prop v=>exact⟨(F9 p i v).1,(F9 p i v).2.1⟩
 | _=>exact⟨rfl,rfl⟩
theorem S2(i:Nat)(l:List Pend)(p:Nod)(a:List Let):(qv i l p a).1.av=p.av/\(qv i l p a).1.bad=p.bad:=by
 induction l generalizing p a with
 | nil=>exact⟨rfl,rfl⟩
 | cons q l ih =>
  have b:=ih (p.ln i q) (a++p.sc i q);have c:=WY p i q;exact⟨b.1.trans c.1,b.2.trans c.2⟩
theorem da(i:Nat)(l:List Cmd)(p:Nod)(a:List Tol):(sq i l p a).1.bad=p.bad:=by
 induction l generalizing p a with
 | nil=>rfl
 | cons c l ih =>
  rw[sq];split
  .rfl
  .rw[ih];unfold Nod.fv;split<;>rfl
theorem TA(p:Nod)(i:Nat)(a:List Let)(b:List Tol):(p.piece i a b).1.av=(sq i (p.ae.drop p.done) p b).1.av/\(p.piece i a b).1.bad=p.bad:=by
 have c:∀ q:Nod,(q.jv i).1.av=q.av/\(q.jv i).1.bad=q.bad:=by
  intro q;unfold Nod.jv;split
  .exact⟨rfl,rfl⟩
  .split
   .exact FD _ _
   .exact⟨rfl,rfl⟩
 have d:∀ q:Nod,q.cx.av=q.av/\q.cx.bad=q.bad:=by
  intro q;unfold Nod.cx;split
  .exact⟨rfl,rfl⟩
  .split
   .exact⟨rfl,rfl⟩
   .split
    .exact⟨rfl,rfl⟩
    .exact OS q _
 have e:∀ (q:Nod) (a:List Let),(q.qk i a).1.av=q.av/\(q.qk i a).1.bad=q.bad:=by
  intro q a;unfold Nod.qk;split
  .exact⟨rfl,rfl⟩
  .have:=S2 i q.bu { q.so with bu:=[] } a;have g:q.so.av=q.av/\q.so.bad=q.bad:=by unfold Nod.so;split<;>exact⟨rfl,rfl⟩
   exact⟨this.1.trans g.1,this.2.trans g.2⟩
 have f:∀ (q:Nod) (a:List Let),(q.bw i a).1.av=q.av/\(q.bw i a).1.bad=q.bad:=by
  intro q a;unfold Nod.bw;split<;>exact⟨rfl,rfl⟩
 have h:=da i (p.ae.drop p.done) p b;unfold Nod.piece;simp only;rw[(f _ _).1,(e _ _).1,(d _).1,(c _).1,(f _ _).2,(e _ _).2,(d _).2,(c _).2];exact⟨rfl,h⟩
def pw(M:Meet):Nat:=AA (M.ab 0).bu+AA (M.ab 1).bu+AA (M.ab 2).bu+AA (M.ab 3).bu+AA (M.ab 4).bu
def ww(M:Meet):Nat:=(M.ab 0).av.length+(M.ab 1).av.length+(M.ab 2).av.length+(M.ab 3).av.length+(M.ab 4).av.length
theorem ai(M:Meet){i:Nat}(a:i<5)(p:Nod)(b:List Let)(c:List Tol):pw (M.set i p b c)+AA (M.ab i).bu=pw M+AA p.bu:=by
 unfold pw Meet.set;rcases se a with rfl|rfl|rfl|rfl|rfl<;>simp[upN]<;>omega
theorem PV(M:Meet){i:Nat}(a:i<5)(p:Nod)(b:List Let)(c:List Tol):ww (M.set i p b c)+(M.ab i).av.length=ww M+p.av.length:=by
 unfold ww Meet.set;rcases se a with rfl|rfl|rfl|rfl|rfl<;>simp[upN]<;>omega
theorem Ri(M:Meet){i:Nat}(a:i<5):AA (M.ab i).bu<=pw M:=by
 unfold pw;rcases se a with rfl|rfl|rfl|rfl|rfl<;>omega
theorem co(M:Meet){i:Nat}(a:i<5):(M.ab i).av.length<=ww M:=by
 unfold ww;rcases se a with rfl|rfl|rfl|rfl|rfl<;>omega
structure MOk(n:Nat)(M:Meet):Prop where
 ab:∀ i,i<5->NOk n (M.ab i)
 br:∀ l∈M.br,LOk l
 wt:M.br.length+pw M<=10*n
 ed:M.ed.length+ww M<=n
 bad:∀ i,i<5->(M.ab i).bad<=n
theorem MOk.zero:MOk 0 Ao:=⟨λ_ _=>NOk.zero 0,λl h=>(by cases h),A' _,A' _,λ_ _=>A' _⟩
theorem MOk.mono(h:MOk n M)(b:n<=m):MOk m M:=⟨λi a=>(h.ab i a).mono b,h.br,by have:=h.wt;omega,by have:=h.ed;omega,λi a=>mS (h.bad i a) b⟩
theorem MOk.set(h:MOk n M){i:Nat}(a:i<5){p:Nod}{ls:List Let}{ts:List Tol}(c:NOk (n+1) p)(d:∀ l∈ls,LOk l)(g:ls.length+AA p.bu<=M.br.length+AA (M.ab i).bu+10)(k:ts.length+p.av.length<=M.ed.length+(M.ab i).av.length+1)(m:p.bad<=(M.ab i).bad+1):MOk (n+1) (M.set i p ls ts):=by
 have e:=ai M a p ls ts;have f:=PV M a p ls ts;have:=h.wt;have:=h.ed;refine⟨λj b=>?_,d,by show ls.length+_<=_;omega,by show ts.length+_<=_;omega,λj b=>?_⟩
 .show NOk (n+1) (upN M.ab i p j);unfold upN;split
  .exact c
  .exact(h.ab j b).mono (nX _)
 .show(upN M.ab i p j).bad<=n+1;unfold upN;split
  .have:=h.bad i a;omega
  .have:=h.bad j b;omega
structure COk(n k:Nat)(M:Meet):Prop where
 ab:∀ i,i<5->NOk n (M.ab i)
 wt:k+M.br.length+pw M<=10*n
 ed:M.ed.length+ww M<=n
 bad:∀ i,i<5->(M.ab i).bad<=n
 br:∀ l∈M.br,LOk l
theorem COk.pd(h:COk n (k+1) M){l:Let}(a:LOk l):COk n k (M.pd l)/\(M.pd l).br=M.br:=by
 have i:=h.wt;unfold Meet.pd;split
 .have ht:=(h.ab l.dst a.dst).take a;have c:=Xn (M.ab l.dst) l;have e:=ai M a.dst ((M.ab l.dst).take l) M.br M.ed;have d:=PV M a.dst ((M.ab l.dst).take l) M.br M.ed;have f:pw (M.put l.dst ((M.ab l.dst).take l))=pw (M.set l.dst ((M.ab l.dst).take l) M.br M.ed):=rfl;have g:ww (M.put l.dst ((M.ab l.dst).take l))=ww (M.set l.dst ((M.ab l.dst).take l) M.br M.ed):=rfl;have:=h.ed;rw[c.1]at d
  refine⟨⟨λj b=>?_,by show k+M.br.length+_<=_;have:=ht.2.1;omega,by show M.ed.length+_<=_;omega,λj b=>?_,h.br⟩,rfl⟩
  .show NOk n (upN M.ab l.dst _ j);unfold upN;split
   .exact ht.1
   .exact h.ab j b
  .show(upN M.ab l.dst _ j).bad<=n;unfold upN;split
   .rw[c.2];exact h.bad _ a.dst
   .exact h.bad j b
 .exact⟨⟨h.ab,by omega,h.ed,h.bad,h.br⟩,rfl⟩
theorem COk.all(a:List Let){M:Meet}(h:COk n a.length M)(b:∀ l∈a,LOk l):COk n 0 (a.foldl (λM l=>M.pd l) M):=by
 induction a generalizing M with
 | nil=>exact h
 | cons l a ih=>exact ih ((h.pd (b l M')).1) λm c=>b m (I' _ c)
theorem COk.ok(h:COk n k M):MOk n M:=⟨h.ab,h.br,by have:=h.wt;omega,h.ed,h.bad⟩
theorem MOk.si(h:MOk n M):MOk n M.si :=
 (COk.all M.br (M:={ M with br:=[] }) ⟨h.ab,by show M.br.length+0+pw M<=_;exact h.wt,h.ed,h.bad,λl a=>(by cases a)⟩ h.br).ok
theorem MOk.move(h:MOk n M)(k:Int)(a:Nat):MOk (n+1) (M.move k a):=by
 have i:=h.wt;have b:=h.mono (nX n);unfold Meet.move;split
 .exact b
 .rename_i l hl
  have c:LOk l:=h.br l (np hl);have f:∀ m∈M.br.eraseIdx (a%M.br.length),LOk m:=λm g=>h.br m (qb g);have e:(M.br.eraseIdx (a%M.br.length)).length<=M.br.length:=List.length_eraseIdx_le _ _;have d:COk (n+1) 1 (if k≠6 then{ M with br:=M.br.eraseIdx (a%M.br.length) }else M):=by
   split
   .exact⟨b.ab,by show 1+(M.br.eraseIdx _).length+pw M<=_;omega,b.ed,b.bad,f⟩
   .exact⟨b.ab,by omega,b.ed,b.bad,h.br⟩
  simp only;split
  .exact(d.pd c).1.ok
  .exact d.ok
theorem MOk.act(h:MOk n M)(i:n<=1000000){x:Lac}(g:LacOk x):MOk (n+1) (M.act x):=by
 have a:x.n.toNat<5:=by
  cases hu:Gj x.k with
  | true=>have:=g.n hu;omega
  | false=>have:=g.n0 hu;omega
 have e:=h.ab _ a;have c:=e.mono (nX n);unfold Meet.act;simp only;split
 .have hs:=e.sj x.n.toNat (opE x.d ((M.ab x.n.toNat).done:Int)) (Eb x.d ((M.ab x.n.toNat).done:Int)) M.ed;exact h.set a hs.1 h.br (by unfold Nod.sj;rw[hs.2.1];omega) (by unfold Nod.sj;omega) (by unfold Nod.sj;omega)
 .split
  .split
   .have hl:=c.lead x.n.toNat;exact h.set a hl.1 h.br (by omega) (by rw[hl.2.2.1];omega) (by rw[hl.2.2.2];omega)
   .exact h.set a c h.br (by omega) (by omega) (by omega)
  .split
   .by_cases hu:(M.ab x.n.toNat).up=true
    .rw[if_pos hu,if_pos hu,if_pos hu];have b:=c.piece a (ls:=M.br) (ts:=M.ed) (by have:=Ri M a;have:=h.wt;omega) h.br;have f:=TA (M.ab x.n.toNat) x.n.toNat M.br M.ed;exact h.set a b.1 b.2.1 b.2.2.1 (by rw[f.1];have:=b.2.2.2;omega) (by rw[f.2];omega)
    .rw[if_neg hu,if_neg hu,if_neg hu];exact h.set a c h.br (by omega) (by omega) (by omega)
   .split
    .exact h.move _ _
    .split
     .exact h.si.mono (nX _)
     .split
      .split
       .have hc:=c.lp x.p;exact h.set a hc.1 h.br (by omega) (by omega) (by rw[hc.2.2.2];omega)
       .exact h.set a c h.br (by omega) (by omega) (by omega)
      .split
       .split
        .exact h.set a c h.br (by omega) (by omega) (by omega)
        .have hc:=c.start;exact h.set a hc.1 h.br (by omega) (by omega) (by rw[hc.2.2.2];omega)
       .exact h.mono (nX _)
end
end
section
open Go.RowKit
section
variable{M:Meet}{W w:World}{b j mb n ob tb:Nat}{g:Gh}{l:List Let}{nb:Nat->Nat}{x:S3}
theorem lE{P:Program}{x y:Operand}(a b:Nat)(h:P.underlying 3=some (.int .i64))(f:a<9223372036854775808)(g:0<b)(e:b<9223372036854775808):(do Go.eqGuard .rem 3 x y (iv (a:Int)) (iv (b:Int));Go.binOp .rem 3 (iv (a:Int)) (iv (b:Int)):Sem Value).run P W=.ok (iv ((a%b:Nat):Int)) W:=by
 have d:Int.tmod (a:Int) (b:Int)=((a%b:Nat):Int):=rfl;have c:¬ b=0:=by omega
 simp only[Go.eqGuard,go_sem,Op.intDiv];simp[c,d]
theorem gm{c:Nat}(j:Nat)(a:j<n):(Instr.indexAt 111 (.slice (some ⟨b,0,none⟩) n c) (iv (j:Int))).run prog W=.ok (pt b j) W :=
 P6 (P:=prog) (e:=184) (z:=1) underlying111 (by kernel_rfl) (by kernel_rfl) a _ (by omega)
theorem jg(d:x.a=some ⟨b,0,none⟩)(j:Nat)(c:j<x.n):(Instr.indexAt 111 x.v (iv (j:Int))).run prog W=.ok (pt b j) W:=by
 unfold S3.v;rw[d];exact gm j c
theorem FzL.cell{e:List Value}(h:FzL g w x e){b j:Nat}(i:x.a=some ⟨b,0,none⟩){u:Value}(k:e[j]?=some u):w.cell? ⟨b,j,none⟩=some u:=by
 obtain⟨c,d,_,_,f⟩:=h.at_ j u k;rw[i]at d
 simp only[Z',Addr.mk.injEq,and_true]at d;subst d;exact f
theorem MS.outs{a:Gh}{b:World}{B:Nat}(h:MS mb tb ob nb g w M)(c:Cg B [.n 50 0,.n 51 0] g w a b){lt e:S3}{d:List Let}(k:OutAt a b ob lt e d M.ed)(j:Jr a b):MS mb tb ob nb a b { M with br:=d } :=
 ⟨h.box.ch c,h.tk.ch c,λi f=>let ⟨x,hx⟩:=h.ab i f;⟨x,hx.ch c (by simp) (λr l=>by simp;omega)⟩,⟨lt,e,k⟩,j⟩
theorem Lets.erase{d:List Nat}(h:Lets g w d l)(j:Nat):Lets g w (d.eraseIdx j) (l.eraseIdx j):=by
 refine⟨by rw[List.length_eraseIdx,List.length_eraseIdx,h.len],λk b m c a=>?_⟩;rw[List.getElem?_eraseIdx]at c a
 split at c
 .rename_i hk;rw[if_pos hk]at a;exact h.at_ _ _ _ c a
 .rename_i hk;rw[if_neg hk]at a;exact h.at_ _ _ _ c a
theorem Yy{c:Let}(h:l[j]?=some c):l.drop j=c::l.drop (j+1):=by
 obtain⟨a,b⟩:=V'.1 h;rw[<- b];exact n7 a
theorem ZA(k:Int)(a:Nat)(h:M.br.length=0):M.move k a=M:=by
 unfold Meet.move;rw[Y' h];rfl
theorem dY{k:Int}{a:Nat}{l:Let}(h:M.br[a%M.br.length]?=some l):M.move k a=(if k≠5 then(if k≠6 then{ M with br:=M.br.eraseIdx (a%M.br.length) }else M).pd l else if k≠6 then{ M with br:=M.br.eraseIdx (a%M.br.length) }else M):=by
 unfold Meet.move;rw[h]
theorem Md(h:MS mb tb ob nb g w M){w0:World}(hB:Base w0 g w)(hT:Tabs w0)(k:Int)(a:Nat)(ha:a<=1048576){n:Nat}(hm:MOk n M)(hn:n<=1000000) :
  Calls prog 58 #[pt mb 0,iv k,iv (a:Int)] w (MP mb tb ob nb g w (.tuple #[]) (M.move k a)):=by
 obtain⟨lt,tl,hO⟩:=h.out;obtain⟨bs,hL,q⟩:=hO.br;have Y:lt.n=M.br.length:=by have:=hL.len;have:=q.len;simp at *;omega
 have b7:=hm.wt;refine gI (fn:=f58) TM g func58 h.new (Cq ⟨mb,_,.z,false⟩ (λ_=>⟨h.box.r,h.box.z,λh=>(by cases h),λh=>absurd rfl h⟩) (by kernel_rfl) ?_);refine qO hO (qR [] 18 [0,1] λs1 g1 w1 d=>?_);by_cases h1:lt.n=0
 .refine qI (((lt.n:Int)==0)) true (by simp;omega) (qE (.tuple #[]) λK=>?_);rw[ZA k a (by omega)];exact⟨_,rfl,(h.sr d K.new),(d.nil TM)⟩
 .refine qI (((lt.n:Int)==0)) false (by simp;omega) ?_;obtain⟨j,hj⟩:∃ j,j=a%M.br.length:=⟨_,rfl⟩;have I:j<M.br.length:=by rw[hj];exact Nat.mod_lt _ (by omega)
  obtain⟨l,hl⟩:∃ l,M.br[j]?=some l:=⟨_,E' I⟩;obtain⟨J,X⟩:∃ J,bs[j]?=some J:=⟨_,E' (by rw[q.len];exact I)⟩;have s:=hm.br l (np hl);have V:=q.at_ j J l X hl;obtain⟨b,hb,a7,a6⟩:=hL.cell (j:=j) (u:=pt J 0) (by rw[nS,X];rfl);rw[dY (hj▸hl)];rw[<- hj];obtain⟨la,lq,lc⟩:=lt;simp only at hb Y;subst hb;refine qR [] 5 [] λs3 g3 w3 m=>?_;have a8 {x y:Operand}:∀ {W:World},(do Go.eqGuard .rem 3 x y (iv (a:Int)) (iv (lq:Int));Go.binOp .rem 3 (iv (a:Int)) (iv (lq:Int)):Sem Value).run prog W=.ok (iv (j:Int)) W:=λ{W}=>by rw[hj,<- Y];exact lE a lq underlying3 (by omega) (by omega) (by omega)
  refine qV 2 (iv (j:Int)) (a8 (x:=(.tmp 19)) (y:=(.tmp 20))) (qR [] 12 [0,1] λs4 g4 w4 o=>qV 8 (pt b j) (gm (b:=b) (n:=lq) (c:=lc) j (by omega)) (qV 9 (pt J 0) (Da underlying184 rfl ((Below.cell (Cg.af ((d.trans m).trans o) (λ_ _=>Q')) (p:=⟨b,j,none⟩) a7).trans a6)) (qR [] 8 [] λs6 g6 w6 t=>?_)));by_cases h2:k≠6
  .refine qI ((k != 6)) true (by simpa using h2) ?_;have H:k≠6:=by simpa using h2
   rw[if_pos H];refine qR [] 14 [17,0,2,4,6,0,8,10,12,14,0,16,18,20,1,22,24] λs7 g7 w7 L=>qT 13 (iv ((j+1:Nat):Int)) (λ_=>(AX 46 (j:Int) underlying3 (by omega))) (Af λK=>qG 14 [.n 51 0] [true,true] (Qo (hL.ch ((((d.trans m).trans o).trans t).trans L) (by simp) (by simp)) K.new j (by rw[q.len];exact I) (by rw[q.len];omega)) ?_);rintro e' w9 ⟨y9,g9,rfl,a9,n9,G⟩;refine⟨_,g9,rfl,G,n9,?_⟩;replace G:=G.ret (B:=w.heap.size);refine qR [.n 50 0] 9 [30,32,35,1,1] λb8 U Z e=>Af λK=>?_;have C9:Cg w.heap.size [.n 50 0,.n 51 0] g w U Z:=(((((((d.nil [.n 50 0,.n 51 0]).n m).n o).n t).n L).trans (G.mono (by simp))).trans (e.mono (by simp)));obtain⟨o1,o2,o3⟩:=K.sJ 1 ob (.cells #[S3.v y9,S3.v tl] 113) 50 0 (by kernel_rfl);have P:MS mb tb ob nb U Z { M with br:=M.br.eraseIdx j }:=h.outs C9 ⟨o1,o2,o3,⟨bs.eraseIdx j,(a9.ch e),(q.erase j).ch C9⟩,hO.ed.ch C9⟩ K.new;by_cases F:k≠5
   .refine qI ((k != 5)) true (by simpa using F) ?_;rw[if_pos (show k≠5 from by simpa using F)];refine qR [] 3 [] λb9 a2 b0 A=>Af λK=>?_;have a0:MS mb tb ob nb a2 b0 ({ M with br:=M.br.eraseIdx j }):=(P.sr A K.new);refine qG 2 TM [true,false] (L2 a0 (hB.ch ((((((((d.nil TM).n m).n o).n t).n L).trans (G.mono (by simp[TM,TN]))).trans (e.mono (by simp[TM,TN]))).n A) F4) hT J l (V.ch ((((((((d.nil TM).n m).n o).n t).n L).trans (G.mono (by simp[TM,TN]))).trans (e.mono (by simp[TM,TN]))).n A) F4) s (hm.ab l.dst s.dst) (by have:=Ez (M.ab l.dst).bu;have:=Ri M s.dst;show(M.ab l.dst).bu.length<_;omega)) ?_;rintro e' d2 ⟨a3,rfl,N,C⟩;refine⟨_,a3,rfl,C,N.new,?_⟩;replace C:=C.ret (B:=w.heap.size);refine qR [] 1 [] λc0 b2 d3 Q=>qE (.tuple #[]) λK=>⟨_,rfl,(N.sr Q K.new),((((((((((d.nil TM).n m).n o).n t).n L).trans (G.mono (by simp[TM,TN]))).trans (e.mono (by simp[TM,TN]))).n A).trans (C)).n Q)⟩
   .refine qI ((k != 5)) false (by simpa using F) (qR [] 1 [] λc2 b3 d4 R=>?_);rw[if_neg (show ¬ k≠5 from by simpa using F)];refine qE (.tuple #[]) λK=>⟨_,rfl,(P.sr R K.new),((((((((d.nil TM).n m).n o).n t).n L).trans (G.mono (by simp[TM,TN]))).trans (e.mono (by simp[TM,TN]))).n R)⟩
  .refine qI ((k != 6)) false (by simpa using h2) ?_;have H:¬ k≠6:=by simpa using h2
   rw[if_neg H];refine qR [] 6 [] λc5 b4 d5 i=>?_;by_cases F:k≠5
   .refine qI ((k != 5)) true (by simpa using F) ?_;rw[if_pos (show k≠5 from by simpa using F)];refine qR [] 3 [] λc8 a4 b1 D=>Af λK=>?_;have a1:MS mb tb ob nb a4 b1 M:=(h.sr (((((d.trans m).trans o).trans t).trans i).trans D) K.new);refine qG 2 TM [true,false] (L2 a1 (hB.ch ((((((d.nil TM).n m).n o).n t).n i).n D) F4) hT J l (V.ch ((((((d.nil TM).n m).n o).n t).n i).n D) F4) s (hm.ab l.dst s.dst) (by have:=Ez (M.ab l.dst).bu;have:=Ri M s.dst;show(M.ab l.dst).bu.length<_;omega)) ?_;rintro e' d6 ⟨a5,rfl,O,E⟩;refine⟨_,a5,rfl,E,O.new,?_⟩;replace E:=E.ret (B:=w.heap.size);refine qR [] 1 [] λd0 b5 d7 S=>qE (.tuple #[]) λK=>⟨_,rfl,(O.sr S K.new),((((((((d.nil TM).n m).n o).n t).n i).n D).trans (E)).n S)⟩
   .refine qI ((k != 5)) false (by simpa using F) (qR [] 1 [] λd1 b6 d8 T=>?_);rw[if_neg (show ¬ k≠5 from by simpa using F)];refine qE (.tuple #[]) λK=>⟨_,rfl,(h.sr (((((d.trans m).trans o).trans t).trans i).trans T) K.new),((((((d.nil TM).n m).n o).n t).n i).n T)⟩
theorem Qk(h:MS mb tb ob nb g w M){X:World}(hB:Base X g w)(hT:Tabs X){n:Nat}(u:MOk n M)(hn:n<=1000000) :
  Calls prog 59 #[pt mb 0] w (MP mb tb ob nb g w (.tuple #[]) M.si):=by
 obtain⟨lt,tl,I⟩:=h.out;obtain⟨y,V,i⟩:=I.br;have a1:lt.n=M.br.length:=by have:=V.len;have:=i.len;simp at *;omega
 have P:=u.wt;refine gI (fn:=f59) TM g func59 h.new (Cq ⟨mb,_,.z,false⟩ (λ_=>⟨h.box.r,h.box.z,λh=>(by cases h),λh=>absurd rfl h⟩) (by kernel_rfl) ?_);refine qO I (m6 V (by kernel_rfl) λgF Z hF=>qR [.n 50 0] 28 [0,1,0,1,1] λs1 g1 w1 S=>Af λG=>Cd 28 [(0,pt mb 0),(18,S3.v lt),(19,iv (lt.n:Int)),(20,iv 0)] [true,false] [⟨mb,.cells (mtA nb ob tb) 119,.z,false⟩] (λk E F e L=>∃ (j:Nat) (A:Meet),k=M.br.length-j/\j<=M.br.length/\e=[(0,pt mb 0),(18,S3.v lt),(19,iv (lt.n:Int)),(20,iv (j:Int))]/\L=[⟨mb,.cells (mtA nb ob tb) 119,.z,false⟩]/\MS mb tb ob nb E F A/\(M.br.drop j).foldl (λM l=>M.pd l) A=M.si/\COk n (M.br.length-j) A/\FzL E F lt (y.map (pt · 0))/\Lets E F y M.br/\Cg w.heap.size TM g w E F) (by kernel_rfl) (by kernel_rfl) (by kernel_rfl) (by kernel_rfl) M.br.length (λK=>?_) ?_)
 .have C9:Cg w.heap.size [.n 50 0,.n 51 0] g w g1 w1:=((Z.mono (by simp)).trans (S.mono (by simp)));obtain⟨o1,o2,o3⟩:=G.sJ 1 ob (.cells #[S3.v s30,S3.v tl] 113) 50 0 (by kernel_rfl);exact⟨0,{ M with br:=[] },rfl,nH _,rfl,rfl,h.outs C9 ⟨o1,o2,o3,⟨[],OwnS.nil _ _ _ _ _ _,⟨rfl,λk b m h=>(by cases h)⟩⟩,I.ed.ch C9⟩ K.new,rfl,⟨u.ab,by show M.br.length+0+pw M<=_;exact P,u.ed,u.bad,λl s=>(by cases s)⟩,(hF.fz.ch S),i.ch C9,C9.mono (by simp[TM,TN])⟩
 .rintro k gr wr _ zr _ ⟨j,A,rfl,hj,rfl,rfl,hM,hI,hA,hFz,hLt,hC⟩ J hJ;have a0:=hFz.n;refine qR [] 5 [] λs2 g2 w2 a=>?_;by_cases U:j<M.br.length
  .refine qI ((decide ((j:Int)<(lt.n:Int)))) true (O' (by omega)) ?_;obtain⟨l,s⟩:∃ l,M.br[j]?=some l:=⟨_,E' U⟩;obtain⟨o,t⟩:∃ o,y[j]?=some o:=⟨_,E' (by rw[i.len];exact U)⟩;have c:=u.br l (np s);have H:=hLt.at_ j o l t s;have x:(y.map (pt · 0))[j]?=some (pt o 0):=by rw[nS,t];rfl
   obtain⟨b,W,_⟩:=hFz.at_ j (pt o 0) x;obtain⟨Q,O⟩:∃ Q,M.br.length-j=Q+1:=⟨M.br.length-j-1,by omega⟩;rw[O]at hA
   have N:=hA.pd c;rw[Yy s,rY]at hI
   refine qR [] 5 [] λs3 g3 w3 d=>qV 0 (pt b j) (jg W j (by omega)) (qV 1 (pt o 0) (Da underlying184 rfl (((hFz.ch a).ch d).cell W x)) (qR [] 5 [] λs5 g5 w5 p=>Af λK=>?_));have Y:MS mb tb ob nb g5 w5 A:=(hM.sr ((a.trans d).trans p) K.new);refine qG 2 TM [true] (L2 Y (hB.ch ((((hC.n a).n d).n p)) F4) hT o l (H.ch (((a.nil TM).n d).n p) F4) c (hA.ab l.dst c.dst) (by have:=hA.wt;have:=Ez (A.ab l.dst).bu;have:=Ri A c.dst;omega)) ?_;rintro e' w6 ⟨g6,rfl,R,q⟩;refine⟨_,g6,rfl,q,R.new,?_⟩;replace q:=q.ret (B:=w.heap.size);refine qR [] 3 [] λs7 g7 w7 C=>qV 0 (iv ((j:Int)+1)) (AX 20 (j:Int) underlying3 (by omega)) (qR [] 2 [] λs8 g8 w8 D=>qB [true] λz G K=>hJ (M.br.length-(j+1)) _ _ _ z _ (by omega) ⟨j+1,A.pd l,rfl,by omega,rfl,rfl,(R.sr (C.trans D) G.new),hI,(by rw[show M.br.length-(j+1)=Q by omega];exact N.1),((((((hFz.ch a).ch d).ch p).ch q).ch C).ch D),hLt.ch ((((((a.nil TM).n d).n p).trans (q)).n C).n D) F4,((((((hC.n a).n d).n p).trans q).n C).n D)⟩ K)
  .refine qI ((decide ((j:Int)<(lt.n:Int)))) false (H' (by omega)) (qR [] 1 [] λs9 g9 w9 T=>?_);obtain rfl:j=M.br.length:=by omega
   rw[o8]at hI
   rw[<- hI];refine qE (.tuple #[]) λK=>⟨_,rfl,(hM.sr (a.trans T) K.new),((hC.n a).n T)⟩
end
end
end Go.Proofs.YthkjeoamjgnpoaaGreatDoor
